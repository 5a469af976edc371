/- Contracts and lemmas that the claims of this seat share: Str, StepMem, StepTable, StepFine, Ret0, StepClear, FieldsSame. Each says its own conditions. -/
import Derived.Test.YtaciegkblklokaaGreatCmA
import Derived.Laws.BytesArg
import Derived.Laws.Concat
import Derived.Test.YtaciegkblklokaaGreatCmB
import Derived.Test.YtaciegkblklokaaGreatCmC
import Derived.Test.YtaciegkblklokaaGreatCmG
import Derived.Test.YtaciegkblklokaaGreatCmD
import Derived.Laws.StructEq
set_option linter.unusedVariables false
namespace Go.Proofs.YtaciegkblklokaaGreat.texts
open Go.RowKit
def strL (l : List UInt8) : ByteArray := ⟨l.toArray⟩
theorem strL_size (l : List UInt8) : (strL l).size = l.length := by simp [strL, ByteArray.size]
theorem strL_toList (l : List UInt8) : (strL l).toList = l := ByteArray.toList_mk l
end Go.Proofs.YtaciegkblklokaaGreat.texts
namespace Go.Proofs.YtaciegkblklokaaGreat.step
open Go.RowKit
open Go.Proofs.YtaciegkblklokaaGreat.field (Gives newB gives_from)
theorem within_any (n lo hi : Int) (w : World) : Calls Tryz.prog 99 #[.int .i64 n, .int .i64 lo, .int .i64 hi] w (Gives (.bool (decide (lo ≤ n ∧ n ≤ hi))) w) := by
 obtain ⟨v, hv⟩ : ∃ v : Bool, Hid (decide (lo ≤ n ∧ n ≤ hi) = v) := ⟨_, rfl⟩
 rw [hv.out]
 unfold Gives
 by_cases h1 : lo ≤ n
 ·by_cases h2 : n ≤ hi
  ·obtain rfl : true = v := by rw [← hv.out]; simp [h1, h2]
   skip
   go_enter Tryz.func99, Tryz.ntmps99
   go_wp2
   go_ret
   exact ⟨rfl, Below.refl _ _⟩
  ·obtain rfl : false = v := by rw [← hv.out]; simp [h1, h2]
   have hd : decide (n ≤ hi) = false := decide_eq_false h2
   skip
   go_enter Tryz.func99, Tryz.ntmps99
   go_wp2
   go_ret
   exact ⟨rfl, Below.refl _ _⟩
 ·obtain rfl : false = v := by rw [← hv.out]; simp [h1]
  have hd : decide (lo ≤ n) = false := decide_eq_false h1
  go_enter Tryz.func99, Tryz.ntmps99
  go_wp2
  go_ret
  exact ⟨rfl, Below.refl _ _⟩
theorem between_any (n lo hi : Int) (w : World) : Calls Tryz.prog 29 #[.int .i64 n, .int .i64 lo, .int .i64 hi] w (Gives (.bool (decide (lo ≤ n ∧ n ≤ hi))) w) := by
 obtain ⟨v, hv⟩ : ∃ v : Bool, Hid (decide (lo ≤ n ∧ n ≤ hi) = v) := ⟨_, rfl⟩
 rw [hv.out]
 unfold Gives
 by_cases h1 : lo ≤ n
 ·by_cases h2 : n ≤ hi
  ·obtain rfl : true = v := by rw [← hv.out]; simp [h1, h2]
   have hg : decide (n ≥ lo) = true := decide_eq_true h1
   go_enter Tryz.func29, Tryz.ntmps29
   go_wp2
   go_ret
   exact ⟨rfl, Below.refl _ _⟩
  ·obtain rfl : false = v := by rw [← hv.out]; simp [h1, h2]
   have hd : decide (n ≤ hi) = false := decide_eq_false h2
   have hg : decide (n ≥ lo) = true := decide_eq_true h1
   go_enter Tryz.func29, Tryz.ntmps29
   go_wp2
   go_ret
   exact ⟨rfl, Below.refl _ _⟩
 ·obtain rfl : false = v := by rw [← hv.out]; simp [h1]
  have hd : decide (n ≥ lo) = false := decide_eq_false h1
  go_enter Tryz.func29, Tryz.ntmps29
  go_wp2
  go_ret
  exact ⟨rfl, Below.refl _ _⟩
def insV (l : List Int) : List Value := l.map fun n => Value.int .i64 n
def memI (op : Int) : List Int := (mem op).map fun m : Nat => (m : Int)
theorem memI_len (op : Int) : (memI op).length = (mem op).length := List.length_map _
theorem memI_at {op : Int} {k : Nat} {m : Nat} (h : (mem op)[k]? = some m) : (memI op)[k]? = some (m : Int) := by simp [memI, h]
def MRow (w : World) (a : Option Addr) (op : Int) : Prop := mem op = [] ∨ ∃ g, a = some ⟨g, 0, none⟩ ∧ Block w g 114 (insV (memI op))
theorem MRow.ins {w : World} {a : Option Addr} {op : Int} (h : MRow w a op) : Ins w a (memI op) := by
 rcases h with h | ⟨g, rfl, hB⟩
 ·exact .inl (by unfold memI; rw [h]; rfl)
 ·refine .inr ⟨g, 0, rfl, hB.lt, fun i n hi => ?_⟩
  rw [Nat.zero_add, hB.cell]
  simp [insV, hi]
def Members (op : Int) (w : World) (e : Ending) (w' : World) : Prop := ∃ (a : Option Addr) (c : Nat), e = .returned (.slice a (mem op).length c) ∧ MRow w' a op ∧ Below w.heap.size w w'
set_option maxHeartbeats 1600000 in
theorem members_any (op : Int) (w : World) : Calls Tryz.prog 81 #[.int .i64 op] w (Members op w) := by
 unfold Members
 rcases ops op with h | h
 ·rcases h with rfl | rfl | rfl | rfl | rfl | rfl | rfl | rfl | rfl | rfl | rfl | rfl | rfl | rfl | rfl | rfl | rfl | rfl | rfl | rfl
  ·go_enter Tryz.func81, Tryz.ntmps81
   go_wp2
   go_ret
   exact ⟨_, _, rfl, .inr ⟨_, rfl, Block.new w 114 (insV [0, 2, 9])⟩, newB _ _⟩
  ·go_enter Tryz.func81, Tryz.ntmps81
   go_wp2
   go_ret
   exact ⟨_, _, rfl, .inr ⟨_, rfl, Block.new w 114 (insV [0, 2, 9])⟩, newB _ _⟩
  ·go_enter Tryz.func81, Tryz.ntmps81
   go_wp2
   go_ret
   exact ⟨_, _, rfl, .inr ⟨_, rfl, Block.new w 114 (insV [0, 1, 10])⟩, newB _ _⟩
  ·go_enter Tryz.func81, Tryz.ntmps81
   go_wp2
   go_ret
   exact ⟨_, _, rfl, .inr ⟨_, rfl, Block.new w 114 (insV [0, 1, 8])⟩, newB _ _⟩
  ·go_enter Tryz.func81, Tryz.ntmps81
   go_wp2
   go_ret
   exact ⟨_, _, rfl, .inr ⟨_, rfl, Block.new w 114 (insV [0, 1, 8])⟩, newB _ _⟩
  ·go_enter Tryz.func81, Tryz.ntmps81
   go_wp2
   go_ret
   exact ⟨_, _, rfl, .inr ⟨_, rfl, Block.new w 114 (insV [0, 1, 5])⟩, newB _ _⟩
  ·go_enter Tryz.func81, Tryz.ntmps81
   go_wp2
   go_ret
   exact ⟨_, _, rfl, .inr ⟨_, rfl, Block.new w 114 (insV [0, 1, 5, 8])⟩, newB _ _⟩
  ·go_enter Tryz.func81, Tryz.ntmps81
   go_wp2
   go_ret
   exact ⟨_, _, rfl, .inr ⟨_, rfl, Block.new w 114 (insV [0, 1, 6])⟩, newB _ _⟩
  ·go_enter Tryz.func81, Tryz.ntmps81
   go_wp2
   go_ret
   exact ⟨_, _, rfl, .inr ⟨_, rfl, Block.new w 114 (insV [0, 1, 7])⟩, newB _ _⟩
  ·go_enter Tryz.func81, Tryz.ntmps81
   go_wp2
   go_ret
   exact ⟨_, _, rfl, .inr ⟨_, rfl, Block.new w 114 (insV [0, 1, 4, 3])⟩, newB _ _⟩
  ·go_enter Tryz.func81, Tryz.ntmps81
   go_wp2
   go_ret
   exact ⟨_, _, rfl, .inr ⟨_, rfl, Block.new w 114 (insV [0, 1, 4, 3, 8])⟩, newB _ _⟩
  ·go_enter Tryz.func81, Tryz.ntmps81
   go_wp2
   go_ret
   exact ⟨_, _, rfl, .inr ⟨_, rfl, Block.new w 114 (insV [0, 1, 2])⟩, newB _ _⟩
  ·go_enter Tryz.func81, Tryz.ntmps81
   go_wp2
   go_ret
   exact ⟨_, _, rfl, .inr ⟨_, rfl, Block.new w 114 (insV [0, 1, 2])⟩, newB _ _⟩
  ·go_enter Tryz.func81, Tryz.ntmps81
   go_wp2
   go_ret
   exact ⟨_, _, rfl, .inr ⟨_, rfl, Block.new w 114 (insV [0, 1, 3])⟩, newB _ _⟩
  ·go_enter Tryz.func81, Tryz.ntmps81
   go_wp2
   go_ret
   exact ⟨_, _, rfl, .inr ⟨_, rfl, Block.new w 114 (insV [0, 1, 3])⟩, newB _ _⟩
  ·go_enter Tryz.func81, Tryz.ntmps81
   go_wp2
   go_ret
   exact ⟨_, _, rfl, .inr ⟨_, rfl, Block.new w 114 (insV [0, 11])⟩, newB _ _⟩
  ·go_enter Tryz.func81, Tryz.ntmps81
   go_wp2
   go_ret
   exact ⟨_, _, rfl, .inr ⟨_, rfl, Block.new w 114 (insV [0, 11])⟩, newB _ _⟩
  ·go_enter Tryz.func81, Tryz.ntmps81
   go_wp2
   go_ret
   exact ⟨_, _, rfl, .inr ⟨_, rfl, Block.new w 114 (insV [0])⟩, newB _ _⟩
  ·go_enter Tryz.func81, Tryz.ntmps81
   go_wp2
   go_ret
   exact ⟨_, _, rfl, .inr ⟨_, rfl, Block.new w 114 (insV [0])⟩, newB _ _⟩
  ·go_enter Tryz.func81, Tryz.ntmps81
   go_wp2
   go_ret
   exact ⟨_, _, rfl, .inr ⟨_, rfl, Block.new w 114 (insV [0, 1])⟩, newB _ _⟩
 ·have hm := (mem_none h).1
  obtain ⟨L, hL⟩ : ∃ L, Hid (mem op = L) := ⟨_, rfl⟩
  have hI : ∀ W, MRow W none op := fun W => .inl hm
  rw [hm]
  obtain ⟨n0, n1, n2, n3, n4, n5, n6, n7, n8, n9, n10, n11, n12, n13, n14, n15, n16, n17, n18, n19⟩ := h
  have d0 : (op == 1) = false := by simpa using n0
  have d1 : (op == 22) = false := by simpa using n1
  have d2 : (op == 2) = false := by simpa using n2
  have d3 : (op == 3) = false := by simpa using n3
  have d4 : (op == 23) = false := by simpa using n4
  have d5 : (op == 4) = false := by simpa using n5
  have d6 : (op == 24) = false := by simpa using n6
  have d7 : (op == 5) = false := by simpa using n7
  have d8 : (op == 25) = false := by simpa using n8
  have d9 : (op == 6) = false := by simpa using n9
  have d10 : (op == 26) = false := by simpa using n10
  have d11 : (op == 7) = false := by simpa using n11
  have d12 : (op == 27) = false := by simpa using n12
  have d13 : (op == 8) = false := by simpa using n13
  have d14 : (op == 28) = false := by simpa using n14
  have d15 : (op == 9) = false := by simpa using n15
  have d16 : (op == 30) = false := by simpa using n16
  have d17 : (op == 10) = false := by simpa using n17
  have d18 : (op == 29) = false := by simpa using n18
  have d19 : (op == 21) = false := by simpa using n19
  clear hm hL n0 n1 n2 n3 n4 n5 n6 n7 n8 n9 n10 n11 n12 n13 n14 n15 n16 n17 n18 n19
  go_enter Tryz.func81, Tryz.ntmps81
  go_wp2
  go_ret
  exact ⟨_, _, rfl, hI _, Below.refl _ _⟩
def usesS (op : Int) : ByteArray := texts.strL (uses op)
set_option maxHeartbeats 1600000 in
theorem uses_any (op : Int) (w : World) : Calls Tryz.prog 27 #[.int .i64 op] w (Gives (.string (usesS op)) w) := by
 unfold Gives
 rcases ops op with h | h
 ·rcases h with rfl | rfl | rfl | rfl | rfl | rfl | rfl | rfl | rfl | rfl | rfl | rfl | rfl | rfl | rfl | rfl | rfl | rfl | rfl | rfl <;>
  ·go_enter Tryz.func27, Tryz.ntmps27
   go_wp2
   go_ret
   exact ⟨rfl, Below.refl _ _⟩
 ·have hm : usesS op = ⟨#[]⟩ := by unfold usesS; rw [(mem_none h).2]; rfl
  rw [hm]
  obtain ⟨n0, n1, n2, n3, n4, n5, n6, n7, n8, n9, n10, n11, n12, n13, n14, n15, n16, n17, n18, n19⟩ := h
  have d0 : (op == 1) = false := by simpa using n0
  have d1 : (op == 22) = false := by simpa using n1
  have d2 : (op == 2) = false := by simpa using n2
  have d3 : (op == 3) = false := by simpa using n3
  have d4 : (op == 23) = false := by simpa using n4
  have d5 : (op == 4) = false := by simpa using n5
  have d6 : (op == 24) = false := by simpa using n6
  have d7 : (op == 5) = false := by simpa using n7
  have d8 : (op == 25) = false := by simpa using n8
  have d9 : (op == 6) = false := by simpa using n9
  have d10 : (op == 26) = false := by simpa using n10
  have d11 : (op == 7) = false := by simpa using n11
  have d12 : (op == 27) = false := by simpa using n12
  have d13 : (op == 8) = false := by simpa using n13
  have d14 : (op == 28) = false := by simpa using n14
  have d15 : (op == 9) = false := by simpa using n15
  have d16 : (op == 30) = false := by simpa using n16
  have d17 : (op == 10) = false := by simpa using n17
  have d18 : (op == 29) = false := by simpa using n18
  have d19 : (op == 21) = false := by simpa using n19
  clear hm n0 n1 n2 n3 n4 n5 n6 n7 n8 n9 n10 n11 n12 n13 n14 n15 n16 n17 n18 n19
  go_enter Tryz.func27, Tryz.ntmps27
  go_wp2
  go_ret
  exact ⟨rfl, Below.refl _ _⟩
end Go.Proofs.YtaciegkblklokaaGreat.step
namespace Go.Proofs.YtaciegkblklokaaGreat.step
open Go.RowKit
open Go.Proofs.YtaciegkblklokaaGreat.field (Gives newB gives_from)
open Go.Proofs.YtaciegkblklokaaGreat.schema (take_succ_at below_out)
def seenT (l : List Int) : List Value := (List.range 1000).map fun j : Nat => Value.bool (decide ((j : Int) ∈ l))
theorem seenT_at (l : List Int) (n : Nat) (h : n < 1000) : (seenT l)[n]? = some (.bool (decide ((n : Int) ∈ l))) := by simp [seenT, h]
theorem seenT_set (l : List Int) (n : Nat) (h : n < 1000) : (seenT l).set n (.bool true) = seenT (l ++ [(n : Int)]) := by
 apply List.ext_getElem?
 intro i
 rw [List.getElem?_set]
 by_cases hi : i < 1000
 ·rw [seenT_at _ i hi, seenT_at _ i hi]
  by_cases hn : n = i
  ·subst hn; simp [seenT, h]
  ·rw [if_neg hn]
   simp; omega
 ·simp [seenT]
  simp [hi]
  omega
theorem seenT_zero : Tryz.zeroCells131 = (seenT []).toArray := by kernel_rfl
def TabOk (lim : Int) (l : List Int) : Prop := (∀ n ∈ l, 0 ≤ n ∧ n ≤ lim - 1) ∧ l.Nodup
theorem tab_succ {lim : Int} {L : List Int} {k : Nat} {x : Int} (h : L[k]? = some x) : TabOk lim (L.take (k + 1)) ↔ TabOk lim (L.take k) ∧ (0 ≤ x ∧ x ≤ lim - 1) ∧ x ∉ L.take k := by
 rw [take_succ_at h]
 unfold TabOk
 simp only [List.nodup_append, List.mem_append, List.mem_singleton]
 constructor
 ·rintro ⟨h1, h2, h3, h4⟩
  exact ⟨⟨fun n hn => h1 n (.inl hn), h2⟩, h1 x (.inr rfl), fun hm => h4 _ hm _ rfl rfl⟩
 ·rintro ⟨⟨h1, h2⟩, h3, h4⟩
  exact ⟨fun n hn => hn.elim (h1 n) (fun e => e ▸ h3), h2, by simp, fun a ha b hb e => h4 (by rw [← hb, ← e]; exact ha)⟩
theorem tab_take {lim : Int} {L : List Int} (h : TabOk lim L) (k : Nat) : TabOk lim (L.take k) :=
 ⟨fun n hn => h.1 n (List.mem_of_mem_take hn), h.2.sublist (List.take_sublist _ _)⟩
theorem tab_no {lim : Int} {L : List Int} {k : Nat} {x : Int} (h : L[k]? = some x) (hn : ¬ ((0 ≤ x ∧ x ≤ lim - 1) ∧ x ∉ L.take k)) : ¬ TabOk lim L := fun hf => hn ((tab_succ h).1 (tab_take hf _)).2
theorem int_at {w w' : World} {a : Option Addr} {L : List Int} (h : Ins w a L) (hb : Below w.heap.size w w') {k : Nat} (hk : k < L.length) :
  ∃ b off p, a = some ⟨b, off, none⟩ ∧ b < w'.heap.size ∧ L[k]? = some p ∧ w'.cell? ⟨b, off + k, none⟩ = some (.int .i64 p) := (h.below hb).at hk
set_option maxRecDepth 20000 in
theorem fineTable_any (a : Option Addr) (cap : Nat) (L : List Int) (lim : Int) (h1 : 1 ≤ lim) (h2 : lim ≤ 1000) (w : World) (h : Ins w a L) (hL : L.length ≤ maxLen) :
  Calls Tryz.prog 100 #[.slice a L.length cap, .int .i64 lim] w (Gives (.bool (decide (Table L lim))) w) := by
 have hml : (L.length : Int) ≤ 9223372036854775807 := by unfold maxLen at hL; omega
 obtain ⟨v, hv⟩ : ∃ v : Bool, Hid (decide (Table L lim) = v) := ⟨_, rfl⟩
 rw [hv.out]
 have cW := within_any (L.length : Int) 1 64
 unfold Gives at cW ⊢
 have HF := hid h
 clear h hL
 by_cases h3 : 1 ≤ L.length ∧ L.length ≤ 64
 ·rw [show decide ((1 : Int) ≤ (L.length : Int) ∧ (L.length : Int) ≤ 64) = true from decide_eq_true (by omega)] at cW
  have HTI : Hid (Table L lim ↔ TabOk lim L) := hid ⟨fun h => h.2, fun h => ⟨h3, h⟩⟩
  have cV := fun n (w' : World) => within_any n 0 (lim - 1) w'
  clear h3
  go_enter Tryz.func100, Tryz.ntmps100
  go_wp2_with (go_at_call 99; ((with_reducible refine (cW _).mono ?_); rintro e w1 ⟨rfl, hb1⟩; have HB1 := hid hb1; have HZ : Hid (Block (w1.alloc (.cells Tryz.zeroCells131 131)) w1.heap.size 131 (seenT [])) := (by rw [seenT_zero]; exact hid (Block.new w1 131 (seenT []))); have HN := hid (newB w1 (.cells Tryz.zeroCells131 131)); have HLE := hid hb1.size; clear hb1))
  have HF1 := hid (HF.out.below HB1.out)
  clear cW
  generalize w1.alloc (.cells Tryz.zeroCells131 131) = w2 at *
  obtain ⟨B, hB⟩ : ∃ B : Nat, Hid (w1.heap.size = B) := ⟨_, rfl⟩
  rw [hB.out] at HZ HLE ⊢
  go_loopw [14] (fun n wr => ∃ k : Nat, k ≤ L.length ∧ n = .int .i64 (k : Int) ∧ Hid (TabOk lim (L.take k)) ∧ Hid (Block wr B 131 (seenT (L.take k))) ∧ Hid (Below w1.heap.size w1 wr)) (fun n _ => L.length - (intOf n).toNat)
  case atStart => exact ⟨0, Nat.zero_le _, rfl, hid ⟨by simp, by simp⟩, HZ, HN⟩
  case round =>
   obtain ⟨k, hk, rfl, HOK, HBl, HB⟩ := hrel
   by_cases hlt : k < L.length
   ·obtain ⟨b, off, p, rfl, hbl, hp, c0⟩ := int_at HF1.out HB.out hlt
    have i1 : (k : Int) < L.length := by omega
    have HP := hid hp
    have HNO := hid (tab_no (lim := lim) hp)
    have HSUC := hid (tab_succ (lim := lim) hp)
    have HTK := hid (take_succ_at hp)
    have cs := fun w' => cV p w'
    clear hp
    generalize hI : L.take k = I at *
    clear hI
    by_cases hr : 0 ≤ p ∧ p ≤ lim - 1
    ·obtain ⟨n, rfl⟩ := Int.eq_ofNat_of_zero_le hr.1
     have hn2 : n < 1000 := by omega
     have hn3 : (n : Int) < 1000 := by omega
     rw [decide_eq_true hr] at cs
     have HR := hid hr
     clear hr
     have hsd := seenT_at I n hn2
     by_cases hm : (n : Int) ∈ I
     ·rw [decide_eq_true hm] at hsd
      obtain rfl : false = v := by rw [← hv.out]; exact (decide_eq_false (fun h => HNO.out (fun h => h.2 hm) (HTI.out.1 h))).symm
      clear hm
      go_wp2_with (go_at_call 99; ((with_reducible refine (cs _).mono ?_); rintro e w3 ⟨rfl, hb3⟩; have hc := (HBl.out.later hb3).cell n; rw [hsd] at hc))
      go_ret
      exact ⟨rfl, HB1.out.trans ((HB.out.trans (hb3.mono HB.out.size)).mono HB1.out.size)⟩
     ·rw [decide_eq_false hm] at hsd
      have HM := hid hm
      clear hm
      go_wp2_with (go_at_call 99; ((with_reducible refine (cs _).mono ?_); rintro e w3 ⟨rfl, hb3⟩; have hblk := HBl.out.later hb3; have hc := hblk.cell n; rw [hsd] at hc; have hfz := hblk.frozen n; have HBK := hid hblk; clear hblk))
      refine ⟨⟨k + 1, by omega, by go_num, hid (HSUC.out.2 ⟨HOK.out, HR.out, HM.out⟩), hid ?_, hid ?_⟩, by simp [intOf]; omega⟩
      ·have := HBK.out.setCell n (.bool true)
       rw [seenT_set _ _ (by omega)] at this
       rw [HTK.out]; exact this
      ·exact below_setCells (HB.out.trans (hb3.mono HB.out.size)) (by rw [hB.out]; exact Nat.le_refl _) n [.bool true]
    ·obtain rfl : false = v := by rw [← hv.out]; exact (decide_eq_false (fun h => HNO.out (fun h => hr h.1) (HTI.out.1 h))).symm
     rw [decide_eq_false hr] at cs
     clear hr
     go_wp2_with (go_at_call 99; ((with_reducible refine (cs _).mono ?_); rintro e w3 ⟨rfl, hb3⟩))
     go_ret
     exact ⟨rfl, HB1.out.trans ((HB.out.trans (hb3.mono HB.out.size)).mono HB1.out.size)⟩
   ·obtain rfl : k = L.length := by omega
    obtain rfl : true = v := by rw [← hv.out]; have := HOK.out; rw [List.take_of_length_le (Nat.le_refl _)] at this; exact (decide_eq_true (HTI.out.2 this)).symm
    go_wp2
    go_ret
    exact ⟨rfl, HB1.out.trans (HB.out.mono HB1.out.size)⟩
 ·rw [show decide ((1 : Int) ≤ (L.length : Int) ∧ (L.length : Int) ≤ 64) = false from decide_eq_false (by omega)] at cW
  obtain rfl : false = v := by rw [← hv.out]; exact (decide_eq_false (fun h => h3 h.1)).symm
  clear h3
  go_enter Tryz.func100, Tryz.ntmps100
  go_wp2_with (go_at_call 99; ((with_reducible refine (cW _).mono ?_); rintro e w1 ⟨rfl, hb1⟩))
  go_ret
  exact ⟨rfl, hb1⟩
end Go.Proofs.YtaciegkblklokaaGreat.step
namespace Go.Proofs.YtaciegkblklokaaGreat.step
open Go.RowKit
open Go.Proofs.YtaciegkblklokaaGreat.field (Gives newB gives_from)
open Go.Proofs.YtaciegkblklokaaGreat.schema (below_out)
set_option maxRecDepth 20000 in
theorem fine0 (s : Sp) (ta : Option Addr) (tc : Nat) (la : Option Addr) (lc : Nat) (w : World) (h : Lists w s ta la) : Calls Tryz.prog 82 #[zP s ta tc la lc, .int .i64 0] w (Gives (.bool (decide (s.Fine 0))) w) := by
 have HX := hid (boxP s ta tc la lc w)
 have HL := hid (h.below (newB w (.cells (zP s ta tc la lc) 32)))
 obtain ⟨r, hr⟩ : ∃ r : Bool, Hid (decide (s.Fine 0) = r) := ⟨_, rfl⟩
 rw [hr.out]
 unfold Gives
 clear h
 have cW : From 99 #[.int .i64 s.fm, .int .i64 0, .int .i64 200] (.bool r) (w.alloc (.cells (zP s ta tc la lc) 32)) := from_all _ (fun w' => hr.out ▸ within_any s.fm 0 200 w')
 go_enter Tryz.func82, Tryz.ntmps82
 go_wp2_with (first
  | (go_at_call 99; ((with_reducible refine (cW _ (by first | exact Below.refl _ _ | assumption)).mono ?_); rintro e w2 ⟨rfl, hb2⟩; obtain ⟨⟨z0, z1, z2, z3, z4, z5, z6, z7, z8, z9, z10, z11, z12, z13, z14, z15⟩, hbo⟩ := HX.out _ hb2)))
 go_ret
 exact ⟨rfl, hbo⟩
set_option maxRecDepth 20000 in
theorem fine1 (s : Sp) (ta : Option Addr) (tc : Nat) (la : Option Addr) (lc : Nat) (w : World) (h : Lists w s ta la) : Calls Tryz.prog 82 #[zP s ta tc la lc, .int .i64 1] w (Gives (.bool (decide (s.Fine 1))) w) := by
 have HX := hid (boxP s ta tc la lc w)
 have HL := hid (h.below (newB w (.cells (zP s ta tc la lc) 32)))
 obtain ⟨r, hr⟩ : ∃ r : Bool, Hid (decide (s.Fine 1) = r) := ⟨_, rfl⟩
 rw [hr.out]
 unfold Gives
 clear h
 have cW : From 99 #[.int .i64 s.fd, .int .i64 0, .int .i64 255] (.bool r) (w.alloc (.cells (zP s ta tc la lc) 32)) := from_all _ (fun w' => hr.out ▸ within_any s.fd 0 255 w')
 go_enter Tryz.func82, Tryz.ntmps82
 go_wp2_with (first
  | (go_at_call 99; ((with_reducible refine (cW _ (by first | exact Below.refl _ _ | assumption)).mono ?_); rintro e w2 ⟨rfl, hb2⟩; obtain ⟨⟨z0, z1, z2, z3, z4, z5, z6, z7, z8, z9, z10, z11, z12, z13, z14, z15⟩, hbo⟩ := HX.out _ hb2)))
 go_ret
 exact ⟨rfl, hbo⟩
set_option maxRecDepth 20000 in
theorem fine2 (s : Sp) (ta : Option Addr) (tc : Nat) (la : Option Addr) (lc : Nat) (w : World) (h : Lists w s ta la) : Calls Tryz.prog 82 #[zP s ta tc la lc, .int .i64 2] w (Gives (.bool (decide (s.Fine 2))) w) := by
 have HX := hid (boxP s ta tc la lc w)
 have HL := hid (h.below (newB w (.cells (zP s ta tc la lc) 32)))
 obtain ⟨r, hr⟩ : ∃ r : Bool, Hid (decide (s.Fine 2) = r) := ⟨_, rfl⟩
 rw [hr.out]
 unfold Gives
 clear h
 have cW : From 99 #[.int .i64 s.pl, .int .i64 0, .int .i64 8] (.bool r) (w.alloc (.cells (zP s ta tc la lc) 32)) := from_all _ (fun w' => hr.out ▸ within_any s.pl 0 8 w')
 go_enter Tryz.func82, Tryz.ntmps82
 go_wp2_with (first
  | (go_at_call 99; ((with_reducible refine (cW _ (by first | exact Below.refl _ _ | assumption)).mono ?_); rintro e w2 ⟨rfl, hb2⟩; obtain ⟨⟨z0, z1, z2, z3, z4, z5, z6, z7, z8, z9, z10, z11, z12, z13, z14, z15⟩, hbo⟩ := HX.out _ hb2)))
 go_ret
 exact ⟨rfl, hbo⟩
set_option maxRecDepth 20000 in
theorem fine4 (s : Sp) (ta : Option Addr) (tc : Nat) (la : Option Addr) (lc : Nat) (w : World) (h : Lists w s ta la) : Calls Tryz.prog 82 #[zP s ta tc la lc, .int .i64 4] w (Gives (.bool (decide (s.Fine 4))) w) := by
 have HX := hid (boxP s ta tc la lc w)
 have HL := hid (h.below (newB w (.cells (zP s ta tc la lc) 32)))
 obtain ⟨r, hr⟩ : ∃ r : Bool, Hid (decide (s.Fine 4) = r) := ⟨_, rfl⟩
 rw [hr.out]
 unfold Gives
 clear h
 have cW : From 99 #[.int .i64 s.a, .int .i64 2, .int .i64 1048576] (.bool r) (w.alloc (.cells (zP s ta tc la lc) 32)) := from_all _ (fun w' => hr.out ▸ within_any s.a 2 1048576 w')
 go_enter Tryz.func82, Tryz.ntmps82
 go_wp2_with (first
  | (go_at_call 99; ((with_reducible refine (cW _ (by first | exact Below.refl _ _ | assumption)).mono ?_); rintro e w2 ⟨rfl, hb2⟩; obtain ⟨⟨z0, z1, z2, z3, z4, z5, z6, z7, z8, z9, z10, z11, z12, z13, z14, z15⟩, hbo⟩ := HX.out _ hb2)))
 go_ret
 exact ⟨rfl, hbo⟩
set_option maxRecDepth 20000 in
theorem fine3 (s : Sp) (ta : Option Addr) (tc : Nat) (la : Option Addr) (lc : Nat) (w : World) (h : Lists w s ta la) : Calls Tryz.prog 82 #[zP s ta tc la lc, .int .i64 3] w (Gives (.bool (decide (s.Fine 3))) w) := by
 have HX := hid (boxP s ta tc la lc w)
 have HL := hid (h.below (newB w (.cells (zP s ta tc la lc) 32)))
 obtain ⟨r, hr⟩ : ∃ r : Bool, Hid (decide (s.Fine 3) = r) := ⟨_, rfl⟩
 rw [hr.out]
 unfold Gives
 clear h
 have cW := fun v (hv : decide (0 ≤ s.tt ∧ s.tt ≤ 255) = v) => from_all (w.alloc (.cells (zP s ta tc la lc) 32)) (fun w' => hv ▸ within_any s.tt 0 255 w')
 by_cases h1 : 0 ≤ s.tt ∧ s.tt ≤ 255
 ·replace cW := cW true (decide_eq_true h1)
  by_cases h2 : s.tt = s.fd
  ·obtain rfl : false = r := by rw [← hr.out]; exact (decide_eq_false (fun h => h.2 h2)).symm
   have d2 : (s.tt != s.fd) = false := by simp [h2]
   have d3 : (s.tt == s.fd) = true := by simp [h2]
   clear h1 h2
   go_enter Tryz.func82, Tryz.ntmps82
   go_wp2_with (first
    | (go_at_call 99; ((with_reducible refine (cW _ (by first | exact Below.refl _ _ | assumption)).mono ?_); rintro e w2 ⟨rfl, hb2⟩; obtain ⟨⟨z0, z1, z2, z3, z4, z5, z6, z7, z8, z9, z10, z11, z12, z13, z14, z15⟩, hbo⟩ := HX.out _ hb2)))
   go_ret
   exact ⟨rfl, hbo⟩
  ·obtain rfl : true = r := by rw [← hr.out]; exact (decide_eq_true ⟨h1, h2⟩).symm
   have d2 : (s.tt != s.fd) = true := by simp [h2]
   have d3 : (s.tt == s.fd) = false := by simp [h2]
   clear h1 h2
   go_enter Tryz.func82, Tryz.ntmps82
   go_wp2_with (first
    | (go_at_call 99; ((with_reducible refine (cW _ (by first | exact Below.refl _ _ | assumption)).mono ?_); rintro e w2 ⟨rfl, hb2⟩; obtain ⟨⟨z0, z1, z2, z3, z4, z5, z6, z7, z8, z9, z10, z11, z12, z13, z14, z15⟩, hbo⟩ := HX.out _ hb2)))
   go_ret
   exact ⟨rfl, hbo⟩
 ·replace cW := cW false (decide_eq_false h1)
  obtain rfl : false = r := by rw [← hr.out]; exact (decide_eq_false (fun h => h1 h.1)).symm
  clear h1
  go_enter Tryz.func82, Tryz.ntmps82
  go_wp2_with (first
   | (go_at_call 99; ((with_reducible refine (cW _ (by first | exact Below.refl _ _ | assumption)).mono ?_); rintro e w2 ⟨rfl, hb2⟩; obtain ⟨⟨z0, z1, z2, z3, z4, z5, z6, z7, z8, z9, z10, z11, z12, z13, z14, z15⟩, hbo⟩ := HX.out _ hb2)))
  go_ret
  exact ⟨rfl, hbo⟩
set_option maxRecDepth 20000 in
theorem fine5 (s : Sp) (ta : Option Addr) (tc : Nat) (la : Option Addr) (lc : Nat) (w : World) (h : Lists w s ta la) : Calls Tryz.prog 82 #[zP s ta tc la lc, .int .i64 5] w (Gives (.bool (decide (s.Fine 5))) w) := by
 have HX := hid (boxP s ta tc la lc w)
 have HL := hid (h.below (newB w (.cells (zP s ta tc la lc) 32)))
 obtain ⟨r, hr⟩ : ∃ r : Bool, Hid (decide (s.Fine 5) = r) := ⟨_, rfl⟩
 rw [hr.out]
 unfold Gives
 clear h
 have cW := fun v (hv : decide (-1048576 ≤ s.a ∧ s.a ≤ 1048576) = v) => from_all (w.alloc (.cells (zP s ta tc la lc) 32)) (fun w' => hv ▸ within_any s.a (-1048576) 1048576 w')
 have cV := fun v (hv : decide (-1099511627776 ≤ s.b ∧ s.b ≤ 1099511627776) = v) => from_all (w.alloc (.cells (zP s ta tc la lc) 32)) (fun w' => hv ▸ within_any s.b (-1099511627776) 1099511627776 w')
 by_cases h1 : -1048576 ≤ s.a ∧ s.a ≤ 1048576
 ·replace cW := cW true (decide_eq_true h1)
  by_cases h2 : s.a = 0
  ·obtain rfl : false = r := by rw [← hr.out]; exact (decide_eq_false (fun h => h.1.2 h2)).symm
   have d2 : (s.a != 0) = false := by simp [h2]
   have d3 : (s.a == 0) = true := by simp [h2]
   clear h1 h2
   go_enter Tryz.func82, Tryz.ntmps82
   go_wp2_with (first
    | (go_at_call 99; ((with_reducible refine (cW _ (by first | exact Below.refl _ _ | assumption)).mono ?_); rintro e w2 ⟨rfl, hb2⟩; obtain ⟨⟨z0, z1, z2, z3, z4, z5, z6, z7, z8, z9, z10, z11, z12, z13, z14, z15⟩, hbo⟩ := HX.out _ hb2)))
   go_ret
   exact ⟨rfl, hbo⟩
  ·have d2 : (s.a != 0) = true := by simp [h2]
   have d3 : (s.a == 0) = false := by simp [h2]
   replace cV := cV r (by rw [← hr.out]; exact decide_eq_decide.2 ⟨fun h => ⟨⟨h1, h2⟩, h⟩, fun h => h.2⟩)
   clear h1 h2
   go_enter Tryz.func82, Tryz.ntmps82
   go_wp2_with (first
    | (go_at_call 99; ((with_reducible refine (cW _ (by first | exact Below.refl _ _ | assumption)).mono ?_); rintro e w2 ⟨rfl, hb2⟩; obtain ⟨⟨z0, z1, z2, z3, z4, z5, z6, z7, z8, z9, z10, z11, z12, z13, z14, z15⟩, hbo⟩ := HX.out _ hb2))
    | (go_at_call 99; ((with_reducible refine (cV _ (by first | exact Below.refl _ _ | assumption)).mono ?_); rintro e w2 ⟨rfl, hb2⟩; obtain ⟨⟨z0, z1, z2, z3, z4, z5, z6, z7, z8, z9, z10, z11, z12, z13, z14, z15⟩, hbo⟩ := HX.out _ hb2)))
   go_ret
   exact ⟨rfl, hbo⟩
 ·replace cW := cW false (decide_eq_false h1)
  obtain rfl : false = r := by rw [← hr.out]; exact (decide_eq_false (fun h => h1 h.1.1)).symm
  clear h1
  go_enter Tryz.func82, Tryz.ntmps82
  go_wp2_with (first
   | (go_at_call 99; ((with_reducible refine (cW _ (by first | exact Below.refl _ _ | assumption)).mono ?_); rintro e w2 ⟨rfl, hb2⟩; obtain ⟨⟨z0, z1, z2, z3, z4, z5, z6, z7, z8, z9, z10, z11, z12, z13, z14, z15⟩, hbo⟩ := HX.out _ hb2)))
  go_ret
  exact ⟨rfl, hbo⟩
set_option maxRecDepth 20000 in
theorem fine6 (s : Sp) (ta : Option Addr) (tc : Nat) (la : Option Addr) (lc : Nat) (w : World) (h : Lists w s ta la) : Calls Tryz.prog 82 #[zP s ta tc la lc, .int .i64 6] w (Gives (.bool (decide (s.Fine 6))) w) := by
 have HX := hid (boxP s ta tc la lc w)
 have HL := hid (h.below (newB w (.cells (zP s ta tc la lc) 32)))
 obtain ⟨r, hr⟩ : ∃ r : Bool, Hid (decide (s.Fine 6) = r) := ⟨_, rfl⟩
 rw [hr.out]
 unfold Gives
 clear h
 have cW := fun v (hv : decide (1 ≤ s.a ∧ s.a ≤ 1000) = v) => from_all (w.alloc (.cells (zP s ta tc la lc) 32)) (fun w' => hv ▸ within_any s.a 1 1000 w')
 by_cases h1 : 1 ≤ s.a ∧ s.a ≤ 1000
 ·replace cW := cW true (decide_eq_true h1)
  have cT : From 100 #[.slice ta s.t.length tc, .int .i64 s.a] (.bool r) (w.alloc (.cells (zP s ta tc la lc) 32)) := from_in _ (fun w' hb => by
   have e : decide (Table s.t s.a) = r := by rw [← hr.out]; exact decide_eq_decide.2 ⟨fun h => ⟨h1, h⟩, fun h => h.2⟩
   exact e ▸ fineTable_any ta tc s.t s.a h1.1 h1.2 w' ((HL.out.below hb).t) HL.out.mt)
  clear h1
  go_enter Tryz.func82, Tryz.ntmps82
  go_wp2_with (first
   | (go_at_call 99; ((with_reducible refine (cW _ (by first | exact Below.refl _ _ | assumption)).mono ?_); rintro e w2 ⟨rfl, hb2⟩; obtain ⟨⟨z0, z1, z2, z3, z4, z5, z6, z7, z8, z9, z10, z11, z12, z13, z14, z15⟩, hbo⟩ := HX.out _ hb2))
   | (go_at_call 100; ((with_reducible refine (cT _ (by first | exact Below.refl _ _ | assumption)).mono ?_); rintro e w2 ⟨rfl, hb2⟩; obtain ⟨⟨z0, z1, z2, z3, z4, z5, z6, z7, z8, z9, z10, z11, z12, z13, z14, z15⟩, hbo⟩ := HX.out _ hb2)))
  go_ret
  exact ⟨rfl, hbo⟩
 ·replace cW := cW false (decide_eq_false h1)
  obtain rfl : false = r := by rw [← hr.out]; exact (decide_eq_false (fun h => h1 h.1)).symm
  clear h1
  go_enter Tryz.func82, Tryz.ntmps82
  go_wp2_with (first
   | (go_at_call 99; ((with_reducible refine (cW _ (by first | exact Below.refl _ _ | assumption)).mono ?_); rintro e w2 ⟨rfl, hb2⟩; obtain ⟨⟨z0, z1, z2, z3, z4, z5, z6, z7, z8, z9, z10, z11, z12, z13, z14, z15⟩, hbo⟩ := HX.out _ hb2)))
  go_ret
  exact ⟨rfl, hbo⟩
set_option maxRecDepth 20000 in
theorem fine7 (s : Sp) (ta : Option Addr) (tc : Nat) (la : Option Addr) (lc : Nat) (w : World) (h : Lists w s ta la) : Calls Tryz.prog 82 #[zP s ta tc la lc, .int .i64 7] w (Gives (.bool (decide (s.Fine 7))) w) := by
 have HX := hid (boxP s ta tc la lc w)
 have HL := hid (h.below (newB w (.cells (zP s ta tc la lc) 32)))
 obtain ⟨r, hr⟩ : ∃ r : Bool, Hid (decide (s.Fine 7) = r) := ⟨_, rfl⟩
 rw [hr.out]
 unfold Gives
 clear h
 have cT : From 100 #[.slice ta s.t.length tc, .int .i64 1000] (.bool r) (w.alloc (.cells (zP s ta tc la lc) 32)) := from_in _ (fun w' hb => hr.out ▸ fineTable_any ta tc s.t 1000 (by omega) (by omega) w' ((HL.out.below hb).t) HL.out.mt)
 go_enter Tryz.func82, Tryz.ntmps82
 go_wp2_with (first
  | (go_at_call 100; ((with_reducible refine (cT _ (by first | exact Below.refl _ _ | assumption)).mono ?_); rintro e w2 ⟨rfl, hb2⟩; obtain ⟨⟨z0, z1, z2, z3, z4, z5, z6, z7, z8, z9, z10, z11, z12, z13, z14, z15⟩, hbo⟩ := HX.out _ hb2)))
 go_ret
 exact ⟨rfl, hbo⟩
set_option maxRecDepth 20000 in
theorem fine8 (s : Sp) (ta : Option Addr) (tc : Nat) (la : Option Addr) (lc : Nat) (w : World) (h : Lists w s ta la) : Calls Tryz.prog 82 #[zP s ta tc la lc, .int .i64 8] w (Gives (.bool (decide (s.Fine 8))) w) := by
 have HX := hid (boxP s ta tc la lc w)
 have HL := hid (h.below (newB w (.cells (zP s ta tc la lc) 32)))
 obtain ⟨r, hr⟩ : ∃ r : Bool, Hid (decide (s.Fine 8) = r) := ⟨_, rfl⟩
 rw [hr.out]
 unfold Gives
 clear h
 have cW := fun v (hv : decide s.f.Right = v) => from_all (w.alloc (.cells (zP s ta tc la lc) 32)) (fun w' => hv ▸ field.right_any s.f w')
 by_cases h1 : s.f.Right
 ·replace cW := cW true (decide_eq_true h1)
  by_cases h2 : s.f.id = s.fd
  ·obtain rfl : true = r := by rw [← hr.out]; exact (decide_eq_true ⟨h1, h2⟩).symm
   have d3 : (s.f.id == s.fd) = true := by simp [h2]
   clear h1 h2
   go_enter Tryz.func82, Tryz.ntmps82
   go_wp2_with (first
    | (go_at_call 97; ((with_reducible refine (cW _ (by first | exact Below.refl _ _ | assumption)).mono ?_); rintro e w2 ⟨rfl, hb2⟩; obtain ⟨⟨z0, z1, z2, z3, z4, z5, z6, z7, z8, z9, z10, z11, z12, z13, z14, z15⟩, hbo⟩ := HX.out _ hb2)))
   go_ret
   exact ⟨rfl, hbo⟩
  ·obtain rfl : false = r := by rw [← hr.out]; exact (decide_eq_false (fun h => h2 h.2)).symm
   have d3 : (s.f.id == s.fd) = false := by simp [h2]
   clear h1 h2
   go_enter Tryz.func82, Tryz.ntmps82
   go_wp2_with (first
    | (go_at_call 97; ((with_reducible refine (cW _ (by first | exact Below.refl _ _ | assumption)).mono ?_); rintro e w2 ⟨rfl, hb2⟩; obtain ⟨⟨z0, z1, z2, z3, z4, z5, z6, z7, z8, z9, z10, z11, z12, z13, z14, z15⟩, hbo⟩ := HX.out _ hb2)))
   go_ret
   exact ⟨rfl, hbo⟩
 ·replace cW := cW false (decide_eq_false h1)
  obtain rfl : false = r := by rw [← hr.out]; exact (decide_eq_false (fun h => h1 h.1)).symm
  clear h1
  go_enter Tryz.func82, Tryz.ntmps82
  go_wp2_with (first
   | (go_at_call 97; ((with_reducible refine (cW _ (by first | exact Below.refl _ _ | assumption)).mono ?_); rintro e w2 ⟨rfl, hb2⟩; obtain ⟨⟨z0, z1, z2, z3, z4, z5, z6, z7, z8, z9, z10, z11, z12, z13, z14, z15⟩, hbo⟩ := HX.out _ hb2)))
  go_ret
  exact ⟨rfl, hbo⟩
set_option maxRecDepth 20000 in
theorem fine9 (s : Sp) (ta : Option Addr) (tc : Nat) (la : Option Addr) (lc : Nat) (w : World) (h : Lists w s ta la) : Calls Tryz.prog 82 #[zP s ta tc la lc, .int .i64 9] w (Gives (.bool (decide (s.Fine 9))) w) := by
 have HX := hid (boxP s ta tc la lc w)
 have HL := hid (h.below (newB w (.cells (zP s ta tc la lc) 32)))
 obtain ⟨r, hr⟩ : ∃ r : Bool, Hid (decide (s.Fine 9) = r) := ⟨_, rfl⟩
 rw [hr.out]
 unfold Gives
 clear h
 have cH : From 85 #[zF s.f, zV s.v] (.bool r) (w.alloc (.cells (zP s ta tc la lc) 32)) := from_all _ (fun w' => hr.out ▸ field.has_any s.f s.v w')
 go_enter Tryz.func82, Tryz.ntmps82
 go_wp2_with (first
  | (go_at_call 85; ((with_reducible refine (cH _ (by first | exact Below.refl _ _ | assumption)).mono ?_); rintro e w2 ⟨rfl, hb2⟩; obtain ⟨⟨z0, z1, z2, z3, z4, z5, z6, z7, z8, z9, z10, z11, z12, z13, z14, z15⟩, hbo⟩ := HX.out _ hb2)))
 go_ret
 exact ⟨rfl, hbo⟩
set_option maxRecDepth 20000 in
theorem fine10 (s : Sp) (ta : Option Addr) (tc : Nat) (la : Option Addr) (lc : Nat) (w : World) (h : Lists w s ta la) : Calls Tryz.prog 82 #[zP s ta tc la lc, .int .i64 10] w (Gives (.bool (decide (s.Fine 10))) w) := by
 have HX := hid (boxP s ta tc la lc w)
 have HL := hid (h.below (newB w (.cells (zP s ta tc la lc) 32)))
 obtain ⟨r, hr⟩ : ∃ r : Bool, Hid (decide (s.Fine 10) = r) := ⟨_, rfl⟩
 rw [hr.out]
 unfold Gives
 clear h
 have cW := fun v (hv : decide (-1099511627776 ≤ s.v.n ∧ s.v.n ≤ 1099511627776) = v) => from_all (w.alloc (.cells (zP s ta tc la lc) 32)) (fun w' => hv ▸ within_any s.v.n (-1099511627776) 1099511627776 w')
 by_cases h1 : -1099511627776 ≤ s.v.n ∧ s.v.n ≤ 1099511627776
 ·replace cW := cW true (decide_eq_true h1)
  by_cases h2 : s.v.s.size ≤ 32
  ·obtain rfl : true = r := by rw [← hr.out]; exact (decide_eq_true ⟨h1, h2⟩).symm
   have d3 : decide ((s.v.s.size : Int) ≤ 32) = true := decide_eq_true (by omega)
   clear h1 h2
   go_enter Tryz.func82, Tryz.ntmps82
   go_wp2_with (first
    | (go_at_call 99; ((with_reducible refine (cW _ (by first | exact Below.refl _ _ | assumption)).mono ?_); rintro e w2 ⟨rfl, hb2⟩; obtain ⟨⟨z0, z1, z2, z3, z4, z5, z6, z7, z8, z9, z10, z11, z12, z13, z14, z15⟩, hbo⟩ := HX.out _ hb2)))
   go_ret
   exact ⟨rfl, hbo⟩
  ·obtain rfl : false = r := by rw [← hr.out]; exact (decide_eq_false (fun h => h2 h.2)).symm
   have d3 : decide ((s.v.s.size : Int) ≤ 32) = false := decide_eq_false (by omega)
   clear h1 h2
   go_enter Tryz.func82, Tryz.ntmps82
   go_wp2_with (first
    | (go_at_call 99; ((with_reducible refine (cW _ (by first | exact Below.refl _ _ | assumption)).mono ?_); rintro e w2 ⟨rfl, hb2⟩; obtain ⟨⟨z0, z1, z2, z3, z4, z5, z6, z7, z8, z9, z10, z11, z12, z13, z14, z15⟩, hbo⟩ := HX.out _ hb2)))
   go_ret
   exact ⟨rfl, hbo⟩
 ·replace cW := cW false (decide_eq_false h1)
  obtain rfl : false = r := by rw [← hr.out]; exact (decide_eq_false (fun h => h1 h.1)).symm
  clear h1
  go_enter Tryz.func82, Tryz.ntmps82
  go_wp2_with (first
   | (go_at_call 99; ((with_reducible refine (cW _ (by first | exact Below.refl _ _ | assumption)).mono ?_); rintro e w2 ⟨rfl, hb2⟩; obtain ⟨⟨z0, z1, z2, z3, z4, z5, z6, z7, z8, z9, z10, z11, z12, z13, z14, z15⟩, hbo⟩ := HX.out _ hb2)))
  go_ret
  exact ⟨rfl, hbo⟩
set_option maxRecDepth 20000 in
theorem fine11 (s : Sp) (ta : Option Addr) (tc : Nat) (la : Option Addr) (lc : Nat) (w : World) (h : Lists w s ta la) : Calls Tryz.prog 82 #[zP s ta tc la lc, .int .i64 11] w (Gives (.bool (decide (s.Fine 11))) w) := by
 have HX := hid (boxP s ta tc la lc w)
 have HL := hid (h.below (newB w (.cells (zP s ta tc la lc) 32)))
 obtain ⟨r, hr⟩ : ∃ r : Bool, Hid (decide (s.Fine 11) = r) := ⟨_, rfl⟩
 rw [hr.out]
 unfold Gives
 clear h
 have cS : From 57 #[zS s.fm la s.l.length lc] (.bool r) (w.alloc (.cells (zP s ta tc la lc) 32)) := from_in _ (fun w' hb => hr.out ▸ schema.fine_any s.fm la lc s.l w' ((HL.out.below hb).l) HL.out.ml)
 go_enter Tryz.func82, Tryz.ntmps82
 go_wp2_with (first
  | (go_at_call 57; ((with_reducible refine (cS _ (by first | exact Below.refl _ _ | assumption)).mono ?_); rintro e w2 ⟨rfl, hb2⟩; obtain ⟨⟨z0, z1, z2, z3, z4, z5, z6, z7, z8, z9, z10, z11, z12, z13, z14, z15⟩, hbo⟩ := HX.out _ hb2)))
 go_ret
 exact ⟨rfl, hbo⟩
theorem fine_any (s : Sp) (ta : Option Addr) (tc : Nat) (la : Option Addr) (lc : Nat) (m : Nat) (hm : m < 12) (w : World) (h : Lists w s ta la) : Calls Tryz.prog 82 #[zP s ta tc la lc, .int .i64 (m : Int)] w (Gives (.bool (decide (s.Fine m))) w) := by
 match m, hm with
 | 0, _ => exact fine0 s ta tc la lc w h
 | 1, _ => exact fine1 s ta tc la lc w h
 | 2, _ => exact fine2 s ta tc la lc w h
 | 3, _ => exact fine3 s ta tc la lc w h
 | 4, _ => exact fine4 s ta tc la lc w h
 | 5, _ => exact fine5 s ta tc la lc w h
 | 6, _ => exact fine6 s ta tc la lc w h
 | 7, _ => exact fine7 s ta tc la lc w h
 | 8, _ => exact fine8 s ta tc la lc w h
 | 9, _ => exact fine9 s ta tc la lc w h
 | 10, _ => exact fine10 s ta tc la lc w h
 | 11, _ => exact fine11 s ta tc la lc w h
end Go.Proofs.YtaciegkblklokaaGreat.step
namespace Go.Proofs.YtaciegkblklokaaGreat.pen
open Go.RowKit
theorem ret0 {P : Program} {fn : Func} {R : Ending → World → Prop} {a : Act} {w : World} (h : fn.results = #[]) (hd : a.defers = []) (hR : R (.returned (.tuple #[])) w) : bodyPost P fn R .normal a w :=
 ⟨hd, .tuple #[], by simp [results, h], hR⟩
end Go.Proofs.YtaciegkblklokaaGreat.pen
namespace Go.Proofs.YtaciegkblklokaaGreat.step
open Go.RowKit
open Go.Proofs.YtaciegkblklokaaGreat.field (Gives newB gives_from)
open Go.Proofs.YtaciegkblklokaaGreat.schema (below_out)
open Go.Proofs.YtaciegkblklokaaGreat.pen (ret0)
structure BoxAt (w0 : World) (B : Nat) (s : Sp) (ta : Option Addr) (tc : Nat) (la : Option Addr) (lc : Nat) (w : World) : Prop where
 f : Block w B 32 (zP s ta tc la lc)
 lists : Lists w0 s ta la
 low : w0.heap.size ≤ B
 below : Below w0.heap.size w0 w
theorem BoxAt.later {w0 w w' : World} {B : Nat} {s : Sp} {ta la : Option Addr} {tc lc : Nat} (h : BoxAt w0 B s ta tc la lc w) (hb : Below w.heap.size w w') : BoxAt w0 B s ta tc la lc w' :=
 ⟨h.f.later hb, h.lists, h.low, h.below.trans (hb.mono h.below.size)⟩
def Cleared (w0 : World) (B : Nat) (s : Sp) (e : Ending) (w' : World) : Prop := e = .returned (.tuple #[]) ∧ ∃ ta tc la lc, BoxAt w0 B s ta tc la lc w'
set_option maxRecDepth 20000 in
theorem clear0 {w0 : World} (B : Nat) (s : Sp) (ta : Option Addr) (tc : Nat) (la : Option Addr) (lc : Nat) (w : World) (h : BoxAt w0 B s ta tc la lc w) : Calls Tryz.prog 83 #[.pointer (some ⟨B, 0, none⟩), .int .i64 0] w (Cleared w0 B (s.clear 0)) := by
 have HF := hid h
 have hf := h.f
 have c1 := hf.cell 1
 have f1 := hf.frozen 1
 clear hf h
 go_enter Tryz.func83, Tryz.ntmps83
 go_wp2
 have h := HF.out
 have hL := h.lists
 have hB := h.f
 have hW := h.below
 replace hB := hB.setCell 1 (.int .i64 0)
 replace hW := below_setCells hW h.low 1 [.int .i64 0]
 exact ret0 rfl rfl ⟨rfl, ta, tc, la, lc, ⟨hB, ⟨hL.t, hL.l, hL.mt, hL.ml⟩, h.low, hW⟩⟩
set_option maxRecDepth 20000 in
theorem clear1 {w0 : World} (B : Nat) (s : Sp) (ta : Option Addr) (tc : Nat) (la : Option Addr) (lc : Nat) (w : World) (h : BoxAt w0 B s ta tc la lc w) : Calls Tryz.prog 83 #[.pointer (some ⟨B, 0, none⟩), .int .i64 1] w (Cleared w0 B (s.clear 1)) := by
 have HF := hid h
 have hf := h.f
 have c2 := hf.cell 2
 have f2 := hf.frozen 2
 clear hf h
 go_enter Tryz.func83, Tryz.ntmps83
 go_wp2
 have h := HF.out
 have hL := h.lists
 have hB := h.f
 have hW := h.below
 replace hB := hB.setCell 2 (.int .i64 0)
 replace hW := below_setCells hW h.low 2 [.int .i64 0]
 exact ret0 rfl rfl ⟨rfl, ta, tc, la, lc, ⟨hB, ⟨hL.t, hL.l, hL.mt, hL.ml⟩, h.low, hW⟩⟩
set_option maxRecDepth 20000 in
theorem clear2 {w0 : World} (B : Nat) (s : Sp) (ta : Option Addr) (tc : Nat) (la : Option Addr) (lc : Nat) (w : World) (h : BoxAt w0 B s ta tc la lc w) : Calls Tryz.prog 83 #[.pointer (some ⟨B, 0, none⟩), .int .i64 2] w (Cleared w0 B (s.clear 2)) := by
 have HF := hid h
 have hf := h.f
 have c3 := hf.cell 3
 have f3 := hf.frozen 3
 clear hf h
 go_enter Tryz.func83, Tryz.ntmps83
 go_wp2
 have h := HF.out
 have hL := h.lists
 have hB := h.f
 have hW := h.below
 replace hB := hB.setCell 3 (.int .i64 0)
 replace hW := below_setCells hW h.low 3 [.int .i64 0]
 exact ret0 rfl rfl ⟨rfl, ta, tc, la, lc, ⟨hB, ⟨hL.t, hL.l, hL.mt, hL.ml⟩, h.low, hW⟩⟩
set_option maxRecDepth 20000 in
theorem clear3 {w0 : World} (B : Nat) (s : Sp) (ta : Option Addr) (tc : Nat) (la : Option Addr) (lc : Nat) (w : World) (h : BoxAt w0 B s ta tc la lc w) : Calls Tryz.prog 83 #[.pointer (some ⟨B, 0, none⟩), .int .i64 3] w (Cleared w0 B (s.clear 3)) := by
 have HF := hid h
 have hf := h.f
 have c4 := hf.cell 4
 have f4 := hf.frozen 4
 clear hf h
 go_enter Tryz.func83, Tryz.ntmps83
 go_wp2
 have h := HF.out
 have hL := h.lists
 have hB := h.f
 have hW := h.below
 replace hB := hB.setCell 4 (.int .i64 0)
 replace hW := below_setCells hW h.low 4 [.int .i64 0]
 exact ret0 rfl rfl ⟨rfl, ta, tc, la, lc, ⟨hB, ⟨hL.t, hL.l, hL.mt, hL.ml⟩, h.low, hW⟩⟩
set_option maxRecDepth 20000 in
theorem clear4 {w0 : World} (B : Nat) (s : Sp) (ta : Option Addr) (tc : Nat) (la : Option Addr) (lc : Nat) (w : World) (h : BoxAt w0 B s ta tc la lc w) : Calls Tryz.prog 83 #[.pointer (some ⟨B, 0, none⟩), .int .i64 4] w (Cleared w0 B (s.clear 4)) := by
 have HF := hid h
 have hf := h.f
 have c5 := hf.cell 5
 have f5 := hf.frozen 5
 clear hf h
 go_enter Tryz.func83, Tryz.ntmps83
 go_wp2
 have h := HF.out
 have hL := h.lists
 have hB := h.f
 have hW := h.below
 replace hB := hB.setCell 5 (.int .i64 0)
 replace hW := below_setCells hW h.low 5 [.int .i64 0]
 exact ret0 rfl rfl ⟨rfl, ta, tc, la, lc, ⟨hB, ⟨hL.t, hL.l, hL.mt, hL.ml⟩, h.low, hW⟩⟩
set_option maxRecDepth 20000 in
theorem clear5 {w0 : World} (B : Nat) (s : Sp) (ta : Option Addr) (tc : Nat) (la : Option Addr) (lc : Nat) (w : World) (h : BoxAt w0 B s ta tc la lc w) : Calls Tryz.prog 83 #[.pointer (some ⟨B, 0, none⟩), .int .i64 5] w (Cleared w0 B (s.clear 5)) := by
 have HF := hid h
 have hf := h.f
 have c5 := hf.cell 5
 have f5 := hf.frozen 5
 have c6 := hf.cell 6
 have f6 := hf.frozen 6
 clear hf h
 go_enter Tryz.func83, Tryz.ntmps83
 go_wp2
 have h := HF.out
 have hL := h.lists
 have hB := h.f
 have hW := h.below
 replace hB := hB.setCell 5 (.int .i64 0)
 replace hW := below_setCells hW h.low 5 [.int .i64 0]
 replace hB := hB.setCell 6 (.int .i64 0)
 replace hW := below_setCells hW h.low 6 [.int .i64 0]
 exact ret0 rfl rfl ⟨rfl, ta, tc, la, lc, ⟨hB, ⟨hL.t, hL.l, hL.mt, hL.ml⟩, h.low, hW⟩⟩
set_option maxRecDepth 20000 in
theorem clear6 {w0 : World} (B : Nat) (s : Sp) (ta : Option Addr) (tc : Nat) (la : Option Addr) (lc : Nat) (w : World) (h : BoxAt w0 B s ta tc la lc w) : Calls Tryz.prog 83 #[.pointer (some ⟨B, 0, none⟩), .int .i64 6] w (Cleared w0 B (s.clear 6)) := by
 have HF := hid h
 have hf := h.f
 have c5 := hf.cell 5
 have f5 := hf.frozen 5
 have c14 := hf.cell 14
 have f14 := hf.frozen 14
 clear hf h
 go_enter Tryz.func83, Tryz.ntmps83
 go_wp2
 have h := HF.out
 have hL := h.lists
 have hB := h.f
 have hW := h.below
 replace hB := hB.setCell 5 (.int .i64 0)
 replace hW := below_setCells hW h.low 5 [.int .i64 0]
 replace hB := hB.setCell 14 (.slice none 0 0)
 replace hW := below_setCells hW h.low 14 [.slice none 0 0]
 exact ret0 rfl rfl ⟨rfl, none, 0, la, lc, ⟨hB, ⟨.inl rfl, hL.l, Nat.zero_le _, hL.ml⟩, h.low, hW⟩⟩
set_option maxRecDepth 20000 in
theorem clear7 {w0 : World} (B : Nat) (s : Sp) (ta : Option Addr) (tc : Nat) (la : Option Addr) (lc : Nat) (w : World) (h : BoxAt w0 B s ta tc la lc w) : Calls Tryz.prog 83 #[.pointer (some ⟨B, 0, none⟩), .int .i64 7] w (Cleared w0 B (s.clear 7)) := by
 have HF := hid h
 have hf := h.f
 have c14 := hf.cell 14
 have f14 := hf.frozen 14
 clear hf h
 go_enter Tryz.func83, Tryz.ntmps83
 go_wp2
 have h := HF.out
 have hL := h.lists
 have hB := h.f
 have hW := h.below
 replace hB := hB.setCell 14 (.slice none 0 0)
 replace hW := below_setCells hW h.low 14 [.slice none 0 0]
 exact ret0 rfl rfl ⟨rfl, none, 0, la, lc, ⟨hB, ⟨.inl rfl, hL.l, Nat.zero_le _, hL.ml⟩, h.low, hW⟩⟩
set_option maxRecDepth 20000 in
theorem clear8 {w0 : World} (B : Nat) (s : Sp) (ta : Option Addr) (tc : Nat) (la : Option Addr) (lc : Nat) (w : World) (h : BoxAt w0 B s ta tc la lc w) : Calls Tryz.prog 83 #[.pointer (some ⟨B, 0, none⟩), .int .i64 8] w (Cleared w0 B (s.clear 8)) := by
 have HF := hid h
 have hf := h.f
 have c7 := hf.cell 7
 have f7 := hf.frozen 7
 have c8 := hf.cell 8
 have f8 := hf.frozen 8
 have c9 := hf.cell 9
 have f9 := hf.frozen 9
 have c10 := hf.cell 10
 have f10 := hf.frozen 10
 have c11 := hf.cell 11
 have f11 := hf.frozen 11
 clear hf h
 go_enter Tryz.func83, Tryz.ntmps83
 go_wp2
 have h := HF.out
 have hL := h.lists
 have hB := h.f
 have hW := h.below
 replace hB := hB.setCell 7 (.int .i64 0)
 replace hW := below_setCells hW h.low 7 [.int .i64 0]
 replace hB := hB.setCell 8 (.int .i64 0)
 replace hW := below_setCells hW h.low 8 [.int .i64 0]
 replace hB := hB.setCell 9 (.int .i64 0)
 replace hW := below_setCells hW h.low 9 [.int .i64 0]
 replace hB := hB.setCell 10 (.int .i64 0)
 replace hW := below_setCells hW h.low 10 [.int .i64 0]
 replace hB := hB.setCell 11 (.int .i64 0)
 replace hW := below_setCells hW h.low 11 [.int .i64 0]
 exact ret0 rfl rfl ⟨rfl, ta, tc, la, lc, ⟨hB, ⟨hL.t, hL.l, hL.mt, hL.ml⟩, h.low, hW⟩⟩
set_option maxRecDepth 20000 in
theorem clear9 {w0 : World} (B : Nat) (s : Sp) (ta : Option Addr) (tc : Nat) (la : Option Addr) (lc : Nat) (w : World) (h : BoxAt w0 B s ta tc la lc w) : Calls Tryz.prog 83 #[.pointer (some ⟨B, 0, none⟩), .int .i64 9] w (Cleared w0 B (s.clear 9)) := by
 have HF := hid h
 have hf := h.f
 have c7 := hf.cell 7
 have f7 := hf.frozen 7
 have c8 := hf.cell 8
 have f8 := hf.frozen 8
 have c9 := hf.cell 9
 have f9 := hf.frozen 9
 have c10 := hf.cell 10
 have f10 := hf.frozen 10
 have c11 := hf.cell 11
 have f11 := hf.frozen 11
 have c12 := hf.cell 12
 have f12 := hf.frozen 12
 have c13 := hf.cell 13
 have f13 := hf.frozen 13
 clear hf h
 go_enter Tryz.func83, Tryz.ntmps83
 go_wp2
 have h := HF.out
 have hL := h.lists
 have hB := h.f
 have hW := h.below
 replace hB := hB.setCell 7 (.int .i64 0)
 replace hW := below_setCells hW h.low 7 [.int .i64 0]
 replace hB := hB.setCell 8 (.int .i64 0)
 replace hW := below_setCells hW h.low 8 [.int .i64 0]
 replace hB := hB.setCell 9 (.int .i64 0)
 replace hW := below_setCells hW h.low 9 [.int .i64 0]
 replace hB := hB.setCell 10 (.int .i64 0)
 replace hW := below_setCells hW h.low 10 [.int .i64 0]
 replace hB := hB.setCell 11 (.int .i64 0)
 replace hW := below_setCells hW h.low 11 [.int .i64 0]
 replace hB := hB.setCell 12 (.int .i64 0)
 replace hW := below_setCells hW h.low 12 [.int .i64 0]
 replace hB := hB.setCell 13 (.string ⟨#[]⟩)
 replace hW := below_setCells hW h.low 13 [.string ⟨#[]⟩]
 exact ret0 rfl rfl ⟨rfl, ta, tc, la, lc, ⟨hB, ⟨hL.t, hL.l, hL.mt, hL.ml⟩, h.low, hW⟩⟩
set_option maxRecDepth 20000 in
theorem clear10 {w0 : World} (B : Nat) (s : Sp) (ta : Option Addr) (tc : Nat) (la : Option Addr) (lc : Nat) (w : World) (h : BoxAt w0 B s ta tc la lc w) : Calls Tryz.prog 83 #[.pointer (some ⟨B, 0, none⟩), .int .i64 10] w (Cleared w0 B (s.clear 10)) := by
 have HF := hid h
 have hf := h.f
 have c12 := hf.cell 12
 have f12 := hf.frozen 12
 have c13 := hf.cell 13
 have f13 := hf.frozen 13
 clear hf h
 go_enter Tryz.func83, Tryz.ntmps83
 go_wp2
 have h := HF.out
 have hL := h.lists
 have hB := h.f
 have hW := h.below
 replace hB := hB.setCell 12 (.int .i64 0)
 replace hW := below_setCells hW h.low 12 [.int .i64 0]
 replace hB := hB.setCell 13 (.string ⟨#[]⟩)
 replace hW := below_setCells hW h.low 13 [.string ⟨#[]⟩]
 exact ret0 rfl rfl ⟨rfl, ta, tc, la, lc, ⟨hB, ⟨hL.t, hL.l, hL.mt, hL.ml⟩, h.low, hW⟩⟩
set_option maxRecDepth 20000 in
theorem clear11 {w0 : World} (B : Nat) (s : Sp) (ta : Option Addr) (tc : Nat) (la : Option Addr) (lc : Nat) (w : World) (h : BoxAt w0 B s ta tc la lc w) : Calls Tryz.prog 83 #[.pointer (some ⟨B, 0, none⟩), .int .i64 11] w (Cleared w0 B (s.clear 11)) := by
 have HF := hid h
 have hf := h.f
 have c15 := hf.cell 15
 have f15 := hf.frozen 15
 clear hf h
 go_enter Tryz.func83, Tryz.ntmps83
 go_wp2
 have h := HF.out
 have hL := h.lists
 have hB := h.f
 have hW := h.below
 replace hB := hB.setCell 15 (.slice none 0 0)
 replace hW := below_setCells hW h.low 15 [.slice none 0 0]
 exact ret0 rfl rfl ⟨rfl, ta, tc, none, 0, ⟨hB, ⟨hL.t, .inl rfl, hL.mt, Nat.zero_le _⟩, h.low, hW⟩⟩
theorem clear_any {w0 : World} (B : Nat) (s : Sp) (ta : Option Addr) (tc : Nat) (la : Option Addr) (lc : Nat) (m : Nat) (hm : m < 12) (w : World) (h : BoxAt w0 B s ta tc la lc w) : Calls Tryz.prog 83 #[.pointer (some ⟨B, 0, none⟩), .int .i64 (m : Int)] w (Cleared w0 B (s.clear m)) := by
 match m, hm with
 | 0, _ => exact clear0 B s ta tc la lc w h
 | 1, _ => exact clear1 B s ta tc la lc w h
 | 2, _ => exact clear2 B s ta tc la lc w h
 | 3, _ => exact clear3 B s ta tc la lc w h
 | 4, _ => exact clear4 B s ta tc la lc w h
 | 5, _ => exact clear5 B s ta tc la lc w h
 | 6, _ => exact clear6 B s ta tc la lc w h
 | 7, _ => exact clear7 B s ta tc la lc w h
 | 8, _ => exact clear8 B s ta tc la lc w h
 | 9, _ => exact clear9 B s ta tc la lc w h
 | 10, _ => exact clear10 B s ta tc la lc w h
 | 11, _ => exact clear11 B s ta tc la lc w h
end Go.Proofs.YtaciegkblklokaaGreat.step
namespace Go.Proofs.YtaciegkblklokaaGreat.schema
open Go.RowKit
open Go.Proofs.YtaciegkblklokaaGreat.field (Gives newB gives_from)
theorem neq_fd (p q : field.Fd) (w : World) : (binOp .neq 26 (zF p) (zF q)).run Tryz.prog w = .ok (.bool (!decide (p = q))) w := by
 rw [run_neq_struct, show (10000 : Nat) = 9999 + 1 from rfl, run_equalIn_struct w 9999 26 _ _ (by kernel_rfl) Tryz.stoodInHeld26]
 go_simp
 obtain ⟨i, k, lo, hi, m⟩ := p
 obtain ⟨i', k', lo', hi', m'⟩ := q
 simp only [field.Fd.mk.injEq]
 by_cases h1 : i = i'
 ·by_cases h2 : k = k'
  ·by_cases h3 : lo = lo'
   ·by_cases h4 : hi = hi'
    ·by_cases h5 : m = m' <;> simp [h1, h2, h3, h4, h5]
    ·simp [h1, h2, h3, h4]
   ·simp [h1, h2, h3]
  ·simp [h1, h2]
 ·simp [h1]
theorem eq_take_succ {α : Type} {L M : List α} {k : Nat} {p q : α} (hp : L[k]? = some p) (hq : M[k]? = some q) : L.take (k + 1) = M.take (k + 1) ↔ L.take k = M.take k ∧ p = q := by
 rw [take_succ_at hp, take_succ_at hq]
 have h1 := (List.getElem?_eq_some_iff.1 hp).1
 have h2 := (List.getElem?_eq_some_iff.1 hq).1
 constructor
 ·intro h
  have := List.append_inj' h rfl
  exact ⟨this.1, by simpa using this.2⟩
 ·rintro ⟨h, rfl⟩; rw [h]
theorem equalF_any (a : Option Addr) (ca : Nat) (L : List field.Fd) (b : Option Addr) (cb : Nat) (M : List field.Fd) (w : World) (h : field.Fds w a L) (h' : field.Fds w b M) (hL : L.length ≤ maxLen) (hM : M.length ≤ maxLen) :
  Calls Tryz.prog 52 #[.slice a L.length ca, .slice b M.length cb] w (Gives (.bool (decide (L = M))) w) := by
 have hml : (L.length : Int) ≤ 9223372036854775807 := by unfold maxLen at hL; omega
 have hmm : (M.length : Int) ≤ 9223372036854775807 := by unfold maxLen at hM; omega
 have HF := hid h
 have HG := hid h'
 obtain ⟨r, hr⟩ : ∃ r : Bool, Hid (decide (L = M) = r) := ⟨_, rfl⟩
 rw [hr.out]
 unfold Gives
 clear h h' hL hM
 by_cases hlen : L.length = M.length
 ·have HLEN := hid hlen
  rw [← hlen]
  clear hlen hmm
  go_enter Tryz.func52, Tryz.ntmps52
  go_wp2
  go_loopw [13] (fun n wr => ∃ k : Nat, k ≤ L.length ∧ n = .int .i64 (k : Int) ∧ Hid (L.take k = M.take k) ∧ Hid (Below w.heap.size w wr)) (fun n _ => L.length - (intOf n).toNat)
  case atStart => exact ⟨0, Nat.zero_le _, rfl, hid rfl, hid (Below.refl _ _)⟩
  case round =>
   obtain ⟨k, hk, rfl, HEQ, HB⟩ := hrel
   by_cases hlt : k < L.length
   ·obtain ⟨g, off, p, rfl, hbl, hp, c0, c1, c2, c3, c4⟩ := field_at HF.out HB.out hlt
    obtain ⟨g', off', q, rfl, hbl', hq, d0, d1, d2, d3, d4⟩ := field_at HG.out HB.out (k := k) (by rw [← HLEN.out]; exact hlt)
    have i1 : (k : Int) < L.length := by omega
    have HS := hid (eq_take_succ hp hq)
    have hne := fun W => neq_fd p q W
    have HNE := hid (fun (hpq : ¬ p = q) => show ¬ L = M from fun e => by rw [e] at hp; exact hpq (Option.some.inj (hp.symm.trans hq)))
    clear hp hq
    by_cases hpq : p = q
    ·rw [decide_eq_true hpq] at hne
     have HPQ := hid hpq
     clear hpq
     go_wp2
     go_quiet (fail)
     go_wp2
     exact ⟨⟨k + 1, by omega, by go_num, hid (HS.out.2 ⟨HEQ.out, HPQ.out⟩), hid (below_drewN HB.out _)⟩, by simp [intOf]; omega⟩
    ·rw [decide_eq_false hpq] at hne
     obtain rfl : false = r := by rw [← hr.out]; exact (decide_eq_false (HNE.out hpq)).symm
     clear hpq
     go_wp2
     go_quiet (fail)
     go_wp2
     go_ret
     exact ⟨rfl, below_drewN HB.out _⟩
   ·obtain rfl : k = L.length := by omega
    obtain rfl : true = r := by
     rw [← hr.out]
     have := HEQ.out
     rw [List.take_of_length_le (Nat.le_refl _), List.take_of_length_le (by rw [HLEN.out]; exact Nat.le_refl _)] at this
     exact (decide_eq_true this).symm
    go_wp2
    go_ret
    exact ⟨rfl, HB.out⟩
 ·obtain rfl : false = r := by rw [← hr.out]; exact (decide_eq_false (fun e => hlen (by rw [e]))).symm
  have hd : ((L.length : Int) == (M.length : Int)) = false := by rw [beq_eq_false_iff_ne]; omega
  clear hlen
  go_enter Tryz.func52, Tryz.ntmps52
  go_wp2
  go_ret
  exact ⟨rfl, Below.refl _ _⟩
end Go.Proofs.YtaciegkblklokaaGreat.schema
