/- Lemmas of the claim HTypingRight. Each says its own conditions. -/
import Derived.Test.YtiajpjkkopdmgaaClHTypingRightG
import Derived.Test.YtiajpjkkopdmgaaClHTypingRightE
import Derived.Test.YtiajpjkkopdmgaaClHTypingRightM
import Derived.Test.YtiajpjkkopdmgaaClHTypingRightH
import Derived.Test.YtiajpjkkopdmgaaClHTypingRightD
import Derived.Test.YtiajpjkkopdmgaaClHTypingRightA
import Derived.Maps.AppendAt
/- Contracts of layer 15 (step): members, within; of the reference: uses, between, has. No condition. -/
namespace Go.Proofs.Ytiajpjkkopdmgaa.step
open Go.RowKit
open Go.Proofs.Ytiajpjkkopdmgaa.field (Gives newB gives_from)
set_option linter.unusedVariables false

theorem within_any (n lo hi : Int) (w : World) : Calls Try.prog 95 #[.int .i64 n, .int .i64 lo, .int .i64 hi] w (Gives (.bool (decide (lo ≤ n ∧ n ≤ hi))) w) := by
  obtain ⟨v, hv⟩ : ∃ v : Bool, Hid (decide (lo ≤ n ∧ n ≤ hi) = v) := ⟨_, rfl⟩
  rw [hv.out]
  unfold Gives
  by_cases h1 : lo ≤ n
  · by_cases h2 : n ≤ hi
    · obtain rfl : true = v := by rw [← hv.out]; simp [h1, h2]
      skip
      go_enter Try.func95, Try.ntmps95
      go_wp2
      go_ret
      exact ⟨rfl, Below.refl _ _⟩
    · obtain rfl : false = v := by rw [← hv.out]; simp [h1, h2]
      have hd : decide (n ≤ hi) = false := decide_eq_false h2
      skip
      go_enter Try.func95, Try.ntmps95
      go_wp2
      go_ret
      exact ⟨rfl, Below.refl _ _⟩
  · obtain rfl : false = v := by rw [← hv.out]; simp [h1]
    have hd : decide (lo ≤ n) = false := decide_eq_false h1
    go_enter Try.func95, Try.ntmps95
    go_wp2
    go_ret
    exact ⟨rfl, Below.refl _ _⟩

theorem between_any (n lo hi : Int) (w : World) : Calls Try.prog 55 #[.int .i64 n, .int .i64 lo, .int .i64 hi] w (Gives (.bool (decide (lo ≤ n ∧ n ≤ hi))) w) := by
  obtain ⟨v, hv⟩ : ∃ v : Bool, Hid (decide (lo ≤ n ∧ n ≤ hi) = v) := ⟨_, rfl⟩
  rw [hv.out]
  unfold Gives
  by_cases h1 : lo ≤ n
  · by_cases h2 : n ≤ hi
    · obtain rfl : true = v := by rw [← hv.out]; simp [h1, h2]
      have hg : decide (n ≥ lo) = true := decide_eq_true h1
      go_enter Try.func55, Try.ntmps55
      go_wp2
      go_ret
      exact ⟨rfl, Below.refl _ _⟩
    · obtain rfl : false = v := by rw [← hv.out]; simp [h1, h2]
      have hd : decide (n ≤ hi) = false := decide_eq_false h2
      have hg : decide (n ≥ lo) = true := decide_eq_true h1
      go_enter Try.func55, Try.ntmps55
      go_wp2
      go_ret
      exact ⟨rfl, Below.refl _ _⟩
  · obtain rfl : false = v := by rw [← hv.out]; simp [h1]
    have hd : decide (n ≥ lo) = false := decide_eq_false h1
    go_enter Try.func55, Try.ntmps55
    go_wp2
    go_ret
    exact ⟨rfl, Below.refl _ _⟩

/-- a row of numbers that has just been made -/
def insV (l : List Int) : List Value := l.map fun n => Value.int .i64 n
theorem built_ins (w : World) (t : TypeId) (l : List Int) : Ins (w.alloc (.cells (insV l).toArray t)) (some ⟨w.heap.size, 0, none⟩) l := by
  refine .inr ⟨_, _, rfl, by simp, fun i n hi => ?_⟩
  have h := (Block.new w t (insV l)).cell i
  rw [Nat.zero_add]
  rw [h]
  simp [insV, hi]
/-- the members of an operation as numbers -/
def memI (op : Int) : List Int := (mem op).map fun m : Nat => (m : Int)
theorem memI_len (op : Int) : (memI op).length = (mem op).length := List.length_map _
theorem memI_at {op : Int} {k : Nat} {m : Nat} (h : (mem op)[k]? = some m) : (memI op)[k]? = some (m : Int) := by simp [memI, h]
/-- the row of an operation's members -/
def MRow (w : World) (a : Option Addr) (op : Int) : Prop := mem op = [] ∨ ∃ g, a = some ⟨g, 0, none⟩ ∧ Block w g 101 (insV (memI op))
theorem MRow.ins {w : World} {a : Option Addr} {op : Int} (h : MRow w a op) : Ins w a (memI op) := by
  rcases h with h | ⟨g, rfl, hB⟩
  · exact .inl (by unfold memI; rw [h]; rfl)
  · refine .inr ⟨g, 0, rfl, hB.lt, fun i n hi => ?_⟩
    rw [Nat.zero_add, hB.cell]
    simp [insV, hi]
def Members (op : Int) (w : World) (e : Ending) (w' : World) : Prop := ∃ (a : Option Addr) (c : Nat), e = .returned (.slice a (mem op).length c) ∧ MRow w' a op ∧ Below w.heap.size w w'
set_option maxHeartbeats 1600000 in
theorem members_any (op : Int) (w : World) : Calls Try.prog 69 #[.int .i64 op] w (Members op w) := by
  unfold Members
  rcases ops op with h | h
  · rcases h with rfl | rfl | rfl | rfl | rfl | rfl | rfl | rfl | rfl | rfl | rfl | rfl | rfl | rfl | rfl | rfl | rfl | rfl | rfl | rfl
    · go_enter Try.func69, Try.ntmps69
      go_wp2
      go_ret
      exact ⟨_, _, rfl, .inr ⟨_, rfl, Block.new w 101 (insV [0, 2, 9])⟩, newB _ _⟩
    · go_enter Try.func69, Try.ntmps69
      go_wp2
      go_ret
      exact ⟨_, _, rfl, .inr ⟨_, rfl, Block.new w 101 (insV [0, 2, 9])⟩, newB _ _⟩
    · go_enter Try.func69, Try.ntmps69
      go_wp2
      go_ret
      exact ⟨_, _, rfl, .inr ⟨_, rfl, Block.new w 101 (insV [0, 1, 10])⟩, newB _ _⟩
    · go_enter Try.func69, Try.ntmps69
      go_wp2
      go_ret
      exact ⟨_, _, rfl, .inr ⟨_, rfl, Block.new w 101 (insV [0, 1, 8])⟩, newB _ _⟩
    · go_enter Try.func69, Try.ntmps69
      go_wp2
      go_ret
      exact ⟨_, _, rfl, .inr ⟨_, rfl, Block.new w 101 (insV [0, 1, 8])⟩, newB _ _⟩
    · go_enter Try.func69, Try.ntmps69
      go_wp2
      go_ret
      exact ⟨_, _, rfl, .inr ⟨_, rfl, Block.new w 101 (insV [0, 1, 5])⟩, newB _ _⟩
    · go_enter Try.func69, Try.ntmps69
      go_wp2
      go_ret
      exact ⟨_, _, rfl, .inr ⟨_, rfl, Block.new w 101 (insV [0, 1, 5, 8])⟩, newB _ _⟩
    · go_enter Try.func69, Try.ntmps69
      go_wp2
      go_ret
      exact ⟨_, _, rfl, .inr ⟨_, rfl, Block.new w 101 (insV [0, 1, 6])⟩, newB _ _⟩
    · go_enter Try.func69, Try.ntmps69
      go_wp2
      go_ret
      exact ⟨_, _, rfl, .inr ⟨_, rfl, Block.new w 101 (insV [0, 1, 7])⟩, newB _ _⟩
    · go_enter Try.func69, Try.ntmps69
      go_wp2
      go_ret
      exact ⟨_, _, rfl, .inr ⟨_, rfl, Block.new w 101 (insV [0, 1, 4, 3])⟩, newB _ _⟩
    · go_enter Try.func69, Try.ntmps69
      go_wp2
      go_ret
      exact ⟨_, _, rfl, .inr ⟨_, rfl, Block.new w 101 (insV [0, 1, 4, 3, 8])⟩, newB _ _⟩
    · go_enter Try.func69, Try.ntmps69
      go_wp2
      go_ret
      exact ⟨_, _, rfl, .inr ⟨_, rfl, Block.new w 101 (insV [0, 1, 2])⟩, newB _ _⟩
    · go_enter Try.func69, Try.ntmps69
      go_wp2
      go_ret
      exact ⟨_, _, rfl, .inr ⟨_, rfl, Block.new w 101 (insV [0, 1, 2])⟩, newB _ _⟩
    · go_enter Try.func69, Try.ntmps69
      go_wp2
      go_ret
      exact ⟨_, _, rfl, .inr ⟨_, rfl, Block.new w 101 (insV [0, 1, 3])⟩, newB _ _⟩
    · go_enter Try.func69, Try.ntmps69
      go_wp2
      go_ret
      exact ⟨_, _, rfl, .inr ⟨_, rfl, Block.new w 101 (insV [0, 1, 3])⟩, newB _ _⟩
    · go_enter Try.func69, Try.ntmps69
      go_wp2
      go_ret
      exact ⟨_, _, rfl, .inr ⟨_, rfl, Block.new w 101 (insV [0, 11])⟩, newB _ _⟩
    · go_enter Try.func69, Try.ntmps69
      go_wp2
      go_ret
      exact ⟨_, _, rfl, .inr ⟨_, rfl, Block.new w 101 (insV [0, 11])⟩, newB _ _⟩
    · go_enter Try.func69, Try.ntmps69
      go_wp2
      go_ret
      exact ⟨_, _, rfl, .inr ⟨_, rfl, Block.new w 101 (insV [0])⟩, newB _ _⟩
    · go_enter Try.func69, Try.ntmps69
      go_wp2
      go_ret
      exact ⟨_, _, rfl, .inr ⟨_, rfl, Block.new w 101 (insV [0])⟩, newB _ _⟩
    · go_enter Try.func69, Try.ntmps69
      go_wp2
      go_ret
      exact ⟨_, _, rfl, .inr ⟨_, rfl, Block.new w 101 (insV [0, 1])⟩, newB _ _⟩
  · have hm := (mem_none h).1
    obtain ⟨L, hL⟩ : ∃ L, Hid (mem op = L) := ⟨_, rfl⟩
    have hI : ∀ W, MRow W none op := fun W => .inl hm
    rw [hm]
    obtain ⟨n0, n1, n2, n3, n4, n5, n6, n7, n8, n9, n10, n11, n12, n13, n14, n15, n16, n17, n18, n19⟩ := h
    have d0 : (op == 1) = false := by simpa using n0
    have d1 : (op == 22) = false := by simpa using n1
    have d2 : (op == 2) = false := by simpa using n2
    have d3 : (op == 3) = false := by simpa using n3
    have d4 : (op == 23) = false := by simpa using n4
    have d5 : (op == 4) = false := by simpa using n5
    have d6 : (op == 24) = false := by simpa using n6
    have d7 : (op == 5) = false := by simpa using n7
    have d8 : (op == 25) = false := by simpa using n8
    have d9 : (op == 6) = false := by simpa using n9
    have d10 : (op == 26) = false := by simpa using n10
    have d11 : (op == 7) = false := by simpa using n11
    have d12 : (op == 27) = false := by simpa using n12
    have d13 : (op == 8) = false := by simpa using n13
    have d14 : (op == 28) = false := by simpa using n14
    have d15 : (op == 9) = false := by simpa using n15
    have d16 : (op == 30) = false := by simpa using n16
    have d17 : (op == 10) = false := by simpa using n17
    have d18 : (op == 29) = false := by simpa using n18
    have d19 : (op == 21) = false := by simpa using n19
    clear hm hL n0 n1 n2 n3 n4 n5 n6 n7 n8 n9 n10 n11 n12 n13 n14 n15 n16 n17 n18 n19
    go_enter Try.func69, Try.ntmps69
    go_wp2
    go_ret
    exact ⟨_, _, rfl, hI _, Below.refl _ _⟩
/-- the letters of an operation, as a string -/
def usesS (op : Int) : ByteArray := texts.strL (uses op)
set_option maxHeartbeats 1600000 in
theorem uses_any (op : Int) (w : World) : Calls Try.prog 53 #[.int .i64 op] w (Gives (.string (usesS op)) w) := by
  unfold Gives
  rcases ops op with h | h
  · rcases h with rfl | rfl | rfl | rfl | rfl | rfl | rfl | rfl | rfl | rfl | rfl | rfl | rfl | rfl | rfl | rfl | rfl | rfl | rfl | rfl <;>
    · go_enter Try.func53, Try.ntmps53
      go_wp2
      go_ret
      exact ⟨rfl, Below.refl _ _⟩
  · have hm : usesS op = ⟨#[]⟩ := by unfold usesS; rw [(mem_none h).2]; rfl
    rw [hm]
    obtain ⟨n0, n1, n2, n3, n4, n5, n6, n7, n8, n9, n10, n11, n12, n13, n14, n15, n16, n17, n18, n19⟩ := h
    have d0 : (op == 1) = false := by simpa using n0
    have d1 : (op == 22) = false := by simpa using n1
    have d2 : (op == 2) = false := by simpa using n2
    have d3 : (op == 3) = false := by simpa using n3
    have d4 : (op == 23) = false := by simpa using n4
    have d5 : (op == 4) = false := by simpa using n5
    have d6 : (op == 24) = false := by simpa using n6
    have d7 : (op == 5) = false := by simpa using n7
    have d8 : (op == 25) = false := by simpa using n8
    have d9 : (op == 6) = false := by simpa using n9
    have d10 : (op == 26) = false := by simpa using n10
    have d11 : (op == 7) = false := by simpa using n11
    have d12 : (op == 27) = false := by simpa using n12
    have d13 : (op == 8) = false := by simpa using n13
    have d14 : (op == 28) = false := by simpa using n14
    have d15 : (op == 9) = false := by simpa using n15
    have d16 : (op == 30) = false := by simpa using n16
    have d17 : (op == 10) = false := by simpa using n17
    have d18 : (op == 29) = false := by simpa using n18
    have d19 : (op == 21) = false := by simpa using n19
    clear hm n0 n1 n2 n3 n4 n5 n6 n7 n8 n9 n10 n11 n12 n13 n14 n15 n16 n17 n18 n19
    go_enter Try.func53, Try.ntmps53
    go_wp2
    go_ret
    exact ⟨rfl, Below.refl _ _⟩
end Go.Proofs.Ytiajpjkkopdmgaa.step
/- Contracts of layer 15 (step) and of its reference: the tables (fineTable, table). No condition but a limit from 1 to 1000. -/
namespace Go.Proofs.Ytiajpjkkopdmgaa.step
open Go.RowKit
open Go.Proofs.Ytiajpjkkopdmgaa.field (Gives newB gives_from)
open Go.Proofs.Ytiajpjkkopdmgaa.schema (take_succ_at below_out)
set_option linter.unusedVariables false

/-- the numbers seen so far, as an array -/
def seenT (l : List Int) : List Value := (List.range 1000).map fun j : Nat => Value.bool (decide ((j : Int) ∈ l))
theorem seenT_at (l : List Int) (n : Nat) (h : n < 1000) : (seenT l)[n]? = some (.bool (decide ((n : Int) ∈ l))) := by simp [seenT, h]
theorem seenT_set (l : List Int) (n : Nat) (h : n < 1000) : (seenT l).set n (.bool true) = seenT (l ++ [(n : Int)]) := by
  apply List.ext_getElem?
  intro i
  rw [List.getElem?_set]
  by_cases hi : i < 1000
  · rw [seenT_at _ i hi, seenT_at _ i hi]
    by_cases hn : n = i
    · subst hn; simp [seenT, h]
    · rw [if_neg hn]
      simp; omega
  · simp [seenT]
    simp [hi]
    omega
theorem seenT_zero : Try.zeroCells131 = (seenT []).toArray := by kernel_rfl
/-- the numbers, one by one -/
def TabOk (lim : Int) (l : List Int) : Prop := (∀ n ∈ l, 0 ≤ n ∧ n ≤ lim - 1) ∧ l.Nodup
theorem tab_succ {lim : Int} {L : List Int} {k : Nat} {x : Int} (h : L[k]? = some x) : TabOk lim (L.take (k + 1)) ↔ TabOk lim (L.take k) ∧ (0 ≤ x ∧ x ≤ lim - 1) ∧ x ∉ L.take k := by
  rw [take_succ_at h]
  unfold TabOk
  simp only [List.nodup_append, List.mem_append, List.mem_singleton]
  constructor
  · rintro ⟨h1, h2, h3, h4⟩
    exact ⟨⟨fun n hn => h1 n (.inl hn), h2⟩, h1 x (.inr rfl), fun hm => h4 _ hm _ rfl rfl⟩
  · rintro ⟨⟨h1, h2⟩, h3, h4⟩
    exact ⟨fun n hn => hn.elim (h1 n) (fun e => e ▸ h3), h2, by simp, fun a ha b hb e => h4 (by rw [← hb, ← e]; exact ha)⟩
theorem tab_take {lim : Int} {L : List Int} (h : TabOk lim L) (k : Nat) : TabOk lim (L.take k) :=
  ⟨fun n hn => h.1 n (List.mem_of_mem_take hn), h.2.sublist (List.take_sublist _ _)⟩
theorem tab_no {lim : Int} {L : List Int} {k : Nat} {x : Int} (h : L[k]? = some x) (hn : ¬ ((0 ≤ x ∧ x ≤ lim - 1) ∧ x ∉ L.take k)) : ¬ TabOk lim L := fun hf => hn ((tab_succ h).1 (tab_take hf _)).2
/-- the number k in a later world -/
theorem int_at {w w' : World} {a : Option Addr} {L : List Int} (h : Ins w a L) (hb : Below w.heap.size w w') {k : Nat} (hk : k < L.length) :
    ∃ b off p, a = some ⟨b, off, none⟩ ∧ b < w'.heap.size ∧ L[k]? = some p ∧ w'.cell? ⟨b, off + k, none⟩ = some (.int .i64 p) := (h.below hb).at hk
set_option maxRecDepth 20000 in
theorem fineTable_any (a : Option Addr) (cap : Nat) (L : List Int) (lim : Int) (h1 : 1 ≤ lim) (h2 : lim ≤ 1000) (w : World) (h : Ins w a L) (hL : L.length ≤ maxLen) :
    Calls Try.prog 96 #[.slice a L.length cap, .int .i64 lim] w (Gives (.bool (decide (Table L lim))) w) := by
  have hml : (L.length : Int) ≤ 9223372036854775807 := by unfold maxLen at hL; omega
  obtain ⟨v, hv⟩ : ∃ v : Bool, Hid (decide (Table L lim) = v) := ⟨_, rfl⟩
  rw [hv.out]
  have cW := within_any (L.length : Int) 1 64
  unfold Gives at cW ⊢
  have HF := hid h
  clear h hL
  by_cases h3 : 1 ≤ L.length ∧ L.length ≤ 64
  · rw [show decide ((1 : Int) ≤ (L.length : Int) ∧ (L.length : Int) ≤ 64) = true from decide_eq_true (by omega)] at cW
    have HTI : Hid (Table L lim ↔ TabOk lim L) := hid ⟨fun h => h.2, fun h => ⟨h3, h⟩⟩
    have cV := fun n (w' : World) => within_any n 0 (lim - 1) w'
    clear h3
    go_enter Try.func96, Try.ntmps96
    go_wp2_with (go_at_call 95; ((with_reducible refine (cW _).mono ?_); rintro e w1 ⟨rfl, hb1⟩; have HB1 := hid hb1; have HZ : Hid (Block (w1.alloc (.cells Try.zeroCells131 131)) w1.heap.size 131 (seenT [])) := (by rw [seenT_zero]; exact hid (Block.new w1 131 (seenT []))); have HN := hid (newB w1 (.cells Try.zeroCells131 131)); have HLE := hid hb1.size; clear hb1))
    have HF1 := hid (HF.out.below HB1.out)
    clear cW
    generalize w1.alloc (.cells Try.zeroCells131 131) = w2 at *
    obtain ⟨B, hB⟩ : ∃ B : Nat, Hid (w1.heap.size = B) := ⟨_, rfl⟩
    rw [hB.out] at HZ HLE ⊢
    go_loopw [14] (fun n wr => ∃ k : Nat, k ≤ L.length ∧ n = .int .i64 (k : Int) ∧ Hid (TabOk lim (L.take k)) ∧ Hid (Block wr B 131 (seenT (L.take k))) ∧ Hid (Below w1.heap.size w1 wr)) (fun n _ => L.length - (intOf n).toNat)
    case atStart => exact ⟨0, Nat.zero_le _, rfl, hid ⟨by simp, by simp⟩, HZ, HN⟩
    case round =>
      obtain ⟨k, hk, rfl, HOK, HBl, HB⟩ := hrel
      by_cases hlt : k < L.length
      · obtain ⟨b, off, p, rfl, hbl, hp, c0⟩ := int_at HF1.out HB.out hlt
        have i1 : (k : Int) < L.length := by omega
        have HP := hid hp
        have HNO := hid (tab_no (lim := lim) hp)
        have HSUC := hid (tab_succ (lim := lim) hp)
        have HTK := hid (take_succ_at hp)
        have cs := fun w' => cV p w'
        clear hp
        generalize hI : L.take k = I at *
        clear hI
        by_cases hr : 0 ≤ p ∧ p ≤ lim - 1
        · obtain ⟨n, rfl⟩ := Int.eq_ofNat_of_zero_le hr.1
          have hn2 : n < 1000 := by omega
          have hn3 : (n : Int) < 1000 := by omega
          rw [decide_eq_true hr] at cs
          have HR := hid hr
          clear hr
          have hsd := seenT_at I n hn2
          by_cases hm : (n : Int) ∈ I
          · rw [decide_eq_true hm] at hsd
            obtain rfl : false = v := by rw [← hv.out]; exact (decide_eq_false (fun h => HNO.out (fun h => h.2 hm) (HTI.out.1 h))).symm
            clear hm
            go_wp2_with (go_at_call 95; ((with_reducible refine (cs _).mono ?_); rintro e w3 ⟨rfl, hb3⟩; have hc := (HBl.out.later hb3).cell n; rw [hsd] at hc))
            go_ret
            exact ⟨rfl, HB1.out.trans ((HB.out.trans (hb3.mono HB.out.size)).mono HB1.out.size)⟩
          · rw [decide_eq_false hm] at hsd
            have HM := hid hm
            clear hm
            go_wp2_with (go_at_call 95; ((with_reducible refine (cs _).mono ?_); rintro e w3 ⟨rfl, hb3⟩; have hblk := HBl.out.later hb3; have hc := hblk.cell n; rw [hsd] at hc; have hfz := hblk.frozen n; have HBK := hid hblk; clear hblk))
            refine ⟨⟨k + 1, by omega, by go_num, hid (HSUC.out.2 ⟨HOK.out, HR.out, HM.out⟩), hid ?_, hid ?_⟩, by simp [intOf]; omega⟩
            · have := HBK.out.setCell n (.bool true)
              rw [seenT_set _ _ (by omega)] at this
              rw [HTK.out]; exact this
            · exact below_setCells (HB.out.trans (hb3.mono HB.out.size)) (by rw [hB.out]; exact Nat.le_refl _) n [.bool true]
        · obtain rfl : false = v := by rw [← hv.out]; exact (decide_eq_false (fun h => HNO.out (fun h => hr h.1) (HTI.out.1 h))).symm
          rw [decide_eq_false hr] at cs
          clear hr
          go_wp2_with (go_at_call 95; ((with_reducible refine (cs _).mono ?_); rintro e w3 ⟨rfl, hb3⟩))
          go_ret
          exact ⟨rfl, HB1.out.trans ((HB.out.trans (hb3.mono HB.out.size)).mono HB1.out.size)⟩
      · obtain rfl : k = L.length := by omega
        obtain rfl : true = v := by rw [← hv.out]; have := HOK.out; rw [List.take_of_length_le (Nat.le_refl _)] at this; exact (decide_eq_true (HTI.out.2 this)).symm
        go_wp2
        go_ret
        exact ⟨rfl, HB1.out.trans (HB.out.mono HB1.out.size)⟩
  · rw [show decide ((1 : Int) ≤ (L.length : Int) ∧ (L.length : Int) ≤ 64) = false from decide_eq_false (by omega)] at cW
    obtain rfl : false = v := by rw [← hv.out]; exact (decide_eq_false (fun h => h3 h.1)).symm
    clear h3
    go_enter Try.func96, Try.ntmps96
    go_wp2_with (go_at_call 95; ((with_reducible refine (cW _).mono ?_); rintro e w1 ⟨rfl, hb1⟩))
    go_ret
    exact ⟨rfl, hb1⟩
end Go.Proofs.Ytiajpjkkopdmgaa.step
/- Contract of layer 15 (step): fine. No condition. -/
namespace Go.Proofs.Ytiajpjkkopdmgaa.step
open Go.RowKit
open Go.Proofs.Ytiajpjkkopdmgaa.field (Gives newB gives_from)
open Go.Proofs.Ytiajpjkkopdmgaa.schema (below_out)
set_option linter.unusedVariables false

set_option maxRecDepth 20000 in
theorem fine0 (s : Sp) (ta : Option Addr) (tc : Nat) (la : Option Addr) (lc : Nat) (w : World) (h : Lists w s ta la) : Calls Try.prog 70 #[.agg #[.int .i64 s.op, .int .i64 s.fm, .int .i64 s.fd, .int .i64 s.pl, .int .i64 s.tt, .int .i64 s.a, .int .i64 s.b, .int .i64 s.f.id, .int .i64 s.f.kind, .int .i64 s.f.lo, .int .i64 s.f.hi, .int .i64 s.f.most, .int .i64 s.v.n, .string s.v.s, .slice ta s.t.length tc, .slice la s.l.length lc], .int .i64 0] w (Gives (.bool (decide (s.Fine 0))) w) := by
  have HX := hid (boxP s ta tc la lc w)
  have HL := hid (h.below (newB w (.cells #[.int .i64 s.op, .int .i64 s.fm, .int .i64 s.fd, .int .i64 s.pl, .int .i64 s.tt, .int .i64 s.a, .int .i64 s.b, .int .i64 s.f.id, .int .i64 s.f.kind, .int .i64 s.f.lo, .int .i64 s.f.hi, .int .i64 s.f.most, .int .i64 s.v.n, .string s.v.s, .slice ta s.t.length tc, .slice la s.l.length lc] 32)))
  obtain ⟨r, hr⟩ : ∃ r : Bool, Hid (decide (s.Fine 0) = r) := ⟨_, rfl⟩
  rw [hr.out]
  unfold Gives
  clear h
  have cW : From 95 #[.int .i64 s.fm, .int .i64 0, .int .i64 200] (.bool r) (w.alloc (.cells #[.int .i64 s.op, .int .i64 s.fm, .int .i64 s.fd, .int .i64 s.pl, .int .i64 s.tt, .int .i64 s.a, .int .i64 s.b, .int .i64 s.f.id, .int .i64 s.f.kind, .int .i64 s.f.lo, .int .i64 s.f.hi, .int .i64 s.f.most, .int .i64 s.v.n, .string s.v.s, .slice ta s.t.length tc, .slice la s.l.length lc] 32)) := from_all _ (fun w' => hr.out ▸ within_any s.fm 0 200 w')
  go_enter Try.func70, Try.ntmps70
  go_wp2_with (first
    | (go_at_call 95; ((with_reducible refine (cW _ (by first | exact Below.refl _ _ | assumption)).mono ?_); rintro e w2 ⟨rfl, hb2⟩; obtain ⟨⟨z0, z1, z2, z3, z4, z5, z6, z7, z8, z9, z10, z11, z12, z13, z14, z15⟩, hbo⟩ := HX.out _ hb2)))
  go_ret
  exact ⟨rfl, hbo⟩
set_option maxRecDepth 20000 in
theorem fine1 (s : Sp) (ta : Option Addr) (tc : Nat) (la : Option Addr) (lc : Nat) (w : World) (h : Lists w s ta la) : Calls Try.prog 70 #[.agg #[.int .i64 s.op, .int .i64 s.fm, .int .i64 s.fd, .int .i64 s.pl, .int .i64 s.tt, .int .i64 s.a, .int .i64 s.b, .int .i64 s.f.id, .int .i64 s.f.kind, .int .i64 s.f.lo, .int .i64 s.f.hi, .int .i64 s.f.most, .int .i64 s.v.n, .string s.v.s, .slice ta s.t.length tc, .slice la s.l.length lc], .int .i64 1] w (Gives (.bool (decide (s.Fine 1))) w) := by
  have HX := hid (boxP s ta tc la lc w)
  have HL := hid (h.below (newB w (.cells #[.int .i64 s.op, .int .i64 s.fm, .int .i64 s.fd, .int .i64 s.pl, .int .i64 s.tt, .int .i64 s.a, .int .i64 s.b, .int .i64 s.f.id, .int .i64 s.f.kind, .int .i64 s.f.lo, .int .i64 s.f.hi, .int .i64 s.f.most, .int .i64 s.v.n, .string s.v.s, .slice ta s.t.length tc, .slice la s.l.length lc] 32)))
  obtain ⟨r, hr⟩ : ∃ r : Bool, Hid (decide (s.Fine 1) = r) := ⟨_, rfl⟩
  rw [hr.out]
  unfold Gives
  clear h
  have cW : From 95 #[.int .i64 s.fd, .int .i64 0, .int .i64 255] (.bool r) (w.alloc (.cells #[.int .i64 s.op, .int .i64 s.fm, .int .i64 s.fd, .int .i64 s.pl, .int .i64 s.tt, .int .i64 s.a, .int .i64 s.b, .int .i64 s.f.id, .int .i64 s.f.kind, .int .i64 s.f.lo, .int .i64 s.f.hi, .int .i64 s.f.most, .int .i64 s.v.n, .string s.v.s, .slice ta s.t.length tc, .slice la s.l.length lc] 32)) := from_all _ (fun w' => hr.out ▸ within_any s.fd 0 255 w')
  go_enter Try.func70, Try.ntmps70
  go_wp2_with (first
    | (go_at_call 95; ((with_reducible refine (cW _ (by first | exact Below.refl _ _ | assumption)).mono ?_); rintro e w2 ⟨rfl, hb2⟩; obtain ⟨⟨z0, z1, z2, z3, z4, z5, z6, z7, z8, z9, z10, z11, z12, z13, z14, z15⟩, hbo⟩ := HX.out _ hb2)))
  go_ret
  exact ⟨rfl, hbo⟩
set_option maxRecDepth 20000 in
theorem fine2 (s : Sp) (ta : Option Addr) (tc : Nat) (la : Option Addr) (lc : Nat) (w : World) (h : Lists w s ta la) : Calls Try.prog 70 #[.agg #[.int .i64 s.op, .int .i64 s.fm, .int .i64 s.fd, .int .i64 s.pl, .int .i64 s.tt, .int .i64 s.a, .int .i64 s.b, .int .i64 s.f.id, .int .i64 s.f.kind, .int .i64 s.f.lo, .int .i64 s.f.hi, .int .i64 s.f.most, .int .i64 s.v.n, .string s.v.s, .slice ta s.t.length tc, .slice la s.l.length lc], .int .i64 2] w (Gives (.bool (decide (s.Fine 2))) w) := by
  have HX := hid (boxP s ta tc la lc w)
  have HL := hid (h.below (newB w (.cells #[.int .i64 s.op, .int .i64 s.fm, .int .i64 s.fd, .int .i64 s.pl, .int .i64 s.tt, .int .i64 s.a, .int .i64 s.b, .int .i64 s.f.id, .int .i64 s.f.kind, .int .i64 s.f.lo, .int .i64 s.f.hi, .int .i64 s.f.most, .int .i64 s.v.n, .string s.v.s, .slice ta s.t.length tc, .slice la s.l.length lc] 32)))
  obtain ⟨r, hr⟩ : ∃ r : Bool, Hid (decide (s.Fine 2) = r) := ⟨_, rfl⟩
  rw [hr.out]
  unfold Gives
  clear h
  have cW : From 95 #[.int .i64 s.pl, .int .i64 0, .int .i64 8] (.bool r) (w.alloc (.cells #[.int .i64 s.op, .int .i64 s.fm, .int .i64 s.fd, .int .i64 s.pl, .int .i64 s.tt, .int .i64 s.a, .int .i64 s.b, .int .i64 s.f.id, .int .i64 s.f.kind, .int .i64 s.f.lo, .int .i64 s.f.hi, .int .i64 s.f.most, .int .i64 s.v.n, .string s.v.s, .slice ta s.t.length tc, .slice la s.l.length lc] 32)) := from_all _ (fun w' => hr.out ▸ within_any s.pl 0 8 w')
  go_enter Try.func70, Try.ntmps70
  go_wp2_with (first
    | (go_at_call 95; ((with_reducible refine (cW _ (by first | exact Below.refl _ _ | assumption)).mono ?_); rintro e w2 ⟨rfl, hb2⟩; obtain ⟨⟨z0, z1, z2, z3, z4, z5, z6, z7, z8, z9, z10, z11, z12, z13, z14, z15⟩, hbo⟩ := HX.out _ hb2)))
  go_ret
  exact ⟨rfl, hbo⟩
set_option maxRecDepth 20000 in
theorem fine4 (s : Sp) (ta : Option Addr) (tc : Nat) (la : Option Addr) (lc : Nat) (w : World) (h : Lists w s ta la) : Calls Try.prog 70 #[.agg #[.int .i64 s.op, .int .i64 s.fm, .int .i64 s.fd, .int .i64 s.pl, .int .i64 s.tt, .int .i64 s.a, .int .i64 s.b, .int .i64 s.f.id, .int .i64 s.f.kind, .int .i64 s.f.lo, .int .i64 s.f.hi, .int .i64 s.f.most, .int .i64 s.v.n, .string s.v.s, .slice ta s.t.length tc, .slice la s.l.length lc], .int .i64 4] w (Gives (.bool (decide (s.Fine 4))) w) := by
  have HX := hid (boxP s ta tc la lc w)
  have HL := hid (h.below (newB w (.cells #[.int .i64 s.op, .int .i64 s.fm, .int .i64 s.fd, .int .i64 s.pl, .int .i64 s.tt, .int .i64 s.a, .int .i64 s.b, .int .i64 s.f.id, .int .i64 s.f.kind, .int .i64 s.f.lo, .int .i64 s.f.hi, .int .i64 s.f.most, .int .i64 s.v.n, .string s.v.s, .slice ta s.t.length tc, .slice la s.l.length lc] 32)))
  obtain ⟨r, hr⟩ : ∃ r : Bool, Hid (decide (s.Fine 4) = r) := ⟨_, rfl⟩
  rw [hr.out]
  unfold Gives
  clear h
  have cW : From 95 #[.int .i64 s.a, .int .i64 2, .int .i64 1048576] (.bool r) (w.alloc (.cells #[.int .i64 s.op, .int .i64 s.fm, .int .i64 s.fd, .int .i64 s.pl, .int .i64 s.tt, .int .i64 s.a, .int .i64 s.b, .int .i64 s.f.id, .int .i64 s.f.kind, .int .i64 s.f.lo, .int .i64 s.f.hi, .int .i64 s.f.most, .int .i64 s.v.n, .string s.v.s, .slice ta s.t.length tc, .slice la s.l.length lc] 32)) := from_all _ (fun w' => hr.out ▸ within_any s.a 2 1048576 w')
  go_enter Try.func70, Try.ntmps70
  go_wp2_with (first
    | (go_at_call 95; ((with_reducible refine (cW _ (by first | exact Below.refl _ _ | assumption)).mono ?_); rintro e w2 ⟨rfl, hb2⟩; obtain ⟨⟨z0, z1, z2, z3, z4, z5, z6, z7, z8, z9, z10, z11, z12, z13, z14, z15⟩, hbo⟩ := HX.out _ hb2)))
  go_ret
  exact ⟨rfl, hbo⟩
set_option maxRecDepth 20000 in
theorem fine3 (s : Sp) (ta : Option Addr) (tc : Nat) (la : Option Addr) (lc : Nat) (w : World) (h : Lists w s ta la) : Calls Try.prog 70 #[.agg #[.int .i64 s.op, .int .i64 s.fm, .int .i64 s.fd, .int .i64 s.pl, .int .i64 s.tt, .int .i64 s.a, .int .i64 s.b, .int .i64 s.f.id, .int .i64 s.f.kind, .int .i64 s.f.lo, .int .i64 s.f.hi, .int .i64 s.f.most, .int .i64 s.v.n, .string s.v.s, .slice ta s.t.length tc, .slice la s.l.length lc], .int .i64 3] w (Gives (.bool (decide (s.Fine 3))) w) := by
  have HX := hid (boxP s ta tc la lc w)
  have HL := hid (h.below (newB w (.cells #[.int .i64 s.op, .int .i64 s.fm, .int .i64 s.fd, .int .i64 s.pl, .int .i64 s.tt, .int .i64 s.a, .int .i64 s.b, .int .i64 s.f.id, .int .i64 s.f.kind, .int .i64 s.f.lo, .int .i64 s.f.hi, .int .i64 s.f.most, .int .i64 s.v.n, .string s.v.s, .slice ta s.t.length tc, .slice la s.l.length lc] 32)))
  obtain ⟨r, hr⟩ : ∃ r : Bool, Hid (decide (s.Fine 3) = r) := ⟨_, rfl⟩
  rw [hr.out]
  unfold Gives
  clear h
  have cW := fun v (hv : decide (0 ≤ s.tt ∧ s.tt ≤ 255) = v) => from_all (w.alloc (.cells #[.int .i64 s.op, .int .i64 s.fm, .int .i64 s.fd, .int .i64 s.pl, .int .i64 s.tt, .int .i64 s.a, .int .i64 s.b, .int .i64 s.f.id, .int .i64 s.f.kind, .int .i64 s.f.lo, .int .i64 s.f.hi, .int .i64 s.f.most, .int .i64 s.v.n, .string s.v.s, .slice ta s.t.length tc, .slice la s.l.length lc] 32)) (fun w' => hv ▸ within_any s.tt 0 255 w')
  by_cases h1 : 0 ≤ s.tt ∧ s.tt ≤ 255
  · replace cW := cW true (decide_eq_true h1)
    by_cases h2 : s.tt = s.fd
    · obtain rfl : false = r := by rw [← hr.out]; exact (decide_eq_false (fun h => h.2 h2)).symm
      have d2 : (s.tt != s.fd) = false := by simp [h2]
      have d3 : (s.tt == s.fd) = true := by simp [h2]
      clear h1 h2
      go_enter Try.func70, Try.ntmps70
      go_wp2_with (first
        | (go_at_call 95; ((with_reducible refine (cW _ (by first | exact Below.refl _ _ | assumption)).mono ?_); rintro e w2 ⟨rfl, hb2⟩; obtain ⟨⟨z0, z1, z2, z3, z4, z5, z6, z7, z8, z9, z10, z11, z12, z13, z14, z15⟩, hbo⟩ := HX.out _ hb2)))
      go_ret
      exact ⟨rfl, hbo⟩
    · obtain rfl : true = r := by rw [← hr.out]; exact (decide_eq_true ⟨h1, h2⟩).symm
      have d2 : (s.tt != s.fd) = true := by simp [h2]
      have d3 : (s.tt == s.fd) = false := by simp [h2]
      clear h1 h2
      go_enter Try.func70, Try.ntmps70
      go_wp2_with (first
        | (go_at_call 95; ((with_reducible refine (cW _ (by first | exact Below.refl _ _ | assumption)).mono ?_); rintro e w2 ⟨rfl, hb2⟩; obtain ⟨⟨z0, z1, z2, z3, z4, z5, z6, z7, z8, z9, z10, z11, z12, z13, z14, z15⟩, hbo⟩ := HX.out _ hb2)))
      go_ret
      exact ⟨rfl, hbo⟩
  · replace cW := cW false (decide_eq_false h1)
    obtain rfl : false = r := by rw [← hr.out]; exact (decide_eq_false (fun h => h1 h.1)).symm
    clear h1
    go_enter Try.func70, Try.ntmps70
    go_wp2_with (first
      | (go_at_call 95; ((with_reducible refine (cW _ (by first | exact Below.refl _ _ | assumption)).mono ?_); rintro e w2 ⟨rfl, hb2⟩; obtain ⟨⟨z0, z1, z2, z3, z4, z5, z6, z7, z8, z9, z10, z11, z12, z13, z14, z15⟩, hbo⟩ := HX.out _ hb2)))
    go_ret
    exact ⟨rfl, hbo⟩
set_option maxRecDepth 20000 in
theorem fine5 (s : Sp) (ta : Option Addr) (tc : Nat) (la : Option Addr) (lc : Nat) (w : World) (h : Lists w s ta la) : Calls Try.prog 70 #[.agg #[.int .i64 s.op, .int .i64 s.fm, .int .i64 s.fd, .int .i64 s.pl, .int .i64 s.tt, .int .i64 s.a, .int .i64 s.b, .int .i64 s.f.id, .int .i64 s.f.kind, .int .i64 s.f.lo, .int .i64 s.f.hi, .int .i64 s.f.most, .int .i64 s.v.n, .string s.v.s, .slice ta s.t.length tc, .slice la s.l.length lc], .int .i64 5] w (Gives (.bool (decide (s.Fine 5))) w) := by
  have HX := hid (boxP s ta tc la lc w)
  have HL := hid (h.below (newB w (.cells #[.int .i64 s.op, .int .i64 s.fm, .int .i64 s.fd, .int .i64 s.pl, .int .i64 s.tt, .int .i64 s.a, .int .i64 s.b, .int .i64 s.f.id, .int .i64 s.f.kind, .int .i64 s.f.lo, .int .i64 s.f.hi, .int .i64 s.f.most, .int .i64 s.v.n, .string s.v.s, .slice ta s.t.length tc, .slice la s.l.length lc] 32)))
  obtain ⟨r, hr⟩ : ∃ r : Bool, Hid (decide (s.Fine 5) = r) := ⟨_, rfl⟩
  rw [hr.out]
  unfold Gives
  clear h
  have cW := fun v (hv : decide (-1048576 ≤ s.a ∧ s.a ≤ 1048576) = v) => from_all (w.alloc (.cells #[.int .i64 s.op, .int .i64 s.fm, .int .i64 s.fd, .int .i64 s.pl, .int .i64 s.tt, .int .i64 s.a, .int .i64 s.b, .int .i64 s.f.id, .int .i64 s.f.kind, .int .i64 s.f.lo, .int .i64 s.f.hi, .int .i64 s.f.most, .int .i64 s.v.n, .string s.v.s, .slice ta s.t.length tc, .slice la s.l.length lc] 32)) (fun w' => hv ▸ within_any s.a (-1048576) 1048576 w')
  have cV := fun v (hv : decide (-1099511627776 ≤ s.b ∧ s.b ≤ 1099511627776) = v) => from_all (w.alloc (.cells #[.int .i64 s.op, .int .i64 s.fm, .int .i64 s.fd, .int .i64 s.pl, .int .i64 s.tt, .int .i64 s.a, .int .i64 s.b, .int .i64 s.f.id, .int .i64 s.f.kind, .int .i64 s.f.lo, .int .i64 s.f.hi, .int .i64 s.f.most, .int .i64 s.v.n, .string s.v.s, .slice ta s.t.length tc, .slice la s.l.length lc] 32)) (fun w' => hv ▸ within_any s.b (-1099511627776) 1099511627776 w')
  by_cases h1 : -1048576 ≤ s.a ∧ s.a ≤ 1048576
  · replace cW := cW true (decide_eq_true h1)
    by_cases h2 : s.a = 0
    · obtain rfl : false = r := by rw [← hr.out]; exact (decide_eq_false (fun h => h.1.2 h2)).symm
      have d2 : (s.a != 0) = false := by simp [h2]
      have d3 : (s.a == 0) = true := by simp [h2]
      clear h1 h2
      go_enter Try.func70, Try.ntmps70
      go_wp2_with (first
        | (go_at_call 95; ((with_reducible refine (cW _ (by first | exact Below.refl _ _ | assumption)).mono ?_); rintro e w2 ⟨rfl, hb2⟩; obtain ⟨⟨z0, z1, z2, z3, z4, z5, z6, z7, z8, z9, z10, z11, z12, z13, z14, z15⟩, hbo⟩ := HX.out _ hb2)))
      go_ret
      exact ⟨rfl, hbo⟩
    · have d2 : (s.a != 0) = true := by simp [h2]
      have d3 : (s.a == 0) = false := by simp [h2]
      replace cV := cV r (by rw [← hr.out]; exact decide_eq_decide.2 ⟨fun h => ⟨⟨h1, h2⟩, h⟩, fun h => h.2⟩)
      clear h1 h2
      go_enter Try.func70, Try.ntmps70
      go_wp2_with (first
        | (go_at_call 95; ((with_reducible refine (cW _ (by first | exact Below.refl _ _ | assumption)).mono ?_); rintro e w2 ⟨rfl, hb2⟩; obtain ⟨⟨z0, z1, z2, z3, z4, z5, z6, z7, z8, z9, z10, z11, z12, z13, z14, z15⟩, hbo⟩ := HX.out _ hb2))
        | (go_at_call 95; ((with_reducible refine (cV _ (by first | exact Below.refl _ _ | assumption)).mono ?_); rintro e w2 ⟨rfl, hb2⟩; obtain ⟨⟨z0, z1, z2, z3, z4, z5, z6, z7, z8, z9, z10, z11, z12, z13, z14, z15⟩, hbo⟩ := HX.out _ hb2)))
      go_ret
      exact ⟨rfl, hbo⟩
  · replace cW := cW false (decide_eq_false h1)
    obtain rfl : false = r := by rw [← hr.out]; exact (decide_eq_false (fun h => h1 h.1.1)).symm
    clear h1
    go_enter Try.func70, Try.ntmps70
    go_wp2_with (first
      | (go_at_call 95; ((with_reducible refine (cW _ (by first | exact Below.refl _ _ | assumption)).mono ?_); rintro e w2 ⟨rfl, hb2⟩; obtain ⟨⟨z0, z1, z2, z3, z4, z5, z6, z7, z8, z9, z10, z11, z12, z13, z14, z15⟩, hbo⟩ := HX.out _ hb2)))
    go_ret
    exact ⟨rfl, hbo⟩
set_option maxRecDepth 20000 in
theorem fine6 (s : Sp) (ta : Option Addr) (tc : Nat) (la : Option Addr) (lc : Nat) (w : World) (h : Lists w s ta la) : Calls Try.prog 70 #[.agg #[.int .i64 s.op, .int .i64 s.fm, .int .i64 s.fd, .int .i64 s.pl, .int .i64 s.tt, .int .i64 s.a, .int .i64 s.b, .int .i64 s.f.id, .int .i64 s.f.kind, .int .i64 s.f.lo, .int .i64 s.f.hi, .int .i64 s.f.most, .int .i64 s.v.n, .string s.v.s, .slice ta s.t.length tc, .slice la s.l.length lc], .int .i64 6] w (Gives (.bool (decide (s.Fine 6))) w) := by
  have HX := hid (boxP s ta tc la lc w)
  have HL := hid (h.below (newB w (.cells #[.int .i64 s.op, .int .i64 s.fm, .int .i64 s.fd, .int .i64 s.pl, .int .i64 s.tt, .int .i64 s.a, .int .i64 s.b, .int .i64 s.f.id, .int .i64 s.f.kind, .int .i64 s.f.lo, .int .i64 s.f.hi, .int .i64 s.f.most, .int .i64 s.v.n, .string s.v.s, .slice ta s.t.length tc, .slice la s.l.length lc] 32)))
  obtain ⟨r, hr⟩ : ∃ r : Bool, Hid (decide (s.Fine 6) = r) := ⟨_, rfl⟩
  rw [hr.out]
  unfold Gives
  clear h
  have cW := fun v (hv : decide (1 ≤ s.a ∧ s.a ≤ 1000) = v) => from_all (w.alloc (.cells #[.int .i64 s.op, .int .i64 s.fm, .int .i64 s.fd, .int .i64 s.pl, .int .i64 s.tt, .int .i64 s.a, .int .i64 s.b, .int .i64 s.f.id, .int .i64 s.f.kind, .int .i64 s.f.lo, .int .i64 s.f.hi, .int .i64 s.f.most, .int .i64 s.v.n, .string s.v.s, .slice ta s.t.length tc, .slice la s.l.length lc] 32)) (fun w' => hv ▸ within_any s.a 1 1000 w')
  by_cases h1 : 1 ≤ s.a ∧ s.a ≤ 1000
  · replace cW := cW true (decide_eq_true h1)
    have cT : From 96 #[.slice ta s.t.length tc, .int .i64 s.a] (.bool r) (w.alloc (.cells #[.int .i64 s.op, .int .i64 s.fm, .int .i64 s.fd, .int .i64 s.pl, .int .i64 s.tt, .int .i64 s.a, .int .i64 s.b, .int .i64 s.f.id, .int .i64 s.f.kind, .int .i64 s.f.lo, .int .i64 s.f.hi, .int .i64 s.f.most, .int .i64 s.v.n, .string s.v.s, .slice ta s.t.length tc, .slice la s.l.length lc] 32)) := from_in _ (fun w' hb => by
      have e : decide (Table s.t s.a) = r := by rw [← hr.out]; exact decide_eq_decide.2 ⟨fun h => ⟨h1, h⟩, fun h => h.2⟩
      exact e ▸ fineTable_any ta tc s.t s.a h1.1 h1.2 w' ((HL.out.below hb).t) HL.out.mt)
    clear h1
    go_enter Try.func70, Try.ntmps70
    go_wp2_with (first
      | (go_at_call 95; ((with_reducible refine (cW _ (by first | exact Below.refl _ _ | assumption)).mono ?_); rintro e w2 ⟨rfl, hb2⟩; obtain ⟨⟨z0, z1, z2, z3, z4, z5, z6, z7, z8, z9, z10, z11, z12, z13, z14, z15⟩, hbo⟩ := HX.out _ hb2))
      | (go_at_call 96; ((with_reducible refine (cT _ (by first | exact Below.refl _ _ | assumption)).mono ?_); rintro e w2 ⟨rfl, hb2⟩; obtain ⟨⟨z0, z1, z2, z3, z4, z5, z6, z7, z8, z9, z10, z11, z12, z13, z14, z15⟩, hbo⟩ := HX.out _ hb2)))
    go_ret
    exact ⟨rfl, hbo⟩
  · replace cW := cW false (decide_eq_false h1)
    obtain rfl : false = r := by rw [← hr.out]; exact (decide_eq_false (fun h => h1 h.1)).symm
    clear h1
    go_enter Try.func70, Try.ntmps70
    go_wp2_with (first
      | (go_at_call 95; ((with_reducible refine (cW _ (by first | exact Below.refl _ _ | assumption)).mono ?_); rintro e w2 ⟨rfl, hb2⟩; obtain ⟨⟨z0, z1, z2, z3, z4, z5, z6, z7, z8, z9, z10, z11, z12, z13, z14, z15⟩, hbo⟩ := HX.out _ hb2)))
    go_ret
    exact ⟨rfl, hbo⟩
set_option maxRecDepth 20000 in
theorem fine7 (s : Sp) (ta : Option Addr) (tc : Nat) (la : Option Addr) (lc : Nat) (w : World) (h : Lists w s ta la) : Calls Try.prog 70 #[.agg #[.int .i64 s.op, .int .i64 s.fm, .int .i64 s.fd, .int .i64 s.pl, .int .i64 s.tt, .int .i64 s.a, .int .i64 s.b, .int .i64 s.f.id, .int .i64 s.f.kind, .int .i64 s.f.lo, .int .i64 s.f.hi, .int .i64 s.f.most, .int .i64 s.v.n, .string s.v.s, .slice ta s.t.length tc, .slice la s.l.length lc], .int .i64 7] w (Gives (.bool (decide (s.Fine 7))) w) := by
  have HX := hid (boxP s ta tc la lc w)
  have HL := hid (h.below (newB w (.cells #[.int .i64 s.op, .int .i64 s.fm, .int .i64 s.fd, .int .i64 s.pl, .int .i64 s.tt, .int .i64 s.a, .int .i64 s.b, .int .i64 s.f.id, .int .i64 s.f.kind, .int .i64 s.f.lo, .int .i64 s.f.hi, .int .i64 s.f.most, .int .i64 s.v.n, .string s.v.s, .slice ta s.t.length tc, .slice la s.l.length lc] 32)))
  obtain ⟨r, hr⟩ : ∃ r : Bool, Hid (decide (s.Fine 7) = r) := ⟨_, rfl⟩
  rw [hr.out]
  unfold Gives
  clear h
  have cT : From 96 #[.slice ta s.t.length tc, .int .i64 1000] (.bool r) (w.alloc (.cells #[.int .i64 s.op, .int .i64 s.fm, .int .i64 s.fd, .int .i64 s.pl, .int .i64 s.tt, .int .i64 s.a, .int .i64 s.b, .int .i64 s.f.id, .int .i64 s.f.kind, .int .i64 s.f.lo, .int .i64 s.f.hi, .int .i64 s.f.most, .int .i64 s.v.n, .string s.v.s, .slice ta s.t.length tc, .slice la s.l.length lc] 32)) := from_in _ (fun w' hb => hr.out ▸ fineTable_any ta tc s.t 1000 (by omega) (by omega) w' ((HL.out.below hb).t) HL.out.mt)
  go_enter Try.func70, Try.ntmps70
  go_wp2_with (first
    | (go_at_call 96; ((with_reducible refine (cT _ (by first | exact Below.refl _ _ | assumption)).mono ?_); rintro e w2 ⟨rfl, hb2⟩; obtain ⟨⟨z0, z1, z2, z3, z4, z5, z6, z7, z8, z9, z10, z11, z12, z13, z14, z15⟩, hbo⟩ := HX.out _ hb2)))
  go_ret
  exact ⟨rfl, hbo⟩
set_option maxRecDepth 20000 in
theorem fine8 (s : Sp) (ta : Option Addr) (tc : Nat) (la : Option Addr) (lc : Nat) (w : World) (h : Lists w s ta la) : Calls Try.prog 70 #[.agg #[.int .i64 s.op, .int .i64 s.fm, .int .i64 s.fd, .int .i64 s.pl, .int .i64 s.tt, .int .i64 s.a, .int .i64 s.b, .int .i64 s.f.id, .int .i64 s.f.kind, .int .i64 s.f.lo, .int .i64 s.f.hi, .int .i64 s.f.most, .int .i64 s.v.n, .string s.v.s, .slice ta s.t.length tc, .slice la s.l.length lc], .int .i64 8] w (Gives (.bool (decide (s.Fine 8))) w) := by
  have HX := hid (boxP s ta tc la lc w)
  have HL := hid (h.below (newB w (.cells #[.int .i64 s.op, .int .i64 s.fm, .int .i64 s.fd, .int .i64 s.pl, .int .i64 s.tt, .int .i64 s.a, .int .i64 s.b, .int .i64 s.f.id, .int .i64 s.f.kind, .int .i64 s.f.lo, .int .i64 s.f.hi, .int .i64 s.f.most, .int .i64 s.v.n, .string s.v.s, .slice ta s.t.length tc, .slice la s.l.length lc] 32)))
  obtain ⟨r, hr⟩ : ∃ r : Bool, Hid (decide (s.Fine 8) = r) := ⟨_, rfl⟩
  rw [hr.out]
  unfold Gives
  clear h
  have cW := fun v (hv : decide s.f.Right = v) => from_all (w.alloc (.cells #[.int .i64 s.op, .int .i64 s.fm, .int .i64 s.fd, .int .i64 s.pl, .int .i64 s.tt, .int .i64 s.a, .int .i64 s.b, .int .i64 s.f.id, .int .i64 s.f.kind, .int .i64 s.f.lo, .int .i64 s.f.hi, .int .i64 s.f.most, .int .i64 s.v.n, .string s.v.s, .slice ta s.t.length tc, .slice la s.l.length lc] 32)) (fun w' => hv ▸ field.right_any s.f w')
  by_cases h1 : s.f.Right
  · replace cW := cW true (decide_eq_true h1)
    by_cases h2 : s.f.id = s.fd
    · obtain rfl : true = r := by rw [← hr.out]; exact (decide_eq_true ⟨h1, h2⟩).symm
      have d3 : (s.f.id == s.fd) = true := by simp [h2]
      clear h1 h2
      go_enter Try.func70, Try.ntmps70
      go_wp2_with (first
        | (go_at_call 93; ((with_reducible refine (cW _ (by first | exact Below.refl _ _ | assumption)).mono ?_); rintro e w2 ⟨rfl, hb2⟩; obtain ⟨⟨z0, z1, z2, z3, z4, z5, z6, z7, z8, z9, z10, z11, z12, z13, z14, z15⟩, hbo⟩ := HX.out _ hb2)))
      go_ret
      exact ⟨rfl, hbo⟩
    · obtain rfl : false = r := by rw [← hr.out]; exact (decide_eq_false (fun h => h2 h.2)).symm
      have d3 : (s.f.id == s.fd) = false := by simp [h2]
      clear h1 h2
      go_enter Try.func70, Try.ntmps70
      go_wp2_with (first
        | (go_at_call 93; ((with_reducible refine (cW _ (by first | exact Below.refl _ _ | assumption)).mono ?_); rintro e w2 ⟨rfl, hb2⟩; obtain ⟨⟨z0, z1, z2, z3, z4, z5, z6, z7, z8, z9, z10, z11, z12, z13, z14, z15⟩, hbo⟩ := HX.out _ hb2)))
      go_ret
      exact ⟨rfl, hbo⟩
  · replace cW := cW false (decide_eq_false h1)
    obtain rfl : false = r := by rw [← hr.out]; exact (decide_eq_false (fun h => h1 h.1)).symm
    clear h1
    go_enter Try.func70, Try.ntmps70
    go_wp2_with (first
      | (go_at_call 93; ((with_reducible refine (cW _ (by first | exact Below.refl _ _ | assumption)).mono ?_); rintro e w2 ⟨rfl, hb2⟩; obtain ⟨⟨z0, z1, z2, z3, z4, z5, z6, z7, z8, z9, z10, z11, z12, z13, z14, z15⟩, hbo⟩ := HX.out _ hb2)))
    go_ret
    exact ⟨rfl, hbo⟩
set_option maxRecDepth 20000 in
theorem fine9 (s : Sp) (ta : Option Addr) (tc : Nat) (la : Option Addr) (lc : Nat) (w : World) (h : Lists w s ta la) : Calls Try.prog 70 #[.agg #[.int .i64 s.op, .int .i64 s.fm, .int .i64 s.fd, .int .i64 s.pl, .int .i64 s.tt, .int .i64 s.a, .int .i64 s.b, .int .i64 s.f.id, .int .i64 s.f.kind, .int .i64 s.f.lo, .int .i64 s.f.hi, .int .i64 s.f.most, .int .i64 s.v.n, .string s.v.s, .slice ta s.t.length tc, .slice la s.l.length lc], .int .i64 9] w (Gives (.bool (decide (s.Fine 9))) w) := by
  have HX := hid (boxP s ta tc la lc w)
  have HL := hid (h.below (newB w (.cells #[.int .i64 s.op, .int .i64 s.fm, .int .i64 s.fd, .int .i64 s.pl, .int .i64 s.tt, .int .i64 s.a, .int .i64 s.b, .int .i64 s.f.id, .int .i64 s.f.kind, .int .i64 s.f.lo, .int .i64 s.f.hi, .int .i64 s.f.most, .int .i64 s.v.n, .string s.v.s, .slice ta s.t.length tc, .slice la s.l.length lc] 32)))
  obtain ⟨r, hr⟩ : ∃ r : Bool, Hid (decide (s.Fine 9) = r) := ⟨_, rfl⟩
  rw [hr.out]
  unfold Gives
  clear h
  have cH : From 78 #[.agg #[.int .i64 s.f.id, .int .i64 s.f.kind, .int .i64 s.f.lo, .int .i64 s.f.hi, .int .i64 s.f.most], .agg #[.int .i64 s.v.n, .string s.v.s]] (.bool r) (w.alloc (.cells #[.int .i64 s.op, .int .i64 s.fm, .int .i64 s.fd, .int .i64 s.pl, .int .i64 s.tt, .int .i64 s.a, .int .i64 s.b, .int .i64 s.f.id, .int .i64 s.f.kind, .int .i64 s.f.lo, .int .i64 s.f.hi, .int .i64 s.f.most, .int .i64 s.v.n, .string s.v.s, .slice ta s.t.length tc, .slice la s.l.length lc] 32)) := from_all _ (fun w' => hr.out ▸ field.has_any s.f s.v w')
  go_enter Try.func70, Try.ntmps70
  go_wp2_with (first
    | (go_at_call 78; ((with_reducible refine (cH _ (by first | exact Below.refl _ _ | assumption)).mono ?_); rintro e w2 ⟨rfl, hb2⟩; obtain ⟨⟨z0, z1, z2, z3, z4, z5, z6, z7, z8, z9, z10, z11, z12, z13, z14, z15⟩, hbo⟩ := HX.out _ hb2)))
  go_ret
  exact ⟨rfl, hbo⟩
set_option maxRecDepth 20000 in
theorem fine10 (s : Sp) (ta : Option Addr) (tc : Nat) (la : Option Addr) (lc : Nat) (w : World) (h : Lists w s ta la) : Calls Try.prog 70 #[.agg #[.int .i64 s.op, .int .i64 s.fm, .int .i64 s.fd, .int .i64 s.pl, .int .i64 s.tt, .int .i64 s.a, .int .i64 s.b, .int .i64 s.f.id, .int .i64 s.f.kind, .int .i64 s.f.lo, .int .i64 s.f.hi, .int .i64 s.f.most, .int .i64 s.v.n, .string s.v.s, .slice ta s.t.length tc, .slice la s.l.length lc], .int .i64 10] w (Gives (.bool (decide (s.Fine 10))) w) := by
  have HX := hid (boxP s ta tc la lc w)
  have HL := hid (h.below (newB w (.cells #[.int .i64 s.op, .int .i64 s.fm, .int .i64 s.fd, .int .i64 s.pl, .int .i64 s.tt, .int .i64 s.a, .int .i64 s.b, .int .i64 s.f.id, .int .i64 s.f.kind, .int .i64 s.f.lo, .int .i64 s.f.hi, .int .i64 s.f.most, .int .i64 s.v.n, .string s.v.s, .slice ta s.t.length tc, .slice la s.l.length lc] 32)))
  obtain ⟨r, hr⟩ : ∃ r : Bool, Hid (decide (s.Fine 10) = r) := ⟨_, rfl⟩
  rw [hr.out]
  unfold Gives
  clear h
  have cW := fun v (hv : decide (-1099511627776 ≤ s.v.n ∧ s.v.n ≤ 1099511627776) = v) => from_all (w.alloc (.cells #[.int .i64 s.op, .int .i64 s.fm, .int .i64 s.fd, .int .i64 s.pl, .int .i64 s.tt, .int .i64 s.a, .int .i64 s.b, .int .i64 s.f.id, .int .i64 s.f.kind, .int .i64 s.f.lo, .int .i64 s.f.hi, .int .i64 s.f.most, .int .i64 s.v.n, .string s.v.s, .slice ta s.t.length tc, .slice la s.l.length lc] 32)) (fun w' => hv ▸ within_any s.v.n (-1099511627776) 1099511627776 w')
  by_cases h1 : -1099511627776 ≤ s.v.n ∧ s.v.n ≤ 1099511627776
  · replace cW := cW true (decide_eq_true h1)
    by_cases h2 : s.v.s.size ≤ 32
    · obtain rfl : true = r := by rw [← hr.out]; exact (decide_eq_true ⟨h1, h2⟩).symm
      have d3 : decide ((s.v.s.size : Int) ≤ 32) = true := decide_eq_true (by omega)
      clear h1 h2
      go_enter Try.func70, Try.ntmps70
      go_wp2_with (first
        | (go_at_call 95; ((with_reducible refine (cW _ (by first | exact Below.refl _ _ | assumption)).mono ?_); rintro e w2 ⟨rfl, hb2⟩; obtain ⟨⟨z0, z1, z2, z3, z4, z5, z6, z7, z8, z9, z10, z11, z12, z13, z14, z15⟩, hbo⟩ := HX.out _ hb2)))
      go_ret
      exact ⟨rfl, hbo⟩
    · obtain rfl : false = r := by rw [← hr.out]; exact (decide_eq_false (fun h => h2 h.2)).symm
      have d3 : decide ((s.v.s.size : Int) ≤ 32) = false := decide_eq_false (by omega)
      clear h1 h2
      go_enter Try.func70, Try.ntmps70
      go_wp2_with (first
        | (go_at_call 95; ((with_reducible refine (cW _ (by first | exact Below.refl _ _ | assumption)).mono ?_); rintro e w2 ⟨rfl, hb2⟩; obtain ⟨⟨z0, z1, z2, z3, z4, z5, z6, z7, z8, z9, z10, z11, z12, z13, z14, z15⟩, hbo⟩ := HX.out _ hb2)))
      go_ret
      exact ⟨rfl, hbo⟩
  · replace cW := cW false (decide_eq_false h1)
    obtain rfl : false = r := by rw [← hr.out]; exact (decide_eq_false (fun h => h1 h.1)).symm
    clear h1
    go_enter Try.func70, Try.ntmps70
    go_wp2_with (first
      | (go_at_call 95; ((with_reducible refine (cW _ (by first | exact Below.refl _ _ | assumption)).mono ?_); rintro e w2 ⟨rfl, hb2⟩; obtain ⟨⟨z0, z1, z2, z3, z4, z5, z6, z7, z8, z9, z10, z11, z12, z13, z14, z15⟩, hbo⟩ := HX.out _ hb2)))
    go_ret
    exact ⟨rfl, hbo⟩
set_option maxRecDepth 20000 in
theorem fine11 (s : Sp) (ta : Option Addr) (tc : Nat) (la : Option Addr) (lc : Nat) (w : World) (h : Lists w s ta la) : Calls Try.prog 70 #[.agg #[.int .i64 s.op, .int .i64 s.fm, .int .i64 s.fd, .int .i64 s.pl, .int .i64 s.tt, .int .i64 s.a, .int .i64 s.b, .int .i64 s.f.id, .int .i64 s.f.kind, .int .i64 s.f.lo, .int .i64 s.f.hi, .int .i64 s.f.most, .int .i64 s.v.n, .string s.v.s, .slice ta s.t.length tc, .slice la s.l.length lc], .int .i64 11] w (Gives (.bool (decide (s.Fine 11))) w) := by
  have HX := hid (boxP s ta tc la lc w)
  have HL := hid (h.below (newB w (.cells #[.int .i64 s.op, .int .i64 s.fm, .int .i64 s.fd, .int .i64 s.pl, .int .i64 s.tt, .int .i64 s.a, .int .i64 s.b, .int .i64 s.f.id, .int .i64 s.f.kind, .int .i64 s.f.lo, .int .i64 s.f.hi, .int .i64 s.f.most, .int .i64 s.v.n, .string s.v.s, .slice ta s.t.length tc, .slice la s.l.length lc] 32)))
  obtain ⟨r, hr⟩ : ∃ r : Bool, Hid (decide (s.Fine 11) = r) := ⟨_, rfl⟩
  rw [hr.out]
  unfold Gives
  clear h
  have cS : From 37 #[.agg #[.int .i64 s.fm, .slice la s.l.length lc]] (.bool r) (w.alloc (.cells #[.int .i64 s.op, .int .i64 s.fm, .int .i64 s.fd, .int .i64 s.pl, .int .i64 s.tt, .int .i64 s.a, .int .i64 s.b, .int .i64 s.f.id, .int .i64 s.f.kind, .int .i64 s.f.lo, .int .i64 s.f.hi, .int .i64 s.f.most, .int .i64 s.v.n, .string s.v.s, .slice ta s.t.length tc, .slice la s.l.length lc] 32)) := from_in _ (fun w' hb => hr.out ▸ schema.fine_any s.fm la lc s.l w' ((HL.out.below hb).l) HL.out.ml)
  go_enter Try.func70, Try.ntmps70
  go_wp2_with (first
    | (go_at_call 37; ((with_reducible refine (cS _ (by first | exact Below.refl _ _ | assumption)).mono ?_); rintro e w2 ⟨rfl, hb2⟩; obtain ⟨⟨z0, z1, z2, z3, z4, z5, z6, z7, z8, z9, z10, z11, z12, z13, z14, z15⟩, hbo⟩ := HX.out _ hb2)))
  go_ret
  exact ⟨rfl, hbo⟩
theorem fine_any (s : Sp) (ta : Option Addr) (tc : Nat) (la : Option Addr) (lc : Nat) (m : Nat) (hm : m < 12) (w : World) (h : Lists w s ta la) : Calls Try.prog 70 #[.agg #[.int .i64 s.op, .int .i64 s.fm, .int .i64 s.fd, .int .i64 s.pl, .int .i64 s.tt, .int .i64 s.a, .int .i64 s.b, .int .i64 s.f.id, .int .i64 s.f.kind, .int .i64 s.f.lo, .int .i64 s.f.hi, .int .i64 s.f.most, .int .i64 s.v.n, .string s.v.s, .slice ta s.t.length tc, .slice la s.l.length lc], .int .i64 (m : Int)] w (Gives (.bool (decide (s.Fine m))) w) := by
  match m, hm with
  | 0, _ => exact fine0 s ta tc la lc w h
  | 1, _ => exact fine1 s ta tc la lc w h
  | 2, _ => exact fine2 s ta tc la lc w h
  | 3, _ => exact fine3 s ta tc la lc w h
  | 4, _ => exact fine4 s ta tc la lc w h
  | 5, _ => exact fine5 s ta tc la lc w h
  | 6, _ => exact fine6 s ta tc la lc w h
  | 7, _ => exact fine7 s ta tc la lc w h
  | 8, _ => exact fine8 s ta tc la lc w h
  | 9, _ => exact fine9 s ta tc la lc w h
  | 10, _ => exact fine10 s ta tc la lc w h
  | 11, _ => exact fine11 s ta tc la lc w h
end Go.Proofs.Ytiajpjkkopdmgaa.step
/- A pen and an eye in the memory: what their blocks hold, and what a call may turn. No condition. -/
namespace Go.Proofs.Ytiajpjkkopdmgaa.pen
open Go.RowKit
set_option linter.unusedVariables false

def u8v (xs : List Nat) : List Value := xs.map fun x : Nat => Value.int .u8 (x : Int)
theorem u8v_length (xs : List Nat) : (u8v xs).length = xs.length := by simp [u8v]
theorem u8v_one (xs : List Nat) : ∀ v ∈ u8v xs, v.oneCell' = true := by intro v hv; obtain ⟨x, _, rfl⟩ := List.mem_map.1 hv; rfl
theorem u8v_append (xs ys : List Nat) : u8v (xs ++ ys) = u8v xs ++ u8v ys := by simp [u8v]
theorem u8v_get (xs : List Nat) (i : Nat) (h : i < xs.length) : (u8v xs)[i]? = some (.int .u8 ((xs.getD i 0 : Nat) : Int)) := by
  simp only [u8v, List.getElem?_map, List.getD_eq_getElem?_getD, List.getElem?_eq_getElem h]; rfl

/-- append onto a row of the call's own, from whatever slice, and where the new row lies -/
theorem wpList_append_at_from {P : Program} {w : World} {ops : Array Oper} {rest : List Oper} {o : Oper} {a : Act} {Q : Exit → Act → World → Prop} (hgd : o.guard = none) (s x : Operand) (t : TypeId)
    (ho : o.op = .call { callee := .builtin .append, args := #[s, x], argTypes := #[t, t] })
    (base : Nat) (e : TypeId) (i : TypeInfo) (z : Value) (bytes : Nat) (ht : P.underlying t = some (.slice e)) (hi : P.info? e = some i) (hz : i.zero = some z)
    (hsize : i.size = 1) (hby : i.bytes = bytes) (hzs : z.cells.size = 1)
    (v : Value) (n : Nat) (xs : List Value) (hs : a.eval s = v) (hown : w.ownsRow base e 1 v n xs)
    (ap : Option Addr) (m c : Nat) (news : List Value) (hx : a.eval x = .slice ap m c) (hl : news.length = m)
    (hnews : m = 0 ∨ ∃ ad, ap = some ad ∧ ∀ j u, news[j]? = some u → w.cell? (ad.add j) = some u) (h1 : ∀ u ∈ news, u.oneCell' = true)
    (h63 : n + m ≤ maxLen) (hbytes : (n + m) * bytes ≤ 140737488355328) (hbase : base ≤ w.heap.size)
    (h : ∀ v' w', w'.ownsRow base e 1 v' (n + m) (xs ++ news) → w.grownBy w' v.ownBlock → (v'.ownBlock = v.ownBlock ∨ v'.ownBlock = some w.heap.size) → wpList P ops Q rest (a.put o.dst v') w') : wpList P ops Q (o :: rest) a w := by
  by_cases hm : m = 0
  · subst hm
    obtain rfl : news = [] := List.eq_nil_of_length_eq_zero hl
    obtain ⟨bp, cp, rfl, hcp⟩ := ownsRow_slice hown
    have hsrc : Src P i.size t (.slice ap 0 c) 0 [] w := by
      cases ap with
      | none => exact Src.ofNil w ht c
      | some ad => exact Src.ofSlice w ht ad 0 c [] (by simp) (by simp) (by simp)
    have hrun := run_append_nothing w t t o.type e i ht hi bp n cp hcp _ hsrc
    refine wpList_plain hgd fun K hK => ?_
    unfold Oper.wp
    simp [execOp, ho, resolve, invoke, builtin, hs, hx, hrun, Result.andThen]
    exact hK _ _ (h _ w (by simpa using hown) (grown_refl _ _) (.inl rfl))
  · rcases hnews with h0 | ⟨ad, rfl, hc⟩
    · exact absurd h0 hm
    · exact wpList_append_own_at w hgd s x t ho base e i z 1 bytes ht hi hz hsize hby hzs (by decide) v n xs hs hown ad m c news hx (by omega) hc h1 h63 hbytes hbase (fun v' w' h2 h3 _ h5 => h v' w' h2 h3 h5)

theorem Reads.news {w : World} {a : Option Addr} {len : Nat} {xs : List Nat} (h : Reads .u8 w a len xs) : len = 0 ∨ ∃ ad, a = some ad ∧ ∀ j u, (u8v xs)[j]? = some u → w.cell? (ad.add j) = some u := by
  rcases h.2 with h0 | ⟨b, off, ha, _, hc⟩
  · exact .inl h0
  · refine .inr ⟨_, ha, fun j u hu => ?_⟩
    have hj : j < xs.length := by have := (List.getElem?_eq_some_iff.1 hu).1; rwa [u8v_length] at this
    rw [u8v_get xs j hj] at hu
    cases hu
    rw [Addr.add_lit]
    exact hc j (by rw [← h.1]; exact hj)

/-- but for block b and the row v, which may have moved, what there was stands -/
structure Turns (w : World) (b : Nat) (v : Value) (w' : World) (v' : Value) : Prop where
  os : w'.os = w.os
  tape : w'.tape = w.tape
  output : w'.output = w.output
  size : w.heap.size ≤ w'.heap.size
  block : ∀ k, k < w.heap.size → k ≠ b → some k ≠ v.ownBlock → w'.heap[k]? = w.heap[k]?
  moved : v'.ownBlock = v.ownBlock ∨ ∃ g, v'.ownBlock = some g ∧ w.heap.size ≤ g
theorem Turns.refl (w : World) (b : Nat) (v : Value) : Turns w b v w v := ⟨rfl, rfl, rfl, Nat.le_refl _, fun _ _ _ _ => rfl, .inl rfl⟩
theorem Turns.trans {w w1 w2 : World} {b : Nat} {v v1 v2 : Value} (h : Turns w b v w1 v1) (k : Turns w1 b v1 w2 v2) : Turns w b v w2 v2 := by
  refine ⟨k.os.trans h.os, k.tape.trans h.tape, k.output.trans h.output, Nat.le_trans h.size k.size, fun j h1 h2 h3 => ?_, ?_⟩
  · refine (k.block j (Nat.lt_of_lt_of_le h1 h.size) h2 ?_).trans (h.block j h1 h2 h3)
    rcases h.moved with e | ⟨g, e, hg⟩
    · rw [e]; exact h3
    · rw [e]; intro he; cases he; omega
  · rcases k.moved with e | ⟨g, e, hg⟩
    · rw [e]; exact h.moved
    · exact .inr ⟨g, e, Nat.le_trans h.size hg⟩
theorem Turns.below {w w' : World} {b B : Nat} {v v' : Value} (h : Turns w b v w' v') (hB : B ≤ w.heap.size) (hb : B ≤ b) (hv : ∀ g, v.ownBlock = some g → B ≤ g) : Below B w w' :=
  ⟨h.os, h.tape, h.output, h.size, fun k hk => h.block k (by omega) (by omega) (fun e => by have := hv k e.symm; omega)⟩
theorem turns_later {w w' : World} {b : Nat} {v : Value} (h : Below w.heap.size w w') : Turns w b v w' v := ⟨h.os, h.tape, h.output, h.size, fun k hk _ _ => h.block k hk, .inl rfl⟩
/-- the pen at block b: its row v holds the bytes xs; its error is bad -/
def PenAt (lo b : Nat) (v : Value) (xs : List Nat) (bad : Int) (w : World) : Prop :=
  Block w b 93 [v, .int .i64 bad] ∧ v.ownBlock ≠ some b ∧ w.ownsRow lo 5 1 v xs.length (u8v xs)
theorem PenAt.row {lo b : Nat} {v : Value} {xs : List Nat} {bad : Int} {w : World} (h : PenAt lo b v xs bad w) : w.cell? ⟨b, 0, none⟩ = some v := by rw [h.1.cell]; rfl
theorem PenAt.err {lo b : Nat} {v : Value} {xs : List Nat} {bad : Int} {w : World} (h : PenAt lo b v xs bad w) : w.cell? ⟨b, 1, none⟩ = some (.int .i64 bad) := by rw [h.1.cell]; rfl
theorem PenAt.lo {lo b : Nat} {v : Value} {xs : List Nat} {bad : Int} {w : World} (h : PenAt lo b v xs bad w) : ∀ g, v.ownBlock = some g → lo ≤ g ∧ g < w.heap.size := World.ownsRow.lt h.2.2
theorem PenAt.later {lo b : Nat} {v : Value} {xs : List Nat} {bad : Int} {w w' : World} (h : PenAt lo b v xs bad w) (hb : Below w.heap.size w w') : PenAt lo b v xs bad w' :=
  ⟨h.1.later hb, h.2.1, ownsRow_heap h.2.2 fun g hg => hb.block g (h.lo g hg).2⟩
theorem PenAt.drewN {lo b : Nat} {v : Value} {xs : List Nat} {bad : Int} {w : World} (h : PenAt lo b v xs bad w) (n : Nat) : PenAt lo b v xs bad (w.drewN n) := h
/-- behind an append and the store of the new row -/
theorem PenAt.stored {lo b : Nat} {v v' : Value} {xs ys : List Nat} {bad : Int} {w w1 : World} (h : PenAt lo b v xs bad w) (hg : w.grownBy w1 v.ownBlock) (ha : v'.ownBlock = v.ownBlock ∨ v'.ownBlock = some w.heap.size)
    (ho : w1.ownsRow lo 5 1 v' (xs.length + ys.length) (u8v xs ++ u8v ys)) :
    PenAt lo b v' (xs ++ ys) bad (w1.setCell ⟨b, 0, none⟩ v') ∧ Turns w b v (w1.setCell ⟨b, 0, none⟩ v') v' := by
  have hb : Block w1 b 93 [v, .int .i64 bad] := (hg.block b h.1.lt (fun e => h.2.1 e.symm)).trans h.1
  have hne : v'.ownBlock ≠ some b := by
    rcases ha with e | e
    · rw [e]; exact h.2.1
    · rw [e]; intro he; cases he; exact absurd h.1.lt (Nat.lt_irrefl _)
  refine ⟨⟨hb.setCell 0 v', hne, ?_⟩, hg.os, hg.tape, hg.output, by simpa using hg.size, fun k h1 h2 h3 => ?_, ?_⟩
  · rw [List.length_append, u8v_append]
    exact ownsRow_heap ho fun g hg' => Below.heap_setCell w1 ⟨b, 0, none⟩ v' g (by rintro rfl; exact hne hg')
  · exact (Below.heap_setCell w1 ⟨b, 0, none⟩ v' k h2).trans (hg.block k h1 h3)
  · rcases ha with e | e
    · exact .inl e
    · exact .inr ⟨_, e, Nat.le_refl _⟩
theorem PenAt.fail {lo b : Nat} {v : Value} {xs : List Nat} {bad : Int} {w : World} (h : PenAt lo b v xs bad w) (z : Int) :
    PenAt lo b v xs z (w.setCell ⟨b, 1, none⟩ (.int .i64 z)) ∧ Turns w b v (w.setCell ⟨b, 1, none⟩ (.int .i64 z)) v := by
  refine ⟨⟨h.1.setCell 1 _, h.2.1, ownsRow_heap h.2.2 fun g hg' => Below.heap_setCell w ⟨b, 1, none⟩ _ g (by rintro rfl; exact h.2.1 hg')⟩, rfl, rfl, rfl, by simp, fun k h1 h2 h3 => Below.heap_setCell w ⟨b, 1, none⟩ _ k h2, .inl rfl⟩
/-- a function without results ends -/
theorem ret0 {P : Program} {fn : Func} {R : Ending → World → Prop} {a : Act} {w : World} (h : fn.results = #[]) (hd : a.defers = []) (hR : R (.returned (.tuple #[])) w) : bodyPost P fn R .normal a w :=
  ⟨hd, .tuple #[], by simp [results, h], hR⟩
theorem info5 : (Try.prog.info? 5).map (fun i => (i.zero, i.size, i.bytes)) = some (some (.int .u8 0), 1, 1) := by kernel_rfl
theorem Reads.new (w : World) (t : TypeId) (xs : List Nat) : Reads .u8 (w.alloc (.cells (u8v xs).toArray t)) (some ⟨w.heap.size, 0, none⟩) xs.length xs :=
  (Block.new w t (u8v xs)).reads 0 xs (fun i hi => by rw [Nat.zero_add]; exact u8v_get xs i hi) _ rfl

/-- the call writes ys at the end of the pen's row -/
def Wrote (lo b : Nat) (v : Value) (xs ys : List Nat) (bad : Int) (w : World) (e : Ending) (w' : World) : Prop :=
  e = .returned (.tuple #[]) ∧ ∃ v', PenAt lo b v' (xs ++ ys) bad w' ∧ Turns w b v w' v'

theorem put_any (lo b : Nat) (v : Value) (xs : List Nat) (bad : Int) (w : World) (h : PenAt lo b v xs bad w) (hlo : lo ≤ w.heap.size) (a : Option Addr) (m c : Nat) (ys : List Nat) (hr : Reads .u8 w a m ys) (hn : xs.length + m ≤ 140737488355328) :
    Calls Try.prog 90 #[.pointer (some ⟨b, 0, none⟩), .slice a m c] w (Wrote lo b v xs ys bad w) := by
  obtain ⟨i0, hi, hz0, hz1, hz2⟩ := info_parts info5
  have c0 := h.row
  have f0 := h.1.frozen 0
  have HP := hid h
  have HU := hid (u8v_length ys)
  have HN := hid (Reads.news hr)
  have HM : Hid (ys.length = m) := hr.1
  have HN2 : Hid (xs.length + m ≤ maxLen) := by show _ ≤ _; unfold maxLen; omega
  have HN3 : Hid ((xs.length + m) * 1 ≤ 140737488355328) := by show _ ≤ _; omega
  clear h hr hn
  go_enter Try.func90, Try.ntmps90
  go_wp2_with (at_builtin; refine wpList_append_at_from rfl _ _ 47 rfl lo 5 i0 (.int .u8 0) 1 Try.underlying47 hi hz0 hz1 hz2 rfl v xs.length (u8v xs) rfl HP.out.2.2 a m c (u8v ys) rfl (by rw [HU.out, HM.out]) HN.out (u8v_one ys) HN2.out HN3.out hlo ?_)
  intro v' w1 ho hg ha
  obtain ⟨a', c', rfl, _⟩ := ownsRow_slice ho
  have hs := HP.out.stored (ys := ys) hg ha (by rw [HM.out]; exact ho)
  have hb : Block w1 b 93 [v, .int .i64 bad] := (hg.block b HP.out.1.lt (fun e => HP.out.2.1 e.symm)).trans HP.out.1
  have c1 : w1.cell? ⟨b, 0, none⟩ = some v := by rw [hb.cell]; rfl
  have f1 := hb.frozen 0
  have HS := hid hs
  clear hs hb ho hg ha
  go_wp2
  exact bodyPost_ret (v := .tuple #[]) (by kernel_rfl) rfl ⟨rfl, _, HS.out.1, HS.out.2⟩
theorem put_nil (u : Value) (w : World) : Calls Try.prog 90 #[.pointer none, u] w (Quiet (.tuple #[]) w) := by
  go_enter Try.func90, Try.ntmps90
  go_wp2
  exact bodyPost_ret (v := .tuple #[]) (by kernel_rfl) rfl ⟨rfl, 0, rfl⟩
end Go.Proofs.Ytiajpjkkopdmgaa.pen
