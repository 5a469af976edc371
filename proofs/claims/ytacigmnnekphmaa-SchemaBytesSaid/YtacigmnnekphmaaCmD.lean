/- Contracts and lemmas that the claims of this seat share: PenHold, Str, PenPut, PenEnd, SchemaPrintF, SchemaPrint, SchemaGreat, SchemaAwake, PenEye. Each says its own conditions. -/
import Derived.Test.YtacigmnnekphmaaCmB
import Derived.Test.YtacigmnnekphmaaCmC
import Derived.Maps.AppendAt
import Derived.Test.YtacigmnnekphmaaCmA
import Derived.Laws.BytesArg
import Derived.Laws.Concat
import Derived.Lib.ConvBytes
import Derived.Lib.Zigzag
import Derived.Laws.Cover3
/- A pen and an eye in the memory: what their blocks hold, and what a call may turn. No condition. -/
namespace Go.Proofs.Ytacigmnnekphmaa.pen
open Go.RowKit
set_option linter.unusedVariables false

def u8v (xs : List Nat) : List Value := xs.map fun x : Nat => Value.int .u8 (x : Int)
theorem u8v_length (xs : List Nat) : (u8v xs).length = xs.length := by simp [u8v]
theorem u8v_one (xs : List Nat) : ∀ v ∈ u8v xs, v.oneCell' = true := by intro v hv; obtain ⟨x, _, rfl⟩ := List.mem_map.1 hv; rfl
theorem u8v_append (xs ys : List Nat) : u8v (xs ++ ys) = u8v xs ++ u8v ys := by simp [u8v]
theorem u8v_get (xs : List Nat) (i : Nat) (h : i < xs.length) : (u8v xs)[i]? = some (.int .u8 ((xs.getD i 0 : Nat) : Int)) := by
  simp only [u8v, List.getElem?_map, List.getD_eq_getElem?_getD, List.getElem?_eq_getElem h]; rfl

/-- append onto a row of the call's own, from whatever slice, and where the new row lies -/
theorem wpList_append_at_from {P : Program} {w : World} {ops : Array Oper} {rest : List Oper} {o : Oper} {a : Act} {Q : Exit → Act → World → Prop} (hgd : o.guard = none) (s x : Operand) (t : TypeId)
    (ho : o.op = .call { callee := .builtin .append, args := #[s, x], argTypes := #[t, t] })
    (base : Nat) (e : TypeId) (i : TypeInfo) (z : Value) (bytes : Nat) (ht : P.underlying t = some (.slice e)) (hi : P.info? e = some i) (hz : i.zero = some z)
    (hsize : i.size = 1) (hby : i.bytes = bytes) (hzs : z.cells.size = 1)
    (v : Value) (n : Nat) (xs : List Value) (hs : a.eval s = v) (hown : w.ownsRow base e 1 v n xs)
    (ap : Option Addr) (m c : Nat) (news : List Value) (hx : a.eval x = .slice ap m c) (hl : news.length = m)
    (hnews : m = 0 ∨ ∃ ad, ap = some ad ∧ ∀ j u, news[j]? = some u → w.cell? (ad.add j) = some u) (h1 : ∀ u ∈ news, u.oneCell' = true)
    (h63 : n + m ≤ maxLen) (hbytes : (n + m) * bytes ≤ 140737488355328) (hbase : base ≤ w.heap.size)
    (h : ∀ v' w', w'.ownsRow base e 1 v' (n + m) (xs ++ news) → w.grownBy w' v.ownBlock → (v'.ownBlock = v.ownBlock ∨ v'.ownBlock = some w.heap.size) → wpList P ops Q rest (a.put o.dst v') w') : wpList P ops Q (o :: rest) a w := by
  by_cases hm : m = 0
  · subst hm
    obtain rfl : news = [] := List.eq_nil_of_length_eq_zero hl
    obtain ⟨bp, cp, rfl, hcp⟩ := ownsRow_slice hown
    have hsrc : Src P i.size t (.slice ap 0 c) 0 [] w := by
      cases ap with
      | none => exact Src.ofNil w ht c
      | some ad => exact Src.ofSlice w ht ad 0 c [] (by simp) (by simp) (by simp)
    have hrun := run_append_nothing w t t o.type e i ht hi bp n cp hcp _ hsrc
    refine wpList_plain hgd fun K hK => ?_
    unfold Oper.wp
    simp [execOp, ho, resolve, invoke, builtin, hs, hx, hrun, Result.andThen]
    exact hK _ _ (h _ w (by simpa using hown) (grown_refl _ _) (.inl rfl))
  · rcases hnews with h0 | ⟨ad, rfl, hc⟩
    · exact absurd h0 hm
    · exact wpList_append_own_at w hgd s x t ho base e i z 1 bytes ht hi hz hsize hby hzs (by decide) v n xs hs hown ad m c news hx (by omega) hc h1 h63 hbytes hbase (fun v' w' h2 h3 _ h5 => h v' w' h2 h3 h5)

theorem Reads.news {w : World} {a : Option Addr} {len : Nat} {xs : List Nat} (h : Reads .u8 w a len xs) : len = 0 ∨ ∃ ad, a = some ad ∧ ∀ j u, (u8v xs)[j]? = some u → w.cell? (ad.add j) = some u := by
  rcases h.2 with h0 | ⟨b, off, ha, _, hc⟩
  · exact .inl h0
  · refine .inr ⟨_, ha, fun j u hu => ?_⟩
    have hj : j < xs.length := by have := (List.getElem?_eq_some_iff.1 hu).1; rwa [u8v_length] at this
    rw [u8v_get xs j hj] at hu
    cases hu
    rw [Addr.add_lit]
    exact hc j (by rw [← h.1]; exact hj)

/-- but for block b and the row v, which may have moved, what there was stands -/
structure Turns (w : World) (b : Nat) (v : Value) (w' : World) (v' : Value) : Prop where
  os : w'.os = w.os
  tape : w'.tape = w.tape
  output : w'.output = w.output
  size : w.heap.size ≤ w'.heap.size
  block : ∀ k, k < w.heap.size → k ≠ b → some k ≠ v.ownBlock → w'.heap[k]? = w.heap[k]?
  moved : v'.ownBlock = v.ownBlock ∨ ∃ g, v'.ownBlock = some g ∧ w.heap.size ≤ g
theorem Turns.refl (w : World) (b : Nat) (v : Value) : Turns w b v w v := ⟨rfl, rfl, rfl, Nat.le_refl _, fun _ _ _ _ => rfl, .inl rfl⟩
theorem Turns.trans {w w1 w2 : World} {b : Nat} {v v1 v2 : Value} (h : Turns w b v w1 v1) (k : Turns w1 b v1 w2 v2) : Turns w b v w2 v2 := by
  refine ⟨k.os.trans h.os, k.tape.trans h.tape, k.output.trans h.output, Nat.le_trans h.size k.size, fun j h1 h2 h3 => ?_, ?_⟩
  · refine (k.block j (Nat.lt_of_lt_of_le h1 h.size) h2 ?_).trans (h.block j h1 h2 h3)
    rcases h.moved with e | ⟨g, e, hg⟩
    · rw [e]; exact h3
    · rw [e]; intro he; cases he; omega
  · rcases k.moved with e | ⟨g, e, hg⟩
    · rw [e]; exact h.moved
    · exact .inr ⟨g, e, Nat.le_trans h.size hg⟩
theorem Turns.below {w w' : World} {b B : Nat} {v v' : Value} (h : Turns w b v w' v') (hB : B ≤ w.heap.size) (hb : B ≤ b) (hv : ∀ g, v.ownBlock = some g → B ≤ g) : Below B w w' :=
  ⟨h.os, h.tape, h.output, h.size, fun k hk => h.block k (by omega) (by omega) (fun e => by have := hv k e.symm; omega)⟩
theorem turns_later {w w' : World} {b : Nat} {v : Value} (h : Below w.heap.size w w') : Turns w b v w' v := ⟨h.os, h.tape, h.output, h.size, fun k hk _ _ => h.block k hk, .inl rfl⟩
theorem ownsRow_heap {w w' : World} {base e size n : Nat} {v : Value} {xs : List Value} (h : w.ownsRow base e size v n xs) (hh : ∀ g, v.ownBlock = some g → w'.heap[g]? = w.heap[g]?) : w'.ownsRow base e size v n xs := by
  refine ⟨h.1, ?_⟩
  rcases h.2 with h0 | ⟨g, cap, cur, hv, h1, hg, h2, h3, h4, h5⟩
  · exact .inl h0
  · exact .inr ⟨g, cap, cur, hv, h1, (hh g (by rw [hv]; rfl)).trans hg, h2, h3, h4, h5⟩

/-- the pen at block b: its row v holds the bytes xs; its error is bad -/
def PenAt (lo b : Nat) (v : Value) (xs : List Nat) (bad : Int) (w : World) : Prop :=
  Block w b 84 [v, .int .i64 bad] ∧ v.ownBlock ≠ some b ∧ w.ownsRow lo 5 1 v xs.length (u8v xs)
theorem PenAt.row {lo b : Nat} {v : Value} {xs : List Nat} {bad : Int} {w : World} (h : PenAt lo b v xs bad w) : w.cell? ⟨b, 0, none⟩ = some v := by rw [h.1.cell]; rfl
theorem PenAt.err {lo b : Nat} {v : Value} {xs : List Nat} {bad : Int} {w : World} (h : PenAt lo b v xs bad w) : w.cell? ⟨b, 1, none⟩ = some (.int .i64 bad) := by rw [h.1.cell]; rfl
theorem PenAt.lo {lo b : Nat} {v : Value} {xs : List Nat} {bad : Int} {w : World} (h : PenAt lo b v xs bad w) : ∀ g, v.ownBlock = some g → lo ≤ g ∧ g < w.heap.size := World.ownsRow.lt h.2.2
theorem PenAt.later {lo b : Nat} {v : Value} {xs : List Nat} {bad : Int} {w w' : World} (h : PenAt lo b v xs bad w) (hb : Below w.heap.size w w') : PenAt lo b v xs bad w' :=
  ⟨h.1.later hb, h.2.1, ownsRow_heap h.2.2 fun g hg => hb.block g (h.lo g hg).2⟩
theorem PenAt.drewN {lo b : Nat} {v : Value} {xs : List Nat} {bad : Int} {w : World} (h : PenAt lo b v xs bad w) (n : Nat) : PenAt lo b v xs bad (w.drewN n) := h
/-- behind an append and the store of the new row -/
theorem PenAt.stored {lo b : Nat} {v v' : Value} {xs ys : List Nat} {bad : Int} {w w1 : World} (h : PenAt lo b v xs bad w) (hg : w.grownBy w1 v.ownBlock) (ha : v'.ownBlock = v.ownBlock ∨ v'.ownBlock = some w.heap.size)
    (ho : w1.ownsRow lo 5 1 v' (xs.length + ys.length) (u8v xs ++ u8v ys)) :
    PenAt lo b v' (xs ++ ys) bad (w1.setCell ⟨b, 0, none⟩ v') ∧ Turns w b v (w1.setCell ⟨b, 0, none⟩ v') v' := by
  have hb : Block w1 b 84 [v, .int .i64 bad] := (hg.block b h.1.lt (fun e => h.2.1 e.symm)).trans h.1
  have hne : v'.ownBlock ≠ some b := by
    rcases ha with e | e
    · rw [e]; exact h.2.1
    · rw [e]; intro he; cases he; exact absurd h.1.lt (Nat.lt_irrefl _)
  refine ⟨⟨hb.setCell 0 v', hne, ?_⟩, hg.os, hg.tape, hg.output, by simpa using hg.size, fun k h1 h2 h3 => ?_, ?_⟩
  · rw [List.length_append, u8v_append]
    exact ownsRow_heap ho fun g hg' => Below.heap_setCell w1 ⟨b, 0, none⟩ v' g (by rintro rfl; exact hne hg')
  · exact (Below.heap_setCell w1 ⟨b, 0, none⟩ v' k h2).trans (hg.block k h1 h3)
  · rcases ha with e | e
    · exact .inl e
    · exact .inr ⟨_, e, Nat.le_refl _⟩
theorem PenAt.fail {lo b : Nat} {v : Value} {xs : List Nat} {bad : Int} {w : World} (h : PenAt lo b v xs bad w) (z : Int) :
    PenAt lo b v xs z (w.setCell ⟨b, 1, none⟩ (.int .i64 z)) ∧ Turns w b v (w.setCell ⟨b, 1, none⟩ (.int .i64 z)) v := by
  refine ⟨⟨h.1.setCell 1 _, h.2.1, ownsRow_heap h.2.2 fun g hg' => Below.heap_setCell w ⟨b, 1, none⟩ _ g (by rintro rfl; exact h.2.1 hg')⟩, rfl, rfl, rfl, by simp, fun k h1 h2 h3 => Below.heap_setCell w ⟨b, 1, none⟩ _ k h2, .inl rfl⟩
/-- a function without results ends -/
theorem ret0 {P : Program} {fn : Func} {R : Ending → World → Prop} {a : Act} {w : World} (h : fn.results = #[]) (hd : a.defers = []) (hR : R (.returned (.tuple #[])) w) : bodyPost P fn R .normal a w :=
  ⟨hd, .tuple #[], by simp [results, h], hR⟩
theorem info5 : (Try.prog.info? 5).map (fun i => (i.zero, i.size, i.bytes)) = some (some (.int .u8 0), 1, 1) := by kernel_rfl
theorem Reads.new (w : World) (t : TypeId) (xs : List Nat) : Reads .u8 (w.alloc (.cells (u8v xs).toArray t)) (some ⟨w.heap.size, 0, none⟩) xs.length xs :=
  (Block.new w t (u8v xs)).reads 0 xs (fun i hi => by rw [Nat.zero_add]; exact u8v_get xs i hi) _ rfl

/-- the call writes ys at the end of the pen's row -/
def Wrote (lo b : Nat) (v : Value) (xs ys : List Nat) (bad : Int) (w : World) (e : Ending) (w' : World) : Prop :=
  e = .returned (.tuple #[]) ∧ ∃ v', PenAt lo b v' (xs ++ ys) bad w' ∧ Turns w b v w' v'

theorem put_any (lo b : Nat) (v : Value) (xs : List Nat) (bad : Int) (w : World) (h : PenAt lo b v xs bad w) (hlo : lo ≤ w.heap.size) (a : Option Addr) (m c : Nat) (ys : List Nat) (hr : Reads .u8 w a m ys) (hn : xs.length + m ≤ 140737488355328) :
    Calls Try.prog 71 #[.pointer (some ⟨b, 0, none⟩), .slice a m c] w (Wrote lo b v xs ys bad w) := by
  obtain ⟨i0, hi, hz0, hz1, hz2⟩ := info_parts info5
  have c0 := h.row
  have f0 := h.1.frozen 0
  have HP := hid h
  have HU := hid (u8v_length ys)
  have HN := hid (Reads.news hr)
  have HM : Hid (ys.length = m) := hr.1
  have HN2 : Hid (xs.length + m ≤ maxLen) := by show _ ≤ _; unfold maxLen; omega
  have HN3 : Hid ((xs.length + m) * 1 ≤ 140737488355328) := by show _ ≤ _; omega
  clear h hr hn
  go_enter Try.func71, Try.ntmps71
  go_wp2_with (at_builtin; refine wpList_append_at_from rfl _ _ 39 rfl lo 5 i0 (.int .u8 0) 1 Try.underlying39 hi hz0 hz1 hz2 rfl v xs.length (u8v xs) rfl HP.out.2.2 a m c (u8v ys) rfl (by rw [HU.out, HM.out]) HN.out (u8v_one ys) HN2.out HN3.out hlo ?_)
  intro v' w1 ho hg ha
  obtain ⟨a', c', rfl, _⟩ := ownsRow_slice ho
  have hs := HP.out.stored (ys := ys) hg ha (by rw [HM.out]; exact ho)
  have hb : Block w1 b 84 [v, .int .i64 bad] := (hg.block b HP.out.1.lt (fun e => HP.out.2.1 e.symm)).trans HP.out.1
  have c1 : w1.cell? ⟨b, 0, none⟩ = some v := by rw [hb.cell]; rfl
  have f1 := hb.frozen 0
  have HS := hid hs
  clear hs hb ho hg ha
  go_wp2
  exact bodyPost_ret (v := .tuple #[]) (by kernel_rfl) rfl ⟨rfl, _, HS.out.1, HS.out.2⟩
theorem put_nil (u : Value) (w : World) : Calls Try.prog 71 #[.pointer none, u] w (Quiet (.tuple #[]) w) := by
  go_enter Try.func71, Try.ntmps71
  go_wp2
  exact bodyPost_ret (v := .tuple #[]) (by kernel_rfl) rfl ⟨rfl, 0, rfl⟩
end Go.Proofs.Ytacigmnnekphmaa.pen
/- A list of bytes as a string. No condition. -/
namespace Go.Proofs.Ytacigmnnekphmaa.texts
open Go.RowKit

/-- the string of a list of bytes -/
def strL (l : List UInt8) : ByteArray := ⟨l.toArray⟩
theorem strL_data (l : List UInt8) : (strL l).data.toList = l := rfl
theorem strL_size (l : List UInt8) : (strL l).size = l.length := by simp [strL, ByteArray.size]
theorem strL_app (a b : List UInt8) : strL a ++ strL b = strL (a ++ b) := ByteArray.mk_append_mk a b
theorem strL_of (s : ByteArray) : strL s.data.toList = s := by cases s; simp [strL]
theorem strL_inj {a b : List UInt8} (h : strL a = strL b) : a = b := by rw [← strL_data a, h, strL_data]
theorem strL_toList (l : List UInt8) : (strL l).toList = l := ByteArray.toList_mk l
end Go.Proofs.Ytacigmnnekphmaa.texts
/- Contracts of the pen's calls that write: varint, Count, Num. No condition but that the row stays shorter than 2^47 bytes. -/
namespace Go.Proofs.Ytacigmnnekphmaa.pen
open Go.RowKit Go.Proofs.Ytacigmnnekphmaa.texts
set_option linter.unusedVariables false

theorem Wrote.more {lo b : Nat} {v v1 : Value} {xs ys zs : List Nat} {bad : Int} {w w1 w' : World} {e : Ending} (ht : Turns w b v w1 v1) (h : Wrote lo b v1 (xs ++ ys) zs bad w1 e w') : Wrote lo b v xs (ys ++ zs) bad w e w' := by
  obtain ⟨he, v', hp, h2⟩ := h
  exact ⟨he, v', by rw [← List.append_assoc]; exact hp, ht.trans h2⟩
/-- put of a row that was just built -/
theorem put_new (lo b : Nat) (v : Value) (xs : List Nat) (bad : Int) (w : World) (h : PenAt lo b v xs bad w) (hlo : lo ≤ w.heap.size) (ys : List Nat) (hn : xs.length + ys.length ≤ 140737488355328) (vals : Array Value) (hv : vals = (u8v ys).toArray) (m : Nat) (hm : m = ys.length) :
    Calls Try.prog 71 #[.pointer (some ⟨b, 0, none⟩), .slice (some ⟨w.heap.size, 0, none⟩) m m] (w.alloc (.cells vals 5)) (Wrote lo b v xs ys bad w) := by
  subst hv hm
  have hb : Below w.heap.size w (w.alloc (.cells (u8v ys).toArray 5)) := (Below.refl _ _).alloc (Nat.le_refl _) _
  refine (put_any lo b v xs bad _ (h.later hb) (Nat.le_trans hlo hb.size) _ _ _ ys (Reads.new w _ ys) hn).mono ?_
  rintro e w' ⟨he, v', hp, ht⟩
  exact ⟨he, v', hp, (turns_later hb).trans ht⟩

set_option maxRecDepth 8000 in
set_option maxHeartbeats 800000 in
theorem varint_any (lo b : Nat) (v : Value) (xs : List Nat) (bad : Int) (w : World) (h : PenAt lo b v xs bad w) (hlo : lo ≤ w.heap.size) (x : Nat) (hx : x < 18446744073709551616) (hn : xs.length + 10 ≤ 140737488355328) :
    Calls Try.prog 56 #[.pointer (some ⟨b, 0, none⟩), .int .u64 (x : Int)] w (Wrote lo b v xs (vb x) bad w) := by
  have hlen := vb_ten x hx
  obtain ⟨X, hX⟩ : ∃ X, Hid (vb x = X) := ⟨_, rfl⟩
  rw [hX.out] at hlen ⊢
  have HX : Hid (([] : List Nat) ++ vb x = X) := hX.out
  have HP := hid h
  clear h
  go_enter Try.func56, Try.ntmps56
  go_wp2
  go_loopw [1] (fun i wr => ∃ (y : Nat) (ys : List Nat) (v' : Value), i = .int .u64 (y : Int) ∧ y < 18446744073709551616 ∧ PenAt lo b v' (xs ++ ys) bad wr ∧ Turns w b v wr v' ∧ Hid (ys ++ vb y = X))
    (fun i _ => (intOf i).toNat)
  case atStart => exact ⟨x, [], v, rfl, hx, by rw [List.append_nil]; exact HP.out, Turns.refl _ _ _, HX⟩
  case round =>
    obtain ⟨y, ys, v', rfl, hy, hp, ht, he⟩ := hrel
    have hlo' := Nat.le_trans hlo ht.size
    have HT := hid ht
    have hl : ys.length + (vb y).length = X.length := by rw [← he.out, List.length_append]
    have hpos := vb_pos y
    by_cases h128 : y < 128
    · have hi : ((y : Int) < 128) := by omega
      have hE : Hid (ys ++ [y] = X) := by show _ = _; rw [← he.out, vb_small h128]
      have c1 := put_new lo b v' (xs ++ ys) bad wr hp hlo' [y] (by simp; omega) #[.int .u8 (y : Int)] rfl 1 rfl
      clear hp ht hl hpos
      go_wp2_with (go_at_call 71; (with_reducible refine c1.mono ?_); rintro e w2 ⟨rfl, v2, hp2, ht2⟩)
      exact ret0 rfl rfl ⟨rfl, v2, by rw [← hE.out, ← List.append_assoc]; exact hp2, HT.out.trans ht2⟩
    · have hi : ¬ ((y : Int) < 128) := by omega
      have hE : Hid ((ys ++ [128 + y % 128]) ++ vb (y / 128) = X) := by show _ = _; rw [← he.out, vb_big h128]; simp
      have c1 : ∀ z : Int, z = ((128 + y % 128 : Nat) : Int) → Calls Try.prog 71 #[.pointer (some ⟨b, 0, none⟩), .slice (some ⟨wr.heap.size, 0, none⟩) 1 1] (wr.alloc (.cells #[.int .u8 z] 5)) (Wrote lo b v' (xs ++ ys) [128 + y % 128] bad wr) := by
        rintro z rfl
        exact put_new lo b v' (xs ++ ys) bad wr hp hlo' [128 + y % 128] (by simp; omega) _ rfl 1 rfl
      clear hp ht hl hpos he
      go_wp2_with (go_at_call 71; (with_reducible refine (c1 _ (by omega)).mono ?_); rintro e w2 ⟨rfl, v2, hp2, ht2⟩)
      exact ⟨⟨y / 128, ys ++ [128 + y % 128], v2, by go_num, by omega, by rw [← List.append_assoc]; exact hp2, HT.out.trans ht2, hE⟩, by simp [intOf]; omega⟩

theorem i64_not (n : Int) (h1 : -9223372036854775808 ≤ n) (h2 : n ≤ 9223372036854775807) : bits .xor .i64 (-1) n = -n - 1 := by
  show IntKind.i64.wrap ((BitVec.ofInt 64 (-1) ^^^ BitVec.ofInt 64 n).toNat : Int) = _
  have e1 : (BitVec.ofInt 64 (-1)).toNat = 2 ^ 64 - 1 := by decide
  rw [BitVec.toNat_xor, e1, Lib.xor_ones64 _ (BitVec.isLt _), BitVec.toNat_ofInt, IntKind.wrap_i64]
  omega
theorem i64_low (n : Int) (j : Nat) (hj : j ≤ 32) (m : Int) (hm : (BitVec.ofInt 64 m).toNat = 2 ^ j - 1) : bits .and .i64 n m = n % (2 ^ j : Nat) := by
  show IntKind.i64.wrap ((BitVec.ofInt 64 n &&& BitVec.ofInt 64 m).toNat : Int) = _
  have hp : 2 ^ j ∣ 2 ^ 64 := Nat.pow_dvd_pow 2 (by omega)
  have hl : 2 ^ j ≤ 2 ^ 32 := Nat.pow_le_pow_right (by decide) hj
  have h0 : 0 < 2 ^ j := Nat.two_pow_pos j
  rw [BitVec.toNat_and, hm, Nat.and_two_pow_sub_one_eq_mod, BitVec.toNat_ofInt, IntKind.wrap_i64]
  have e : ((n % ((2 ^ 64 : Nat) : Int)).toNat % 2 ^ j : Nat) = (n % ((2 ^ j : Nat) : Int)) := by
    rw [Int.natCast_emod, Int.toNat_of_nonneg (Int.emod_nonneg _ (by decide)), Int.emod_emod_of_dvd _ (by exact_mod_cast hp)]
  rw [e]
  have a1 := Int.emod_nonneg n (show ((2 ^ j : Nat) : Int) ≠ 0 by omega)
  have a2 := Int.emod_lt_of_pos n (show (0 : Int) < ((2 ^ j : Nat) : Int) by omega)
  generalize n % ((2 ^ j : Nat) : Int) = q at *
  omega
theorem i64_low8 (n : Int) : bits .and .i64 n 255 = n % 256 := i64_low n 8 (by decide) 255 (by decide)
theorem i64_low32 (n : Int) : bits .and .i64 n 4294967295 = n % 4294967296 := i64_low n 32 (by decide) 4294967295 (by decide)
theorem zigzag_any (n : Int) (h1 : -9223372036854775808 ≤ n) (h2 : n ≤ 9223372036854775807) (w : World) : Calls Try.prog 72 #[.int .i64 n] w (Quiet (.int .u64 (zig n : Int)) w) := by
  have hn := i64_not n h1 h2
  have hsg : IntKind.i64.signed = true := rfl
  by_cases h0 : n < 0
  · have hz : (zig n : Int) = 2 * (-n - 1) + 1 := by unfold zig; rw [if_pos h0]; omega
    rw [hz]
    go_enter Try.func72, Try.ntmps72
    go_wp2
    go_ret
    exact ⟨rfl, 0, rfl⟩
  · have hz : (zig n : Int) = 2 * n := by unfold zig; rw [if_neg h0]; omega
    rw [hz]
    go_enter Try.func72, Try.ntmps72
    go_wp2
    go_ret
    exact ⟨rfl, 0, rfl⟩

theorem count_any (lo b : Nat) (v : Value) (xs : List Nat) (bad : Int) (w : World) (h : PenAt lo b v xs bad w) (hlo : lo ≤ w.heap.size) (n : Nat) (hn63 : n ≤ 9223372036854775807) (hn : xs.length + 10 ≤ 140737488355328) :
    Calls Try.prog 38 #[.pointer (some ⟨b, 0, none⟩), .int .i64 (n : Int)] w (Wrote lo b v xs (vb n) bad w) := by
  have c1 := varint_any lo b v xs bad w h hlo n (by omega) hn
  obtain ⟨X, hX⟩ : ∃ X, Hid (vb n = X) := ⟨_, rfl⟩
  rw [hX.out] at c1 ⊢
  clear h
  go_enter Try.func38, Try.ntmps38
  go_wp2_with (go_at_call 56; (with_reducible refine c1.mono ?_); rintro e w2 ⟨rfl, v2, hp2, ht2⟩)
  exact ret0 rfl rfl ⟨rfl, v2, hp2, ht2⟩
theorem count_neg (lo b : Nat) (v : Value) (xs : List Nat) (bad : Int) (w : World) (h : PenAt lo b v xs bad w) (n : Int) (h1 : -9223372036854775808 ≤ n) (hn : n < 0) :
    Calls Try.prog 38 #[.pointer (some ⟨b, 0, none⟩), .int .i64 n] w fun e w' => e = .returned (.tuple #[]) ∧ PenAt lo b v xs 2 w' ∧ Turns w b v w' v := by
  have c1 := h.err
  have f1 := h.1.frozen 1
  have hf := hid (h.fail 2)
  clear h
  go_enter Try.func38, Try.ntmps38
  go_wp2
  exact ret0 rfl rfl ⟨rfl, hf.out.1, hf.out.2⟩
theorem num_any (lo b : Nat) (v : Value) (xs : List Nat) (bad : Int) (w : World) (h : PenAt lo b v xs bad w) (hlo : lo ≤ w.heap.size) (n : Int) (h1 : -9223372036854775808 ≤ n) (h2 : n ≤ 9223372036854775807) (hn : xs.length + 10 ≤ 140737488355328) :
    Calls Try.prog 57 #[.pointer (some ⟨b, 0, none⟩), .int .i64 n] w (Wrote lo b v xs (vb (zig n)) bad w) := by
  have c0 := zigzag_any n h1 h2 w
  have c1 : ∀ m, Calls Try.prog 56 #[.pointer (some ⟨b, 0, none⟩), .int .u64 (zig n : Int)] (w.drewN m) (Wrote lo b v xs (vb (zig n)) bad w) := fun m =>
    (varint_any lo b v xs bad (w.drewN m) h hlo (zig n) (zig_lt n h1 h2) hn).mono fun e w' ⟨he, v', hp, ht⟩ => ⟨he, v', hp, (turns_later (below_drewN (Below.refl _ _) m)).trans ht⟩
  obtain ⟨X, hX⟩ : ∃ X, Hid (vb (zig n) = X) := ⟨_, rfl⟩
  rw [hX.out] at c1 ⊢
  clear h
  obtain ⟨Z, hZ⟩ : ∃ Z, Hid (zig n = Z) := ⟨_, rfl⟩
  rw [hZ.out] at c0 c1
  go_enter Try.func57, Try.ntmps57
  go_wp2_with (first
    | (go_at_call 72; (with_reducible refine c0.mono ?_); clear c0; rintro e w1 ⟨rfl, m, rfl⟩)
    | (go_at_call 56; (with_reducible refine (c1 _).mono ?_); rintro e w2 ⟨rfl, v2, hp2, ht2⟩))
  exact ret0 rfl rfl ⟨rfl, v2, hp2, ht2⟩
end Go.Proofs.Ytacigmnnekphmaa.pen
/- Contracts of New, Done and bytes.Clone, and of calls on a pen that is none. No condition but a row of at most 2^47 bytes. -/
namespace Go.Proofs.Ytacigmnnekphmaa.pen
open Go.RowKit Go.Proofs.Ytacigmnnekphmaa.texts
set_option linter.unusedVariables false

theorem bytes_nil (W : World) (a : Option Addr) (n c : Nat) : (binOp .eql 39 (.slice a n c) (.slice none 0 0)).run Try.prog W = .ok (.bool a.isNone) W := by
  have h := run_equal_slice_nil (P := Try.prog) W 39 5 a n c Try.underlying39
  simp [binOp, h, Result.andThen]
/-- the call returns a row of its own that holds the bytes xs -/
def Copies (xs : List Nat) (w : World) (e : Ending) (w' : World) : Prop :=
  ∃ v, e = .returned v ∧ w'.ownsRow w.heap.size 5 1 v xs.length (u8v xs) ∧ Below w.heap.size w w'
theorem clone_any (a : Option Addr) (m c : Nat) (xs : List Nat) (w : World) (hr : Reads .u8 w a m xs) (hn : m ≤ 140737488355328) :
    Calls Try.prog 58 #[.slice a m c] w (Copies xs w) := by
  obtain ⟨i0, hi, hz0, hz1, hz2⟩ := info_parts info5
  have HM : Hid (xs.length = m) := hr.1
  cases a with
  | none =>
    have en := bytes_nil w none m c
    simp only [Option.isNone_none] at en
    have h0 : m = 0 := by rcases hr.2 with h | ⟨_, _, h, _⟩; exact h; cases h
    have HX := hid h0
    clear hr h0
    go_enter Try.func58, Try.ntmps58
    go_wp2
    go_ret
    obtain rfl : xs = [] := List.eq_nil_of_length_eq_zero (HM.out.trans HX.out)
    exact ⟨_, rfl, World.ownsRow_nil _ _ _ _, Below.refl _ _⟩
  | some ad =>
    have en := bytes_nil w (some ad) m c
    simp only [Option.isNone_some] at en
    have hb : Below w.heap.size w (w.alloc (.cells #[] 5)) := (Below.refl _ _).alloc (Nat.le_refl _) _
    have HB := hid hb
    have HN := hid (Reads.news (hr.below hb))
    have HU := hid (u8v_length xs)
    have HN2 : Hid (0 + m ≤ maxLen) := by show _ ≤ _; unfold maxLen; omega
    have HN3 : Hid ((0 + m) * 1 ≤ 140737488355328) := by show _ ≤ _; omega
    have HO := hid (World.ownsRow_made (base := w.heap.size) (e := 5) (size := 1) w #[] 0 (Nat.le_refl _) (Nat.zero_le _) rfl)
    clear hr hb
    go_enter Try.func58, Try.ntmps58
    go_wp2_with (at_builtin; refine wpList_append_at_from rfl _ _ 39 rfl w.heap.size 5 i0 (.int .u8 0) 1 Try.underlying39 hi hz0 hz1 hz2 rfl (.slice (some ⟨w.heap.size, 0, none⟩) 0 0) 0 [] rfl HO.out (some ad) m c (u8v xs) rfl (by rw [HU.out, HM.out]) HN.out (u8v_one xs) HN2.out HN3.out HB.out.size ?_)
    intro v' w1 ho hg ha
    have hbl : Below w.heap.size w w1 := HB.out.grown hg HB.out.size (fun k hk => by cases hk; exact Nat.le_refl _)
    have ho' : w1.ownsRow w.heap.size 5 1 v' xs.length (u8v xs) := by
      rw [HM.out]; simpa using ho
    have HO2 := hid ho'
    have HB2 := hid hbl
    clear ho ho' hbl hg ha
    go_wp2
    go_ret
    exact ⟨_, rfl, HO2.out, HB2.out⟩

theorem new_any (w : World) : Calls Try.prog 37 #[] w fun e w' => e = .returned (.pointer (some ⟨w.heap.size, 0, none⟩)) ∧ PenAt w.heap.size w.heap.size (.slice none 0 0) [] 0 w' ∧ Below w.heap.size w w' := by
  go_enter Try.func37, Try.ntmps37
  go_wp2
  go_ret
  exact ⟨rfl, ⟨Block.new w 84 [.slice none 0 0, .int .i64 0], by simp [Value.ownBlock], World.ownsRow_nil _ _ _ _⟩, (Below.refl _ _).alloc (Nat.le_refl _) _⟩

/-- what Done answers -/
def Gives (xs : List Nat) (bad : Int) (w : World) (e : Ending) (w' : World) : Prop :=
  ∃ v, e = .returned (.tuple #[v, .int .i64 bad]) ∧ w'.ownsRow w.heap.size 5 1 v xs.length (u8v xs) ∧ Below w.heap.size w w'
theorem done_any (lo b : Nat) (v : Value) (xs : List Nat) (w : World) (h : PenAt lo b v xs 0 w) (hn : xs.length ≤ 140737488355328) :
    Calls Try.prog 40 #[.pointer (some ⟨b, 0, none⟩)] w (Gives xs 0 w) := by
  obtain ⟨a, c, rfl, hc⟩ := ownsRow_slice h.2.2
  have c1 := clone_any a xs.length c xs w (Reads.own h.2.2) hn
  have c0 := h.row
  have c2 := h.err
  clear h
  go_enter Try.func40, Try.ntmps40
  go_wp2_with (go_at_call 58; (with_reducible refine c1.mono ?_); clear c1; rintro e w1 ⟨u, rfl, ho, hb⟩)
  go_ret2
  exact ⟨_, rfl, ho, hb⟩
theorem done_bad (lo b : Nat) (v : Value) (xs : List Nat) (w : World) (h : PenAt lo b v xs 2 w) :
    Calls Try.prog 40 #[.pointer (some ⟨b, 0, none⟩)] w (Gives [] 2 w) := by
  have c2 := h.err
  clear h
  go_enter Try.func40, Try.ntmps40
  go_wp2_with go_region
  all_goals go_ret2
  all_goals exact ⟨_, rfl, World.ownsRow_nil _ _ _ _, by repeat (first | exact Below.refl _ _ | apply below_drewN)⟩

/-! a pen that is none -/
/-- the call returns nothing and turns nothing that was there -/
def Idle (w : World) (e : Ending) (w' : World) : Prop := e = .returned (.tuple #[]) ∧ Below w.heap.size w w'
theorem done_nil (w : World) : Calls Try.prog 40 #[.pointer none] w (Quiet (.tuple #[.slice none 0 0, .int .i64 1]) w) := by
  go_enter Try.func40, Try.ntmps40
  go_wp2
  go_ret2
  exact ⟨rfl, 0, rfl⟩
theorem put_idle (u : Value) (w : World) : Calls Try.prog 71 #[.pointer none, u] w (Idle w) := by
  go_enter Try.func71, Try.ntmps71
  go_wp2
  exact ret0 rfl rfl ⟨rfl, Below.refl _ _⟩
theorem count_idle (n : Int) (w : World) : Calls Try.prog 38 #[.pointer none, .int .i64 n] w (Idle w) := by
  go_enter Try.func38, Try.ntmps38
  go_wp2
  exact ret0 rfl rfl ⟨rfl, Below.refl _ _⟩
set_option maxRecDepth 8000 in
theorem varint_idle (x : Nat) (hx : x < 18446744073709551616) (w : World) : Calls Try.prog 56 #[.pointer none, .int .u64 (x : Int)] w (Idle w) := by
  have c1 := fun u w1 => put_idle u w1
  go_enter Try.func56, Try.ntmps56
  go_wp2
  go_loopw [1] (fun i wr => ∃ y : Nat, i = .int .u64 (y : Int) ∧ y < 18446744073709551616 ∧ Below w.heap.size w wr)
    (fun i _ => (intOf i).toNat)
  case atStart => exact ⟨x, rfl, hx, Below.refl _ _⟩
  case round =>
    obtain ⟨y, rfl, hy, hb⟩ := hrel
    have HB := hid hb
    clear hb
    by_cases h128 : y < 128
    · have hi : ((y : Int) < 128) := by omega
      go_wp2_with (go_at_call 71; (with_reducible refine (c1 _ _).mono ?_); rintro e w2 ⟨rfl, hb2⟩)
      exact ret0 rfl rfl ⟨rfl, (HB.out.alloc HB.out.size _).trans (hb2.mono (by simp; have := HB.out.size; omega))⟩
    · have hi : ¬ ((y : Int) < 128) := by omega
      go_wp2_with (go_at_call 71; (with_reducible refine (c1 _ _).mono ?_); rintro e w2 ⟨rfl, hb2⟩)
      exact ⟨⟨y / 128, by go_num, by omega, (HB.out.alloc HB.out.size _).trans (hb2.mono (by simp; have := HB.out.size; omega))⟩, by simp [intOf]; omega⟩
theorem num_idle (n : Int) (h1 : -9223372036854775808 ≤ n) (h2 : n ≤ 9223372036854775807) (w : World) : Calls Try.prog 57 #[.pointer none, .int .i64 n] w (Idle w) := by
  have c0 := zigzag_any n h1 h2 w
  have c1 := fun w1 => varint_idle (zig n) (zig_lt n h1 h2) w1
  obtain ⟨Z, hZ⟩ : ∃ Z, Hid (zig n = Z) := ⟨_, rfl⟩
  rw [hZ.out] at c0 c1
  go_enter Try.func57, Try.ntmps57
  go_wp2_with (first
    | (go_at_call 72; (with_reducible refine c0.mono ?_); clear c0; rintro e w1 ⟨rfl, m, rfl⟩)
    | (go_at_call 56; (with_reducible refine (c1 _).mono ?_); rintro e w2 ⟨rfl, hb2⟩))
  exact ret0 rfl rfl ⟨rfl, (below_drewN (Below.refl _ _) m).trans hb2⟩
end Go.Proofs.Ytacigmnnekphmaa.pen
/- Contract of layer 13 (schema): printField. No condition but a right field and a row shorter than 2^46 bytes. -/
namespace Go.Proofs.Ytacigmnnekphmaa.schema
open Go.RowKit Go.Proofs.Ytacigmnnekphmaa.pen
set_option linter.unusedVariables false

theorem count_int (lo b : Nat) (v : Value) (xs : List Nat) (w : World) (h : PenAt lo b v xs 0 w) (hlo : lo ≤ w.heap.size) (n : Int) (h0 : 0 ≤ n) (h63 : n ≤ 9223372036854775807) (hn : xs.length ≤ 1000000) :
    Calls Try.prog 38 #[.pointer (some ⟨b, 0, none⟩), .int .i64 n] w (Wrote lo b v xs (vb n.toNat) 0 w) := by
  obtain ⟨m, rfl⟩ := Int.eq_ofNat_of_zero_le h0
  exact count_any lo b v xs 0 w h hlo m (by omega) (by omega)
/-- a struct stays where a pen writes -/
theorem pen_block {lo b : Nat} {v v' : Value} {xs : List Nat} {bad : Int} {w w' : World} (hp : PenAt lo b v xs bad w) (ht : Turns w b v w' v') {k : Nat} {t : TypeId} {cs : List Value} (hB : Block w k t cs) (hT : t ≠ 5) (hk : k ≠ b) : Block w' k t cs := by
  refine (ht.block k hB.lt hk ?_).trans hB
  intro e
  rcases hp.2.2.2 with ⟨hv, _⟩ | ⟨g, cap, cur, hv, _, hg, _⟩
  · rw [hv] at e; simp [Value.ownBlock] at e
  · rw [hv] at e
    simp [Value.ownBlock] at e
    subst e
    unfold Block at hB
    rw [hg] at hB
    exact hT ((Obj.cells.inj (Option.some.inj hB)).2.1.symm)
theorem fd_ty : (50 : TypeId) ≠ 5 := by decide
theorem fm_ty : (29 : TypeId) ≠ 5 := by decide
theorem sc_ty : (24 : TypeId) ≠ 5 := by decide
theorem turns_alloc (w : World) (b : Nat) (v : Value) (d : Obj) : Turns w b v (w.alloc d) v := turns_later ((Below.refl _ _).alloc (Nat.le_refl _) _)

theorem printField_any (lo b : Nat) (v : Value) (xs : List Nat) (w : World) (h : PenAt lo b v xs 0 w) (hlo : lo ≤ w.heap.size) (p : field.Fd) (hr : p.Right) (hn : xs.length ≤ 100000) :
    Calls Try.prog 39 #[.pointer (some ⟨b, 0, none⟩), .agg #[.int .i64 p.id, .int .i64 p.kind, .int .i64 p.lo, .int .i64 p.hi, .int .i64 p.most]] w (Wrote lo b v xs (fieldB p) 0 w) := by
  have hs := right_span hr
  have hk : p.kind = 1 ∨ p.kind = 2 ∨ p.kind = 3 ∨ p.kind = 4 := by omega
  have hbl := Block.new w 50 [.int .i64 p.id, .int .i64 p.kind, .int .i64 p.lo, .int .i64 p.hi, .int .i64 p.most]
  have hp0 := h.later (field.newB w (.cells #[.int .i64 p.id, .int .i64 p.kind, .int .i64 p.lo, .int .i64 p.hi, .int .i64 p.most] 50))
  have ht0 := turns_alloc w b v (.cells #[.int .i64 p.id, .int .i64 p.kind, .int .i64 p.lo, .int .i64 p.hi, .int .i64 p.most] 50)
  have hne : w.heap.size ≠ b := by have := h.1.lt; omega
  have hl0 : lo ≤ (w.alloc (.cells #[.int .i64 p.id, .int .i64 p.kind, .int .i64 p.lo, .int .i64 p.hi, .int .i64 p.most] 50)).heap.size := by simp; omega
  have l1 := vb_ten p.id.toNat (by omega)
  have l2 := vb_ten p.kind.toNat (by omega)
  have l3 := vb_ten (zig p.lo) (zig_lt _ (by omega) (by omega))
  have l4 := vb_ten (zig p.hi) (zig_lt _ (by omega) (by omega))
  have hfb : fieldB p = vb p.id.toNat ++ vb p.kind.toNat ++ (if p.kind = 1 then vb (zig p.lo) ++ vb (zig p.hi) else if p.kind = 3 ∨ p.kind = 4 then vb p.most.toNat else []) := rfl
  rw [hfb]
  clear hfb h hr
  obtain ⟨i, k, lw, hi, m⟩ := p
  simp only at *
  have c1 := count_int lo b v xs _ hp0 hl0 i (by omega) (by omega) (by omega)
  have c2 := fun v1 w1 hp hl => count_int lo b v1 (xs ++ vb i.toNat) w1 hp hl k (by omega) (by omega) (by simp only [List.length_append]; omega)
  have C3 := hid (fun v1 w1 hp hl => num_any lo b v1 (xs ++ vb i.toNat ++ vb k.toNat) 0 w1 hp hl lw (by omega) (by omega) (by simp only [List.length_append]; omega))
  have C4 := hid (fun v1 w1 hp hl => num_any lo b v1 (xs ++ vb i.toNat ++ vb k.toNat ++ vb (zig lw)) 0 w1 hp hl hi (by omega) (by omega) (by simp only [List.length_append]; omega))
  have C5 := hid (fun v1 w1 hp hl => count_int lo b v1 (xs ++ vb i.toNat ++ vb k.toNat) w1 hp hl m (by omega) (by omega) (by simp only [List.length_append]; omega))
  have HBL := hid hbl
  have HT0 := hid ht0
  clear hs l1 l2 l3 l4 ht0 hbl hlo hn
  rcases hk with rfl | rfl | rfl | rfl
  · have c3 := C3.out
    have c4 := C4.out
    clear C3 C4 C5
    rw [if_pos rfl]
    go_enter Try.func39, Try.ntmps39
    go_wp2_with (first
      | (go_at_call 38; ((with_reducible refine c1.mono ?_); rintro e w1 ⟨rfl, v1, hp1, ht1⟩; have hB1 := pen_block hp0 ht1 HBL.out fd_ty hne; have z0 := hB1.cell 0; have z1 := hB1.cell 1; have hl1 := Nat.le_trans hl0 ht1.size))
      | (go_at_call 38; ((with_reducible refine (c2 _ _ hp1 hl1).mono ?_); rintro e w2 ⟨rfl, v2, hp2, ht2⟩; have hB2 := pen_block hp1 ht2 hB1 fd_ty hne; have z1 := hB2.cell 1; have z2 := hB2.cell 2; have z4 := hB2.cell 4; have hl2 := Nat.le_trans hl1 ht2.size))
      | (go_at_call 57; ((with_reducible refine (c3 _ _ hp2 hl2).mono ?_); rintro e w3 ⟨rfl, v3, hp3, ht3⟩; have hB3 := pen_block hp2 ht3 hB2 fd_ty hne; have z3 := hB3.cell 3; have hl3 := Nat.le_trans hl2 ht3.size))
      | (go_at_call 57; ((with_reducible refine (c4 _ _ hp3 hl3).mono ?_); rintro e w4 ⟨rfl, v4, hp4, ht4⟩))
      | (go_at_call 38; ((with_reducible refine (c5 _ _ hp2 hl2).mono ?_); rintro e w3 ⟨rfl, v3, hp3, ht3⟩)))
    exact ret0 rfl rfl ⟨rfl, v4, by simpa only [List.append_assoc] using hp4, HT0.out.trans (ht1.trans (ht2.trans (ht3.trans ht4)))⟩
  · clear C3 C4 C5
    rw [if_neg (by decide), if_neg (by decide), List.append_nil]
    go_enter Try.func39, Try.ntmps39
    go_wp2_with (first
      | (go_at_call 38; ((with_reducible refine c1.mono ?_); rintro e w1 ⟨rfl, v1, hp1, ht1⟩; have hB1 := pen_block hp0 ht1 HBL.out fd_ty hne; have z0 := hB1.cell 0; have z1 := hB1.cell 1; have hl1 := Nat.le_trans hl0 ht1.size))
      | (go_at_call 38; ((with_reducible refine (c2 _ _ hp1 hl1).mono ?_); rintro e w2 ⟨rfl, v2, hp2, ht2⟩; have hB2 := pen_block hp1 ht2 hB1 fd_ty hne; have z1 := hB2.cell 1; have z2 := hB2.cell 2; have z4 := hB2.cell 4; have hl2 := Nat.le_trans hl1 ht2.size))
      | (go_at_call 57; ((with_reducible refine (c3 _ _ hp2 hl2).mono ?_); rintro e w3 ⟨rfl, v3, hp3, ht3⟩; have hB3 := pen_block hp2 ht3 hB2 fd_ty hne; have z3 := hB3.cell 3; have hl3 := Nat.le_trans hl2 ht3.size))
      | (go_at_call 57; ((with_reducible refine (c4 _ _ hp3 hl3).mono ?_); rintro e w4 ⟨rfl, v4, hp4, ht4⟩))
      | (go_at_call 38; ((with_reducible refine (c5 _ _ hp2 hl2).mono ?_); rintro e w3 ⟨rfl, v3, hp3, ht3⟩)))
    exact ret0 rfl rfl ⟨rfl, v2, by simpa only [List.append_assoc] using hp2, HT0.out.trans (ht1.trans ht2)⟩
  · have c5 := C5.out
    clear C3 C4 C5
    rw [if_neg (by decide), if_pos (by decide)]
    go_enter Try.func39, Try.ntmps39
    go_wp2_with (first
      | (go_at_call 38; ((with_reducible refine c1.mono ?_); rintro e w1 ⟨rfl, v1, hp1, ht1⟩; have hB1 := pen_block hp0 ht1 HBL.out fd_ty hne; have z0 := hB1.cell 0; have z1 := hB1.cell 1; have hl1 := Nat.le_trans hl0 ht1.size))
      | (go_at_call 38; ((with_reducible refine (c2 _ _ hp1 hl1).mono ?_); rintro e w2 ⟨rfl, v2, hp2, ht2⟩; have hB2 := pen_block hp1 ht2 hB1 fd_ty hne; have z1 := hB2.cell 1; have z2 := hB2.cell 2; have z4 := hB2.cell 4; have hl2 := Nat.le_trans hl1 ht2.size))
      | (go_at_call 57; ((with_reducible refine (c3 _ _ hp2 hl2).mono ?_); rintro e w3 ⟨rfl, v3, hp3, ht3⟩; have hB3 := pen_block hp2 ht3 hB2 fd_ty hne; have z3 := hB3.cell 3; have hl3 := Nat.le_trans hl2 ht3.size))
      | (go_at_call 57; ((with_reducible refine (c4 _ _ hp3 hl3).mono ?_); rintro e w4 ⟨rfl, v4, hp4, ht4⟩))
      | (go_at_call 38; ((with_reducible refine (c5 _ _ hp2 hl2).mono ?_); rintro e w3 ⟨rfl, v3, hp3, ht3⟩)))
    exact ret0 rfl rfl ⟨rfl, v3, by simpa only [List.append_assoc] using hp3, HT0.out.trans (ht1.trans (ht2.trans ht3))⟩
  · have c5 := C5.out
    clear C3 C4 C5
    rw [if_neg (by decide), if_pos (by decide)]
    go_enter Try.func39, Try.ntmps39
    go_wp2_with (first
      | (go_at_call 38; ((with_reducible refine c1.mono ?_); rintro e w1 ⟨rfl, v1, hp1, ht1⟩; have hB1 := pen_block hp0 ht1 HBL.out fd_ty hne; have z0 := hB1.cell 0; have z1 := hB1.cell 1; have hl1 := Nat.le_trans hl0 ht1.size))
      | (go_at_call 38; ((with_reducible refine (c2 _ _ hp1 hl1).mono ?_); rintro e w2 ⟨rfl, v2, hp2, ht2⟩; have hB2 := pen_block hp1 ht2 hB1 fd_ty hne; have z1 := hB2.cell 1; have z2 := hB2.cell 2; have z4 := hB2.cell 4; have hl2 := Nat.le_trans hl1 ht2.size))
      | (go_at_call 57; ((with_reducible refine (c3 _ _ hp2 hl2).mono ?_); rintro e w3 ⟨rfl, v3, hp3, ht3⟩; have hB3 := pen_block hp2 ht3 hB2 fd_ty hne; have z3 := hB3.cell 3; have hl3 := Nat.le_trans hl2 ht3.size))
      | (go_at_call 57; ((with_reducible refine (c4 _ _ hp3 hl3).mono ?_); rintro e w4 ⟨rfl, v4, hp4, ht4⟩))
      | (go_at_call 38; ((with_reducible refine (c5 _ _ hp2 hl2).mono ?_); rintro e w3 ⟨rfl, v3, hp3, ht3⟩)))
    exact ret0 rfl rfl ⟨rfl, v3, by simpa only [List.append_assoc] using hp3, HT0.out.trans (ht1.trans (ht2.trans ht3))⟩
end Go.Proofs.Ytacigmnnekphmaa.schema
/- Contract of layer 13 (schema): Print. No condition. -/
namespace Go.Proofs.Ytacigmnnekphmaa.schema
open Go.RowKit Go.Proofs.Ytacigmnnekphmaa.pen
set_option linter.unusedVariables false

/-- the pen at g holds xs; below it all is as in w1 -/
def PS (g : Nat) (w1 : World) (xs : List Nat) (v : Value) (w : World) : Prop := PenAt g g v xs 0 w ∧ Below g w1 w ∧ g ≤ w.heap.size
theorem PS.step {g : Nat} {w1 : World} {xs ys : List Nat} {v v' : Value} {w w' : World} (h : PS g w1 xs v w) (hp : PenAt g g v' (xs ++ ys) 0 w') (ht : Turns w g v w' v') : PS g w1 (xs ++ ys) v' w' :=
  ⟨hp, h.2.1.trans (ht.below h.2.2 (Nat.le_refl _) (fun x hx => (h.1.lo x hx).1)), Nat.le_trans h.2.2 ht.size⟩
theorem PS.later {g : Nat} {w1 : World} {xs : List Nat} {v : Value} {w w' : World} (h : PS g w1 xs v w) (hb : Below w.heap.size w w') : PS g w1 xs v w' := ⟨h.1.later hb, h.2.1.trans (hb.mono h.2.2), Nat.le_trans h.2.2 hb.size⟩
theorem PS.count {g : Nat} {w1 : World} {xs : List Nat} {v : Value} {w : World} (h : PS g w1 xs v w) (n : Int) (h0 : 0 ≤ n) (h63 : n ≤ 9223372036854775807) (hn : xs.length ≤ 1000000) :
    Calls Try.prog 38 #[.pointer (some ⟨g, 0, none⟩), .int .i64 n] w fun e w' => e = .returned (.tuple #[]) ∧ ∃ v', PS g w1 (xs ++ vb n.toNat) v' w' ∧ ∀ k t cs, Block w k t cs → t ≠ 5 → k ≠ g → Block w' k t cs :=
  (count_int g g v xs w h.1 h.2.2 n h0 h63 hn).mono fun _ _ ⟨he, v', hp, ht⟩ => ⟨he, v', h.step hp ht, fun k t cs hB hT hk => pen_block h.1 ht hB hT hk⟩
theorem PS.field {g : Nat} {w1 : World} {xs : List Nat} {v : Value} {w : World} (h : PS g w1 xs v w) (p : field.Fd) (hr : p.Right) (hn : xs.length ≤ 100000) :
    Calls Try.prog 39 #[.pointer (some ⟨g, 0, none⟩), .agg #[.int .i64 p.id, .int .i64 p.kind, .int .i64 p.lo, .int .i64 p.hi, .int .i64 p.most]] w fun e w' => e = .returned (.tuple #[]) ∧ ∃ v', PS g w1 (xs ++ fieldB p) v' w' :=
  (printField_any g g v xs w h.1 h.2.2 p hr hn).mono fun _ _ ⟨he, v', hp, ht⟩ => ⟨he, v', h.step hp ht⟩
theorem formsB_take_len {F : List Form} {v : Int} (h : Right v F) (k : Nat) : (formsB (F.take k)).length ≤ 3000 := by
  have h1 := formsB_len (F := F.take k) (fun p hp => h.2.2.1 p (List.mem_of_mem_take hp))
  have h2 := h.2.1
  have h3 : (F.take k).length ≤ F.length := by simp; omega
  omega
theorem fieldsB_take_len {p : Form} (h : Fine p) (k : Nat) : (fieldsB (p.2.take k)).length ≤ 320 := by
  have h1 := fieldsB_len (L := p.2.take k) (fun f hf => h.2.2.1.1 f (List.mem_of_mem_take hf))
  have h2 := h.2.1
  have h3 : (p.2.take k).length ≤ p.2.length := by simp; omega
  omega
def PrintPost (v : Int) (F : List Form) (w : World) (e : Ending) (w' : World) : Prop :=
  if Right v F then pen.Gives (schemaB v F) 0 w e w' else e = .returned (.tuple #[.slice none 0 0, .int .i64 2]) ∧ Below w.heap.size w w'

theorem print_no (v : Int) (a : Option Addr) (cap : Nat) (F : List Fm) (w : World) (h : FmL w a F) (hF : F.length ≤ maxLen) (hr : ¬ Right v (forms F)) :
    Calls Try.prog 21 #[.agg #[.int .i64 v, .slice a F.length cap]] w fun e w' => e = .returned (.tuple #[.slice none 0 0, .int .i64 2]) ∧ Below w.heap.size w w' := by
  have HX := hid (boxS v a F cap w)
  have cR := right_any v a cap F (w.alloc (.cells #[.int .i64 v, .slice a F.length cap] 24)) (h.below (field.newB _ _)) hF
  rw [decide_eq_false hr] at cR
  clear h hr
  go_enter Try.func21, Try.ntmps21
  go_wp2_with (go_at_call 17; ((with_reducible refine cR.mono ?_); rintro e w1 ⟨rfl, hb1⟩; obtain ⟨z0, z1, hbo⟩ := HX.out _ hb1))
  go_ret2
  exact ⟨rfl, hbo⟩
theorem print_yes (v : Int) (a : Option Addr) (cap : Nat) (F : List Fm) (w : World) (h : FmL w a F) (hr : Right v (forms F)) :
    Calls Try.prog 21 #[.agg #[.int .i64 v, .slice a F.length cap]] w (pen.Gives (schemaB v (forms F)) 0 w) := by
  have h8 : F.length ≤ 8 := by have := hr.2.1; rw [forms_length] at this; exact this
  have hv := hr.1
  have HX := hid (boxS v a F cap w)
  have hb0 := field.newB w (.cells #[.int .i64 v, .slice a F.length cap] 24)
  have cR := right_any v a cap F (w.alloc (.cells #[.int .i64 v, .slice a F.length cap] 24)) (h.below hb0) (by unfold maxLen; omega)
  rw [decide_eq_true hr] at cR
  have HF := hid (h.below hb0)
  have HR := hid hr
  have HSB : Hid (schemaB v (forms F) = [] ++ vb v.toNat ++ vb (F.length : Int).toNat ++ formsB (forms F)) := hid (by unfold schemaB; rw [forms_length]; simp)
  have lv := vb_ten v.toNat (by omega)
  have ln := vb_ten (F.length : Int).toNat (by omega)
  obtain ⟨X, hX⟩ : ∃ X : List Nat, Hid ([] ++ vb v.toNat ++ vb (F.length : Int).toNat = X) := ⟨_, hid rfl⟩
  have HXL : Hid (X.length ≤ 20) := hid (by rw [← hX.out]; simp only [List.length_append, List.length_nil]; omega)
  rw [hX.out] at HSB
  rw [HSB.out]
  clear h hr hb0
  go_enter Try.func21, Try.ntmps21
  go_wp2_with (first
    | (go_at_call 17; ((with_reducible refine cR.mono ?_); rintro e w1 ⟨rfl, hb1⟩; obtain ⟨z0, z1, hbo⟩ := HX.out _ hb1; have hF1 := HF.out.below hb1))
    | (go_at_call 37; ((with_reducible refine (new_any w1).mono ?_); rintro e w2 ⟨rfl, hp2, hb2⟩; have hS2 : PS w1.heap.size w1 [] (.slice none 0 0) w2 := ⟨hp2, hb2, hb2.size⟩; obtain ⟨z0, z1, _⟩ := HX.out _ (hb1.trans (hb2.mono hb1.size))))
    | (go_at_call 38; ((with_reducible refine (hS2.count v (by omega) (by omega) (by simp)).mono ?_); rintro e w3 ⟨rfl, v3, hS3, _⟩; obtain ⟨z0, z1, _⟩ := HX.out _ (hb1.trans (hS3.2.1.mono hb1.size))))
    | (go_at_call 38; ((with_reducible refine (hS3.count (F.length : Int) (by omega) (by omega) (by simp only [List.length_append, List.length_nil]; omega)).mono ?_); rintro e w4 ⟨rfl, v4, hS4, _⟩; obtain ⟨z0, z1, _⟩ := HX.out _ (hb1.trans (hS4.2.1.mono hb1.size)))))
  have hbX := hbo
  generalize hg : w1.heap.size = g at *
  rw [hX.out] at hS4
  go_loopw [25] (fun n wr => ∃ k : Nat, k ≤ F.length ∧ n = .int .i64 (k : Int) ∧ Hid (∃ vP, PS g w1 (X ++ formsB ((forms F).take k)) vP wr)) (fun n _ => F.length - (intOf n).toNat)
  case atStart => exact ⟨0, Nat.zero_le _, rfl, hid ⟨v4, by simpa [formsB] using hS4⟩⟩
  case round =>
    obtain ⟨k, hk, rfl, HS⟩ := hrel
    obtain ⟨vP, hS⟩ := HS.out
    by_cases hlt : k < F.length
    · obtain ⟨b, off, p, rfl, hbl, hp, c0, c1, hfd, hfl⟩ := form_at hF1 (by rw [hg]; exact hS.2.1) hlt
      have i1 : (k : Int) < F.length := by omega
      have HTK := hid (formsB_succ (forms_at hp))
      have hgd := (hF1.2 p (List.mem_of_getElem? hp)).rf
      have hfi : Fine p.p := HR.out.2.2.1 _ (List.mem_of_getElem? (forms_at hp))
      obtain ⟨i, q, qc, L⟩ := p
      simp only [Fm.p] at HTK c0 c1 hfd hfl hfi hgd
      have HF6 := hid hgd
      clear hgd
      have HFI := hid hfi
      have hi := hfi.1
      have hl := hfi.2.1
      simp only at hi hl
      have lf := formsB_take_len HR.out k
      have li := vb_ten i.toNat (by omega)
      have ll := vb_ten (L.length : Int).toNat (by omega)
      have hXl := HXL.out
      have hS0 := hS.later (field.newB wr (.cells #[.int .i64 i, .slice q L.length qc] 29))
      have hbk := Block.new wr 29 [.int .i64 i, .slice q L.length qc]
      have hne : wr.heap.size ≠ g := by have := hS.1.1.lt; omega
      have HBK := hid hbk
      have hFq : field.Fds (wr.alloc (.cells #[.int .i64 i, .slice q L.length qc] 29)) q L := hfd.below (field.newB _ _)
      clear hp hfi hbk hfd hS HS
      have hXl2 : (X ++ formsB ((forms F).take k)).length ≤ 3020 := by simp only [List.length_append]; omega
      obtain ⟨Y, hY⟩ : ∃ Y : List Nat, Hid (X ++ formsB ((forms F).take k) = Y) := ⟨_, hid rfl⟩
      rw [hY.out] at hS0 hXl2
      go_wp2_with (first
        | (go_at_call 38; ((with_reducible refine (hS0.count i (by omega) (by omega) (by omega)).mono ?_); rintro e w5 ⟨rfl, v5, hS5, hK5⟩; have hB5 := hK5 _ _ _ HBK.out fm_ty hne; have y0 := hB5.cell 0; have y1 := hB5.cell 1))
        | (go_at_call 38; ((with_reducible refine (hS5.count (L.length : Int) (by omega) (by omega) (by simp only [List.length_append]; omega)).mono ?_); rintro e w6 ⟨rfl, v6, hS6, hK6⟩; have hB6 := hK6 _ _ _ hB5 fm_ty hne; have y0 := hB6.cell 0; have y1 := hB6.cell 1)))
      go_loopw [41] (fun m wq => ∃ j : Nat, j ≤ L.length ∧ m = .int .i64 (j : Int) ∧ Hid (∃ vP, PS g w1 (Y ++ vb i.toNat ++ vb (L.length : Int).toNat ++ fieldsB (L.take j)) vP wq)) (fun m _ => L.length - (intOf m).toNat)
      case atStart => exact ⟨0, Nat.zero_le _, rfl, hid ⟨v6, by simpa [fieldsB] using hS6⟩⟩
      case round =>
        obtain ⟨j, hj, rfl, HS⟩ := hrel
        obtain ⟨vQ, hQ⟩ := HS.out
        by_cases hjt : j < L.length
        · obtain ⟨b2, off2, x, rfl, hbl2, hx, e0, e1, e2, e3, e4⟩ := field_at HF6.out (by rw [hg]; exact hQ.2.1) hjt
          have i2 : (j : Int) < L.length := by omega
          have HXX := hid (fieldsB_succ hx)
          have lg := fieldsB_take_len HFI.out j
          have cP := (hQ.later (field.newB wr (.cells #[.int .i64 x.id, .int .i64 x.kind, .int .i64 x.lo, .int .i64 x.hi, .int .i64 x.most] 50))).field x (HFI.out.2.2.1.1 x (List.mem_of_getElem? hx)) (by simp only [List.length_append] at lg ⊢; omega)
          clear hx
          go_wp2_with (go_at_call 39; ((with_reducible refine cP.mono ?_); rintro e w7 ⟨rfl, v7, hS7⟩))
          exact ⟨⟨j + 1, by omega, by go_num, hid ⟨v7, by rw [HXX.out]; simpa only [List.append_assoc] using hS7⟩⟩, by simp [intOf]; omega⟩
        · obtain rfl : j = L.length := by omega
          rw [List.take_of_length_le (Nat.le_refl _)] at hQ
          have HEND : Hid (PS g w1 (X ++ formsB ((forms F).take (k + 1))) vQ wr) := hid (by
            rw [HTK.out]
            have h1 := hQ
            rw [← hY.out] at h1
            simpa only [formB, List.append_assoc, Int.toNat_natCast] using h1)
          clear hQ HS
          go_wp2
          exact ⟨⟨k + 1, by omega, by go_num, hid ⟨vQ, HEND.out⟩⟩, by simp [intOf]; omega⟩
    · obtain rfl : k = F.length := by omega
      rw [List.take_of_length_le (by rw [forms_length]; exact Nat.le_refl _)] at hS
      have cD := done_any g g vP (X ++ formsB (forms F)) wr hS.1 (by have h1 := formsB_take_len HR.out F.length; rw [List.take_of_length_le (by rw [forms_length]; exact Nat.le_refl _)] at h1; have := HXL.out; simp only [List.length_append]; omega)
      go_wp2_with (go_at_call 40; ((with_reducible refine cD.mono ?_); rintro e w5 ⟨u, rfl, ho, hb5⟩))
      go_ret2
      have hbw : Below g w1 w5 := hS.2.1.trans (hb5.mono hS.2.2)
      have hlow : w.heap.size ≤ wr.heap.size := Nat.le_trans hbX.size (by have := hS.2.2; omega)
      exact ⟨u, rfl, own_low ho hlow, hbX.trans ((by rw [hg]; exact hbw : Below w1.heap.size w1 w5).mono hbX.size)⟩
end Go.Proofs.Ytacigmnnekphmaa.schema
/- Contract of the law file's great of layer 13. No condition. -/
namespace Go.Proofs.Ytacigmnnekphmaa.schema
open Go.RowKit
open Go.Proofs.Ytacigmnnekphmaa.field (Gives newB)
set_option linter.unusedVariables false

def big (p : Form) : Bool := decide (40 < p.2.length)
def greatB (P : List Form) : Bool := (P.take 41).any big || decide (40 < P.length)
theorem greatB_no {P : List Form} (h : greatB P = false) : P.length ≤ 40 ∧ ∀ p ∈ P, p.2.length ≤ 40 := by
  unfold greatB at h
  rw [Bool.or_eq_false_iff] at h
  have h1 : P.length ≤ 40 := by have := h.2; simp at this; omega
  refine ⟨h1, fun p hp => ?_⟩
  have h2 := h.1
  rw [List.take_of_length_le (by omega), List.any_eq_false] at h2
  have := h2 p hp
  unfold big at this
  simp at this
  omega
theorem great_any (v : Int) (a : Option Addr) (cap : Nat) (F : List Fm) (w : World) (h : FmL w a F) (hF : F.length ≤ maxLen) : Calls Try.prog 6 #[.agg #[.int .i64 v, .slice a F.length cap]] w (Gives (.bool (greatB (forms F))) w) := by
  have hml : (F.length : Int) ≤ 9223372036854775807 := by unfold maxLen at hF; omega
  have HX := hid (boxS v a F cap w)
  have HF := hid (h.below (newB w (.cells #[.int .i64 v, .slice a F.length cap] 24)))
  have HL := hid (forms_length F)
  obtain ⟨r, hr⟩ : ∃ r : Bool, Hid (greatB (forms F) = r) := ⟨_, hid rfl⟩
  rw [hr.out]
  unfold Gives
  clear h hF
  go_enter Try.func6, Try.ntmps6
  go_wp2
  generalize (w.alloc (.cells #[.int .i64 v, .slice a F.length cap] 24)) = W0 at *
  go_loopw [3] (fun n wr => ∃ k : Nat, k ≤ F.length ∧ k ≤ 41 ∧ n = .int .i64 (k : Int) ∧ W0 = wr ∧ Hid (((forms F).take k).any big = false)) (fun n _ => 41 - (intOf n).toNat)
  case atStart => exact ⟨0, Nat.zero_le _, Nat.zero_le _, rfl, rfl, hid (by simp)⟩
  case round =>
    obtain ⟨k, hk, hk2, rfl, rfl, hno⟩ := hrel
    obtain ⟨z0, z1, hbo⟩ := HX.out _ (Below.refl _ _)
    have HBO := hid hbo
    clear hbo
    by_cases h1 : k < F.length
    · by_cases h2 : k < 41
      · obtain ⟨b, off, p, rfl, hbl, hp, c0, c1, _, hfl⟩ := form_at HF.out (Below.refl _ _) h1
        have i1 : (k : Int) < F.length := by omega
        have i2 : (k : Int) < 41 := by omega
        have hpl : (p.fL.length : Int) ≤ 9223372036854775807 := by unfold maxLen at hfl; omega
        have hstep : ((forms F).take (k + 1)).any big = (((forms F).take k).any big || big p.p) := by
          rw [take_succ_at (forms_at hp)]; simp
        rw [hno.out, Bool.false_or] at hstep
        have HST := hid hstep
        have HBG : Hid (big p.p = true → greatB (forms F) = true) := hid fun hb => by
          unfold greatB
          rw [show ((forms F).take 41).any big = true from ?_, Bool.true_or]
          rw [List.any_eq_true]
          exact ⟨p.p, List.mem_of_getElem? (i := k) (by rw [List.getElem?_take, if_pos h2]; exact forms_at hp), hb⟩
        clear hstep hp c0
        by_cases h3 : 40 < p.fL.length
        · obtain rfl : true = r := by rw [← hr.out]; exact (HBG.out (by unfold big; exact decide_eq_true h3)).symm
          have hd : decide ((p.fL.length : Int) > 40) = true := decide_eq_true (by omega)
          go_wp2
          go_ret
          exact ⟨rfl, HBO.out⟩
        · have HNO := hid (show big p.p = false by unfold big; exact decide_eq_false h3)
          have hd : decide ((p.fL.length : Int) > 40) = false := decide_eq_false (by omega)
          clear h3
          go_wp2
          exact ⟨⟨k + 1, by omega, by omega, by go_num, trivial, hid (by rw [HST.out]; exact HNO.out)⟩, by simp [intOf]; omega⟩
      · obtain rfl : k = 41 := by omega
        obtain rfl : true = r := by rw [← hr.out]; unfold greatB; rw [show decide (40 < (forms F).length) = true from decide_eq_true (by rw [forms_length]; omega), Bool.or_true]
        have hd : decide ((F.length : Int) > 40) = true := decide_eq_true (by omega)
        have i1 : (41 : Int) < F.length := by omega
        go_wp2
        go_ret
        exact ⟨rfl, HBO.out⟩
    · obtain rfl : k = F.length := by omega
      obtain rfl : decide ((F.length : Int) > 40) = r := by
        rw [← hr.out]
        unfold greatB
        have := hno.out
        rw [List.take_of_length_le (by rw [forms_length]; exact Nat.le_refl _)] at this
        rw [List.take_of_length_le (by rw [forms_length]; exact hk2), this, Bool.false_or, forms_length]
        exact decide_eq_decide.2 (by omega)
      go_wp2
      go_ret
      exact ⟨rfl, HBO.out⟩
end Go.Proofs.Ytacigmnnekphmaa.schema
/- Contract of the law file's awake of layer 13. No condition. -/
namespace Go.Proofs.Ytacigmnnekphmaa.schema
open Go.RowKit Go.Proofs.Ytacigmnnekphmaa.pen
set_option linter.unusedVariables false

def fd1 : field.Fd := ⟨1, 2, 0, 0, 0⟩
theorem fd1_right : fd1.Right := by decide
theorem fd1_size : size [fd1] = 1 := by decide
theorem fine1 : Fine (7, [fd1]) := by decide
theorem right1 : Right 2 [(7, [fd1])] := by decide
theorem right0 : ¬ Right 0 [] := by decide
theorem bytes1 : schemaB 2 [(7, [fd1])] = [2, 1, 7, 1, 1, 2] := by
  simp only [schemaB, formsB, formB, fieldsB, fieldB, fd1, List.map_cons, List.map_nil, List.flatten_cons, List.flatten_nil, List.length_cons, List.length_nil]
  rw [show (2 : Int).toNat = 2 from rfl, show (7 : Int).toNat = 7 from rfl, show (1 : Int).toNat = 1 from rfl]
  rw [vb_small (by omega), vb_small (by omega), vb_small (by omega)]
  rfl
set_option maxRecDepth 20000 in
theorem awake_any (w : World) : Calls Try.prog 7 #[] w (Yes w) := by
  obtain ⟨q, hq⟩ : ∃ q : Fm, Hid (q = ⟨7, some ⟨w.heap.size, 0, none⟩, 1, [fd1]⟩) := ⟨_, hid rfl⟩
  have hforms : forms [q] = [(7, [fd1])] := by rw [hq.out]; rfl
  have b1 := field.newB w (.cells #[.int .i64 1, .int .i64 2, .int .i64 0, .int .i64 0, .int .i64 0] 50)
  have b2 := field.newB (w.alloc (.cells #[.int .i64 1, .int .i64 2, .int .i64 0, .int .i64 0, .int .i64 0] 50)) (.cells #[.int .i64 7, .slice (some ⟨w.heap.size, 0, none⟩) 1 1] 29)
  have b3 := field.newB ((w.alloc (.cells #[.int .i64 1, .int .i64 2, .int .i64 0, .int .i64 0, .int .i64 0] 50)).alloc (.cells #[.int .i64 7, .slice (some ⟨w.heap.size, 0, none⟩) 1 1] 29)) (.cells #[.int .i64 2, .slice (some ⟨w.heap.size + 1, 0, none⟩) 1 1] 24)
  have hBF := ((Block.new w 50 [.int .i64 1, .int .i64 2, .int .i64 0, .int .i64 0, .int .i64 0]).later b2).later b3
  have hBM := (Block.new (w.alloc (.cells #[.int .i64 1, .int .i64 2, .int .i64 0, .int .i64 0, .int .i64 0] 50)) 29 [.int .i64 7, .slice (some ⟨w.heap.size, 0, none⟩) 1 1]).later b3
  have hBS := Block.new ((w.alloc (.cells #[.int .i64 1, .int .i64 2, .int .i64 0, .int .i64 0, .int .i64 0] 50)).alloc (.cells #[.int .i64 7, .slice (some ⟨w.heap.size, 0, none⟩) 1 1] 29)) 24 [.int .i64 2, .slice (some ⟨w.heap.size + 1, 0, none⟩) 1 1]
  have hb03 := b1.trans ((b2.mono b1.size).trans (b3.mono (Nat.le_trans b1.size b2.size)))
  simp only [World.size_alloc] at hBM hBS
  have hfds : field.Fds (((w.alloc (.cells #[.int .i64 1, .int .i64 2, .int .i64 0, .int .i64 0, .int .i64 0] 50)).alloc (.cells #[.int .i64 7, .slice (some ⟨w.heap.size, 0, none⟩) 1 1] 29)).alloc (.cells #[.int .i64 2, .slice (some ⟨w.heap.size + 1, 0, none⟩) 1 1] 24)) (some ⟨w.heap.size, 0, none⟩) [fd1] := by
    refine .inr ⟨w.heap.size, 0, rfl, hBF.lt, fun i p hp => ?_⟩
    cases i with
    | zero => simp at hp; subst hp; exact ⟨hBF.cell 0, hBF.cell 1, hBF.cell 2, hBF.cell 3, hBF.cell 4⟩
    | succ i => simp at hp
  have hfm : FmL (((w.alloc (.cells #[.int .i64 1, .int .i64 2, .int .i64 0, .int .i64 0, .int .i64 0] 50)).alloc (.cells #[.int .i64 7, .slice (some ⟨w.heap.size, 0, none⟩) 1 1] 29)).alloc (.cells #[.int .i64 2, .slice (some ⟨w.heap.size + 1, 0, none⟩) 1 1] 24)) (some ⟨w.heap.size + 1, 0, none⟩) [q] := by
    refine ⟨.inr ⟨w.heap.size + 1, 0, rfl, hBM.lt, fun i p hp => ?_⟩, fun p hp => ?_⟩
    · cases i with
      | zero => simp at hp; subst hp; rw [hq.out]; exact ⟨hBM.cell 0, hBM.cell 1⟩
      | succ i => simp at hp
    · rw [List.mem_singleton.1 hp, hq.out]; exact ⟨hfds, by simp, by unfold maxLen; simp⟩
  have HB := hid (fun w' hb => hb03.trans ((hb : Below (((w.alloc (.cells #[.int .i64 1, .int .i64 2, .int .i64 0, .int .i64 0, .int .i64 0] 50)).alloc (.cells #[.int .i64 7, .slice (some ⟨w.heap.size, 0, none⟩) 1 1] 29)).alloc (.cells #[.int .i64 2, .slice (some ⟨w.heap.size + 1, 0, none⟩) 1 1] 24)).heap.size _ w').mono hb03.size))
  obtain ⟨W3, hW3⟩ : ∃ x, (((w.alloc (.cells #[.int .i64 1, .int .i64 2, .int .i64 0, .int .i64 0, .int .i64 0] 50)).alloc (.cells #[.int .i64 7, .slice (some ⟨w.heap.size, 0, none⟩) 1 1] 29)).alloc (.cells #[.int .i64 2, .slice (some ⟨w.heap.size + 1, 0, none⟩) 1 1] 24)) = x := ⟨_, rfl⟩
  rw [hW3] at HB hfm hBS hBM hfds
  have HW3 := hid hW3
  have HFM := hid hfm
  have cP := print_yes 2 (some ⟨w.heap.size + 1, 0, none⟩) 1 [q] W3 hfm (by rw [hforms]; exact right1)
  rw [hforms, bytes1] at cP
  have cR := fun w' (hb : Below W3.heap.size W3 w') => right_any 2 (some ⟨w.heap.size + 1, 0, none⟩) 1 [q] w' (hfm.below hb) (by unfold maxLen; simp)
  rw [hforms, decide_eq_true right1] at cR
  have cZ := fun w' => right_any 0 none 0 [] w' ⟨.inl rfl, by simp⟩ (by unfold maxLen; simp)
  rw [show forms [] = [] from rfl, decide_eq_false right0] at cZ
  have cL := fun w' (hb : Below W3.heap.size W3 w') => long_any 7 (some ⟨w.heap.size, 0, none⟩) 1 [fd1] w' (hfds.below hb) (by simp)
  rw [fd1_size] at cL
  have HS : Hid (strOf [2, 1, 7, 1, 1, 2] = ⟨#[2, 1, 7, 1, 1, 2]⟩) := by show _ = _; decide
  have HBS := hid hBS
  have HBM := hid hBM
  simp only [List.length_cons, List.length_nil, Nat.zero_add] at cP cR cZ cL
  clear hq hforms hfm hBF hBM hBS hb03 hfds b1 b2 b3 hW3
  rw [← HW3.out] at cP
  go_enter Try.func7, Try.ntmps7
  go_wp2_with (first
    | (go_at_call 21; ((with_reducible refine cP.mono ?_); clear cP; rintro e w4 ⟨u, rfl, ho, hb4⟩; rw [HW3.out] at hb4; obtain ⟨a4, c4, rfl, _⟩ := ownsRow_slice ho; have hcv := Reads.str (P := Try.prog) (show Reads .u8 w4 a4 6 [2, 1, 7, 1, 1, 2] from Reads.own ho) 39 5 Try.underlying39 Try.underlying5 c4 9 Try.underlying9; rw [HS.out] at hcv; have hB4 := HBS.out.later hb4; have y0 := hB4.cell 0; have y1 := hB4.cell 1; clear ho))
    | (go_at_call 17; ((with_reducible refine (cR _ hb4).mono ?_); rintro e w5 ⟨rfl, hb5⟩; have hb45 := hb4.trans (hb5.mono hb4.size); have hB5 := HBS.out.later hb45; have y0 := hB5.cell 0; have y1 := hB5.cell 1))
    | (go_at_call 17; ((with_reducible refine (cZ _).mono ?_); rintro e w6 ⟨rfl, hb6⟩; have hb46 := hb45.trans (hb6.mono hb45.size); have hB6 := HBS.out.later hb46; have hM6 := HBM.out.later hb46; have y0 := hB6.cell 0; have y1 := hB6.cell 1; have x0 := hM6.cell 0; have x1 := hM6.cell 1))
    | (go_at_call 13; ((with_reducible refine (cL _ hb46).mono ?_); rintro e w7 ⟨rfl, hb7⟩; have hb47 := hb46.trans (hb7.mono hb46.size))))
  go_ret
  exact ⟨rfl, HB.out _ hb47⟩
end Go.Proofs.Ytacigmnnekphmaa.schema
/- An eye in the memory, and the contracts of its calls that read no varint: Bad, Left, End, next, number, Byte, Word. No condition. -/
namespace Go.Proofs.Ytacigmnnekphmaa.pen
open Go.RowKit Go.Proofs.Ytacigmnnekphmaa.texts
set_option linter.unusedVariables false

/-- where a part of a slice from k on lies -/
def shift (a : Option Addr) (k cap : Nat) : Option Addr := if cap = k then a else a.map (·.add k)
theorem cut_from (W : World) (a : Option Addr) (len cap k : Nat) (h : k ≤ len) : (Instr.slice 39 (.slice a len cap) (some (.int .i64 (k : Int))) none none).run Try.prog W = .ok (.slice (shift a k cap) (len - k) (cap - k)) W := by
  rw [run_slice_l W 39 a len cap (by kernel_rfl) .i64 k (by omega) (by omega)]
  rw [show (sizeOf (Try.prog.elem 39)).run Try.prog W = .ok 1 W by kernel_rfl]
  simp [Result.andThen, sliced, shift]
theorem cut_to (W : World) (a : Option Addr) (len cap k : Nat) (h : k ≤ cap) : (Instr.slice 39 (.slice a len cap) none (some (.int .i64 (k : Int))) none).run Try.prog W = .ok (.slice (shift a 0 cap) k cap) W := by
  rw [run_slice_h W 39 a len cap (by kernel_rfl) .i64 k (by omega) (by omega)]
  rw [show (sizeOf (Try.prog.elem 39)).run Try.prog W = .ok 1 W by kernel_rfl]
  simp [Result.andThen, sliced, shift]
theorem cut_full (W : World) (a : Option Addr) (len cap k : Nat) (h : k ≤ cap) : (Instr.slice 39 (.slice a len cap) none (some (.int .i64 (k : Int))) (some (.int .i64 (k : Int)))).run Try.prog W = .ok (.slice (shift a 0 k) k k) W := by
  rw [run_slice_hm W 39 a len cap (by kernel_rfl) .i64 .i64 k k (by omega) (by omega) (by omega)]
  rw [show (sizeOf (Try.prog.elem 39)).run Try.prog W = .ok 1 W by kernel_rfl]
  simp [Result.andThen, sliced, shift]
theorem shift_block {a : Option Addr} {k cap b : Nat} (h : ∀ x, a = some x → x.block ≠ b) : ∀ x, shift a k cap = some x → x.block ≠ b := by
  intro x hx
  unfold shift at hx
  split at hx
  · exact h x hx
  · cases a with
    | none => cases hx
    | some y =>
      cases hx
      have := h y rfl
      unfold Addr.add
      split <;> exact this
theorem shift_low {a : Option Addr} {k cap b n m : Nat} (h : 0 < n → ∀ x, a = some x → x.block < b) (hm : m ≤ n) : 0 < m → ∀ x, shift a k cap = some x → x.block < b := by
  intro h0 x hx
  have h := h (Nat.lt_of_lt_of_le h0 hm)
  unfold shift at hx
  split at hx
  · exact h x hx
  · cases a with
    | none => cases hx
    | some y =>
      cases hx
      have := h y rfl
      unfold Addr.add
      split <;> exact this
theorem reads_shift {w : World} {a : Option Addr} {len cap k : Nat} {xs : List Nat} (h : Reads .u8 w a len xs) (hk : k ≤ len) (hc : len ≤ cap) : Reads .u8 w (shift a k cap) (len - k) (xs.drop k) := by
  refine ⟨by rw [List.length_drop, h.1], ?_⟩
  by_cases h0 : len - k = 0
  · exact .inl h0
  · obtain ⟨b, off, rfl, hb, hcell⟩ := h.at (i := 0) (by omega)
    refine .inr ⟨b, off + k, ?_, hb, fun i hi => ?_⟩
    · rw [shift, if_neg (by omega), Option.map_some, Addr.add_lit]
    · have := hcell (k + i) (by omega)
      rw [Nat.add_assoc, this, List.getD_eq_getElem?_getD, List.getD_eq_getElem?_getD, List.getElem?_drop]
theorem reads_take {w : World} {a : Option Addr} {len cap k : Nat} {xs : List Nat} (h : Reads .u8 w a len xs) (hk : k ≤ len) : Reads .u8 w (shift a 0 cap) k (xs.take k) := by
  refine ⟨by rw [List.length_take, h.1]; omega, ?_⟩
  by_cases h0 : k = 0
  · exact .inl h0
  · obtain ⟨b, off, rfl, hb, hcell⟩ := h.at (i := 0) (by omega)
    refine .inr ⟨b, off, ?_, hb, fun i hi => ?_⟩
    · unfold shift; split <;> rfl
    · have := hcell i (by omega)
      rw [this, List.getD_eq_getElem?_getD, List.getD_eq_getElem?_getD, List.getElem?_take, if_pos hi]
theorem reads_but {w w' : World} {a : Option Addr} {len b : Nat} {xs : List Nat} (h : Reads .u8 w a len xs) (hb : But w.heap.size b w w') (ha : ∀ x, a = some x → x.block ≠ b) : Reads .u8 w' a len xs := by
  by_cases h0 : len = 0
  · exact ⟨h.1, .inl h0⟩
  · obtain ⟨g, off, rfl, hg, _⟩ := h.at (i := 0) (by omega)
    exact Reads.but h hb hg (ha _ rfl)

theorem reads_low {w w' : World} {a : Option Addr} {len b : Nat} {xs : List Nat} (h : Reads .u8 w a len xs) (hb : But w.heap.size b w w') (ha : 0 < len → ∀ x, a = some x → x.block < b) : Reads .u8 w' a len xs := by
  by_cases h0 : len = 0
  · exact ⟨h.1, .inl h0⟩
  · exact reads_but h hb fun x hx => Nat.ne_of_lt (ha (by omega) x hx)

/-- the eye at block b, a struct of type t -/
def EyeAt (t : TypeId) (b : Nat) (s : Sight) (w : World) : Prop :=
  (∀ c ∈ s.1, c < 256) ∧ s.1.length ≤ 140737488355328 ∧ ∃ a cap, Block w b t [.slice a s.1.length cap, .int .i64 (s.2 : Int)] ∧ s.1.length ≤ cap ∧ Reads .u8 w a s.1.length s.1 ∧ (0 < s.1.length → ∀ x, a = some x → x.block < b)
theorem EyeAt.lt {t : TypeId} {b : Nat} {s : Sight} {w : World} (h : EyeAt t b s w) : b < w.heap.size := by
  obtain ⟨_, _, a, c, hb, _⟩ := h; exact hb.lt
theorem EyeAt.later {t : TypeId} {b : Nat} {s : Sight} {w w' : World} (h : EyeAt t b s w) (hb : Below w.heap.size w w') : EyeAt t b s w' := by
  obtain ⟨h1, h2, a, c, h3, h4, h5, h6⟩ := h
  exact ⟨h1, h2, a, c, h3.later hb, h4, h5.below hb, h6⟩
theorem EyeAt.fail {t : TypeId} {b : Nat} {s : Sight} {w : World} (h : EyeAt t b s w) (z : Nat) : EyeAt t b (s.1, z) (w.setCell ⟨b, 1, none⟩ (.int .i64 (z : Int))) ∧ But w.heap.size b w (w.setCell ⟨b, 1, none⟩ (.int .i64 (z : Int))) := by
  obtain ⟨h1, h2, a, c, h3, h4, h5, h6⟩ := h
  have hbut := (But.refl w.heap.size b w).setCell 1 (.int .i64 (z : Int))
  exact ⟨⟨h1, h2, a, c, h3.setCell 1 _, h4, reads_low h5 hbut h6, h6⟩, hbut⟩

/-- how a call on the eye ends: it returns v, the eye stands at s -/
def Saw (t : TypeId) (b : Nat) (v : Value) (s : Sight) (w : World) (e : Ending) (w' : World) : Prop := e = .returned v ∧ EyeAt t b s w' ∧ But w.heap.size b w w'

theorem bad_any (b : Nat) (s : Sight) (w : World) (h : EyeAt 89 b s w) : Calls Try.prog 62 #[.pointer (some ⟨b, 0, none⟩)] w (Quiet (.int .i64 (s.2 : Int)) w) := by
  obtain ⟨_, _, a, c, hb, _, _, _⟩ := h
  have c1 : w.cell? ⟨b, 1, none⟩ = some (.int .i64 (s.2 : Int)) := by rw [hb.cell]; rfl
  clear hb
  go_enter Try.func62, Try.ntmps62
  go_wp2
  go_ret
  exact ⟨rfl, 0, rfl⟩
theorem bad_nil (w : World) : Calls Try.prog 62 #[.pointer none] w (Quiet (.int .i64 1) w) := by
  go_enter Try.func62, Try.ntmps62
  go_wp2
  go_ret
  exact ⟨rfl, 0, rfl⟩
theorem left_any (b : Nat) (s : Sight) (w : World) (h : EyeAt 89 b s w) : Calls Try.prog 63 #[.pointer (some ⟨b, 0, none⟩)] w (Quiet (.int .i64 (s.1.length : Int)) w) := by
  obtain ⟨_, _, a, c, hb, _, _, _⟩ := h
  have c1 : w.cell? ⟨b, 0, none⟩ = some (.slice a s.1.length c) := by rw [hb.cell]; rfl
  clear hb
  go_enter Try.func63, Try.ntmps63
  go_wp2
  go_ret
  exact ⟨rfl, 0, rfl⟩
theorem left_nil (w : World) : Calls Try.prog 63 #[.pointer none] w (Quiet (.int .i64 0) w) := by
  go_enter Try.func63, Try.ntmps63
  go_wp2
  go_ret
  exact ⟨rfl, 0, rfl⟩
theorem end_nil (w : World) : Calls Try.prog 46 #[.pointer none] w (Quiet (.int .i64 1) w) := by
  have c1 : ∀ n, Calls Try.prog 62 #[.pointer none] (w.drewN n) (Quiet (.int .i64 1) (w.drewN n)) := fun n => bad_nil _
  go_enter Try.func46, Try.ntmps46
  go_wp2_with (go_at_call 62; (with_reducible refine (bad_nil _).mono ?_); rintro e w' ⟨rfl, m, rfl⟩)
  go_ret
  exact ⟨rfl, _, by repeat (first | rfl | rw [World.drewN_drewN])⟩
theorem end_any (b : Nat) (s : Sight) (w : World) (h : EyeAt 89 b s w) : Calls Try.prog 46 #[.pointer (some ⟨b, 0, none⟩)] w (Quiet (.int .i64 (eEnd s : Int)) w) := by
  have HE := hid h
  have c1 : ∀ n, Calls Try.prog 62 #[.pointer (some ⟨b, 0, none⟩)] (w.drewN n) (Quiet (.int .i64 (s.2 : Int)) (w.drewN n)) := fun n => bad_any b s _ HE.out
  have c2 : ∀ n, Calls Try.prog 63 #[.pointer (some ⟨b, 0, none⟩)] (w.drewN n) (Quiet (.int .i64 (s.1.length : Int)) (w.drewN n)) := fun n => left_any b s _ HE.out
  have c0 := bad_any b s w h
  obtain ⟨E, hE⟩ : ∃ E, Hid (eEnd s = E) := ⟨_, rfl⟩
  rw [hE.out]
  have hlen := h.2.1
  clear h
  by_cases hs : s.2 = 0
  · have hi : ((s.2 : Int) == 0) = true := by rw [hs]; rfl
    by_cases hl : 0 < s.1.length
    · have hj : (0 : Int) < s.1.length := by omega
      have HV : Hid (E = 6) := by show _ = _; rw [← hE.out, eEnd, if_pos ⟨hs, hl⟩]
      clear hs
      go_enter Try.func46, Try.ntmps46
      go_wp2_with (first
        | (go_at_call 62; (with_reducible refine c0.mono ?_); rintro e w' ⟨rfl, m, rfl⟩)
        | (go_at_call 62; (with_reducible refine (c1 _).mono ?_); rintro e w' ⟨rfl, m1, rfl⟩)
        | (go_at_call 63; (with_reducible refine (c2 _).mono ?_); rintro e w' ⟨rfl, m2, rfl⟩))
      go_ret
      rw [HV.out]
      exact ⟨rfl, _, by repeat (first | rfl | rw [World.drewN_drewN])⟩
    · have hj : ¬ (0 : Int) < s.1.length := by omega
      have HV : Hid (E = s.2) := by show _ = _; rw [← hE.out, eEnd, if_neg (by omega)]
      clear hs
      go_enter Try.func46, Try.ntmps46
      go_wp2_with (first
        | (go_at_call 62; (with_reducible refine c0.mono ?_); rintro e w' ⟨rfl, m, rfl⟩)
        | (go_at_call 62; (with_reducible refine (c1 _).mono ?_); rintro e w' ⟨rfl, m1, rfl⟩)
        | (go_at_call 63; (with_reducible refine (c2 _).mono ?_); rintro e w' ⟨rfl, m2, rfl⟩))
      go_ret
      rw [HV.out]
      exact ⟨rfl, _, by repeat (first | rfl | rw [World.drewN_drewN])⟩
  · have hi : ((s.2 : Int) == 0) = false := by rw [beq_eq_false_iff_ne]; omega
    have HV : Hid (E = s.2) := by show _ = _; rw [← hE.out, eEnd, if_neg (by omega)]
    clear hs
    go_enter Try.func46, Try.ntmps46
    go_wp2_with (first
      | (go_at_call 62; (with_reducible refine c0.mono ?_); rintro e w' ⟨rfl, m, rfl⟩)
      | (go_at_call 62; (with_reducible refine (c1 _).mono ?_); rintro e w' ⟨rfl, m1, rfl⟩))
    go_ret
    rw [HV.out]
    exact ⟨rfl, _, by repeat (first | rfl | rw [World.drewN_drewN])⟩
end Go.Proofs.Ytacigmnnekphmaa.pen
