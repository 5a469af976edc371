/- SchemaBytes returns true for every schema and all bytes, and each argument reads afterwards as it read before. No condition. -/
import Derived.Test.YtacigmnnekphmaaCmD
import Derived.Test.YtacigmnnekphmaaCmC
import Derived.Maps.AppendAt
import Derived.Test.YtacigmnnekphmaaCmB
import Derived.Test.YtacigmnnekphmaaCmF
import Derived.Test.YtacigmnnekphmaaCmH
import Derived.Conc.WalkWords
import Derived.Test.YtacigmnnekphmaaCmJ
import Derived.Test.YtacigmnnekphmaaCmA
/- Contracts of the reference's Count and Num, which write. No condition. -/
namespace Go.Proofs.Ytacigmnnekphmaa.pen
open Go.RowKit Go.Proofs.Ytacigmnnekphmaa.texts
set_option linter.unusedVariables false

set_option maxRecDepth 8000 in
theorem refCount_any (x : Nat) (hx : x < 18446744073709551616) (w : World) : Calls Try.prog 41 #[.int .u64 (x : Int)] w (Copies (vb x) w) := by
  obtain ⟨i0, hi, hz0, hz1, hz2⟩ := info_parts info5
  have hlen := vb_ten x hx
  obtain ⟨X, hX⟩ : ∃ X, Hid (vb x = X) := ⟨_, rfl⟩
  rw [hX.out] at hlen ⊢
  have HX : Hid (([] : List Nat) ++ vb x = X) := hX.out
  go_enter Try.func41, Try.ntmps41
  go_wp2
  go_loopw [0, 3] (fun u v wr => ∃ (y : Nat) (ys : List Nat), u = .int .u64 (y : Int) ∧ y < 18446744073709551616 ∧ wr.ownsRow w.heap.size 5 1 v ys.length (u8v ys) ∧ Below w.heap.size w wr ∧ Hid (ys ++ vb y = X))
    (fun u v _ => (intOf u).toNat)
  case atStart => exact ⟨x, [], rfl, hx, World.ownsRow_nil _ _ _ _, Below.refl _ _, HX⟩
  case round =>
    obtain ⟨y, ys, rfl, hy, ho, hb, he⟩ := hrel
    obtain ⟨a, c, rfl, hac⟩ := ownsRow_slice ho
    have hl : ys.length + (vb y).length = X.length := by rw [← he.out, List.length_append]
    have hpos := vb_pos y
    have HO := hid ho
    have HB := hid hb
    have hsz := hb.size
    clear ho hb
    by_cases h128 : y < 128
    · have hq : ¬ ((127 : Int) < y) := by omega
      have hE : Hid (ys ++ [y] = X) := by show _ = _; rw [← he.out, vb_small h128]
      have hys : ys.length + 1 ≤ 10 := by omega
      clear hl hpos he
      go_wp2_with (at_builtin; refine wpList_append_from rfl _ _ 39 rfl w.heap.size 5 i0 (.int .u8 0) 1 Try.underlying39 hi hz0 hz1 hz2 rfl _ ys.length (u8v ys) rfl (ownsRow_heap HO.out (fun g hg => Below.heap_alloc wr _ g (World.ownsRow.lt HO.out g hg).2)) (some ⟨wr.heap.size, 0, none⟩) 1 1 [.int .u8 (y : Int)] rfl rfl (.inr ⟨_, rfl, one_new _ _ _⟩) (one_cell rfl) (by unfold maxLen; omega) (by omega) (by simp; omega) ?_)
      intro v' w2 ho2 hg2
      have hb2 : Below w.heap.size w w2 := (HB.out.alloc hsz _).grown hg2 (by simp; omega) (fun k hk => (World.ownsRow.lt HO.out k hk).1)
      have ho3 : w2.ownsRow w.heap.size 5 1 v' X.length (u8v X) := by rw [← hE.out, u8v_append, List.length_append]; exact ho2
      have HO2 := hid ho3
      have HB2 := hid hb2
      clear ho2 hg2 hb2 ho3 HO
      go_wp2
      go_ret
      exact ⟨_, rfl, HO2.out, HB2.out⟩
    · have hq : (127 : Int) < y := by omega
      have hE : Hid ((ys ++ [128 + y % 128]) ++ vb (y / 128) = X) := by show _ = _; rw [← he.out, vb_big h128]; simp
      have hys : ys.length + 1 ≤ 10 := by omega
      clear hl hpos he
      go_wp2_with (at_builtin; refine wpList_append_from rfl _ _ 39 rfl w.heap.size 5 i0 (.int .u8 0) 1 Try.underlying39 hi hz0 hz1 hz2 rfl _ ys.length (u8v ys) rfl (ownsRow_heap HO.out (fun g hg => Below.heap_alloc wr _ g (World.ownsRow.lt HO.out g hg).2)) (some ⟨wr.heap.size, 0, none⟩) 1 1 [_] rfl rfl (.inr ⟨_, rfl, one_new _ _ _⟩) (one_cell (by rfl)) (by unfold maxLen; omega) (by omega) (by simp; omega) ?_)
      intro v' w2 ho2 hg2
      have hb2 : Below w.heap.size w w2 := (HB.out.alloc hsz _).grown hg2 (by simp; omega) (fun k hk => (World.ownsRow.lt HO.out k hk).1)
      have ho3 : w2.ownsRow w.heap.size 5 1 v' (ys ++ [128 + y % 128]).length (u8v (ys ++ [128 + y % 128])) := by
        rw [u8v_append, List.length_append, show u8v [128 + y % 128] = [.int .u8 (128 + (y : Int) % 128)] from congrArg (fun z => [Value.int .u8 z]) (by omega)]; exact ho2
      have HO2 := hid ho3
      have HB2 := hid hb2
      clear ho2 hg2 hb2 ho3 HO
      go_wp2
      exact ⟨⟨y / 128, ys ++ [128 + y % 128], by go_num, by omega, HO2.out, HB2.out, hE⟩, by simp [intOf]; omega⟩

theorem refNum_any (n : Int) (h1 : -9223372036854775808 ≤ n) (h2 : n ≤ 9223372036854775807) (w : World) : Calls Try.prog 59 #[.int .i64 n] w (Copies (vb (zig n)) w) := by
  have c1 := refCount_any (zig n) (zig_lt n h1 h2) w
  obtain ⟨X, hX⟩ : ∃ X, Hid (vb (zig n) = X) := ⟨_, rfl⟩
  rw [hX.out] at c1 ⊢
  by_cases h0 : n < 0
  · have hz : (zig n : Int) = 2 * (-n - 1) + 1 := by unfold zig; rw [if_pos h0]; omega
    have c2 : ∀ z : Int, z = 2 * (-n - 1) + 1 → Calls Try.prog 41 #[.int .u64 z] w (Copies X w) := by
      rintro z rfl; rw [← hz]; exact c1
    clear hz c1 hX
    go_enter Try.func59, Try.ntmps59
    go_wp2_with (go_at_call 41; (with_reducible refine (c2 _ (by omega)).mono ?_); clear c2; rintro e w1 ⟨v, rfl, ho, hb⟩)
    go_ret
    exact ⟨_, rfl, ho, hb⟩
  · have hz : (zig n : Int) = 2 * n := by unfold zig; rw [if_neg h0]; omega
    have c2 : ∀ z : Int, z = 2 * n → Calls Try.prog 41 #[.int .u64 z] w (Copies X w) := by
      rintro z rfl; rw [← hz]; exact c1
    clear hz c1 hX
    go_enter Try.func59, Try.ntmps59
    go_wp2_with (go_at_call 41; (with_reducible refine (c2 _ (by omega)).mono ?_); clear c2; rintro e w1 ⟨v, rfl, ho, hb⟩)
    go_ret
    exact ⟨_, rfl, ho, hb⟩
/-- a row that was just built -/
theorem ownsRow_built (w : World) (xs : List Nat) (m : Nat) (hm : xs.length = m) (hl : m ≤ 140737488355328) (vals : Array Value) (hv : vals = (u8v xs).toArray) :
    (w.alloc (.cells vals 5)).ownsRow w.heap.size 5 1 (.slice (some ⟨w.heap.size, 0, none⟩) m m) xs.length (u8v xs) := by
  subst hm hv
  exact ⟨by rw [u8v_length]; omega, .inr ⟨w.heap.size, xs.length, (u8v xs).toArray, rfl, Nat.le_refl _, heap_alloc_last w _, Nat.le_refl _, by unfold maxLen; omega, by simp [u8v_length], by rw [List.take_of_length_le (by simp [u8v_length])]⟩⟩
end Go.Proofs.Ytacigmnnekphmaa.pen
/- One append of bytes onto a row of the call's own, run by itself. No condition. -/
namespace Go.Proofs.Ytacigmnnekphmaa
open Go Go.RowKit
set_option linter.unusedVariables false

theorem exec_append_u8 {o : Oper} {act : Act} {w : World} {x y : Operand} {v : Value} {base n m c : Nat} {ap : Option Addr} {ys news : List Nat}
    (ho : o.op = .call { callee := .builtin .append, args := #[x, y], argTypes := #[39, 39] }) (hx : act.eval x = v) (hy : act.eval y = .slice ap m c)
    (hown : w.ownsRow base 5 1 v n (ys.map fun x : Nat => Value.int .u8 (x : Int))) (hr : Reads .u8 w ap m news) (hbase : base ≤ w.heap.size) (hlen : n + m ≤ 140737488355328) :
    ∃ z w', (execOp act.eval o).run Try.prog w = .ok (.value z) w' ∧ w'.ownsRow base 5 1 z (n + m) ((ys ++ news).map fun x : Nat => Value.int .u8 (x : Int)) ∧ w.grownBy w' v.ownBlock ∧ (z.ownBlock = v.ownBlock ∨ z.ownBlock = some w.heap.size) := by
  have hinfo : (Try.prog.info? 5).map (fun i => (i.zero, i.size, i.bytes)) = some (some (.int .u8 0), 1, 1) := by kernel_rfl
  obtain ⟨i0, hi, hz0, hz1, hz2⟩ := info_parts hinfo
  by_cases hm : m = 0
  · subst hm
    obtain rfl : news = [] := List.eq_nil_of_length_eq_zero hr.1
    obtain ⟨bp, cp, rfl, hcp⟩ := ownsRow_slice hown
    have hsrc : Src Try.prog i0.size 39 (.slice ap 0 c) 0 [] w := by
      cases ap with
      | none => exact Src.ofNil w Try.underlying39 c
      | some ad => exact Src.ofSlice w Try.underlying39 ad 0 c [] (by simp) (by simp) (by simp)
    have hrun := run_append_nothing w 39 39 o.type 5 i0 Try.underlying39 hi bp n cp hcp _ hsrc
    refine ⟨.slice bp n cp, w, ?_, by simpa using hown, grown_refl _ _, .inl rfl⟩
    unfold execOp
    simp [ho, resolve, invoke, builtin, hx, hy, hrun, Result.andThen]
  · obtain ⟨b, off, rfl, hb, hc⟩ := hr.at (i := 0) (by omega)
    obtain ⟨z, w', h1, h2, h3, _, h4⟩ := run_append_own_at w base 39 o.type 5 i0 (.int .u8 0) 1 1 Try.underlying39 hi hz0 hz1 hz2 rfl (by decide) v n _ hown ⟨b, off, none⟩ m c (news.map fun x : Nat => Value.int .u8 (x : Int)) (by simp [hr.1])
      (fun j u hj => by
        have hl : j < news.length := by have := (List.getElem?_eq_some_iff.1 hj).1; simpa using this
        rw [Addr.add_lit, hc j (by have := hr.1; omega)]
        rw [List.getElem?_map, List.getElem?_eq_getElem hl] at hj
        rw [← hj, List.getD_eq_getElem?_getD, List.getElem?_eq_getElem hl]; rfl)
      (fun u hu => by obtain ⟨x, _, rfl⟩ := List.mem_map.1 hu; rfl) (by unfold maxLen; omega) (by omega) hbase
    refine ⟨z, w', ?_, by rw [List.map_append]; exact h2, h3, h4⟩
    unfold execOp
    simp [ho, resolve, invoke, builtin, hx, hy, h1, Result.andThen]
end Go.Proofs.Ytacigmnnekphmaa
/- A row of bytes that a call gathers: appended to, by itself or in text order; numbers as digits. No condition but rows shorter than 2^46 bytes. -/
namespace Go.Proofs.Ytacigmnnekphmaa.schema
open Go.RowKit Go.Proofs.Ytacigmnnekphmaa.pen
set_option linter.unusedVariables false

/-- u is a row of the call's own that holds xs; below block B all is as in W0 -/
def RowS (B : Nat) (W0 : World) (xs : List Nat) (u : Value) (w : World) : Prop := w.ownsRow B 5 1 u xs.length (u8v xs) ∧ Below B W0 w ∧ B ≤ w.heap.size
theorem RowS.later {B : Nat} {W0 : World} {xs : List Nat} {u : Value} {w w' : World} (h : RowS B W0 xs u w) (hb : Below w.heap.size w w') : RowS B W0 xs u w' :=
  ⟨ownsRow_later h.1 hb, h.2.1.trans (hb.mono h.2.2), Nat.le_trans h.2.2 hb.size⟩
/-- what a call has copied, as such a row -/
theorem RowS.of {B : Nat} {W0 : World} {xs : List Nat} {u : Value} {w w' : World} (hb0 : Below B W0 w) (hB : B ≤ w.heap.size) (ho : w'.ownsRow w.heap.size 5 1 u xs.length (u8v xs)) (hb : Below w.heap.size w w') : RowS B W0 xs u w' := by
  refine ⟨⟨ho.1, ?_⟩, hb0.trans (hb.mono hB), Nat.le_trans hB hb.size⟩
  rcases ho.2 with h0 | ⟨g, cap, cur, hv, hg, hr⟩
  · exact .inl h0
  · exact .inr ⟨g, cap, cur, hv, Nat.le_trans hB hg, hr⟩
/-- a row of another call's, read -/
theorem own_reads {w : World} {B n : Nat} {u : Value} {ys : List Nat} (h : w.ownsRow B 5 1 u n (u8v ys)) : ∃ a c, u = .slice a n c ∧ Reads .u8 w a n ys := by
  obtain ⟨a, c, rfl, _⟩ := ownsRow_slice h
  exact ⟨a, c, rfl, Reads.own h⟩
/-- what is no row of bytes stays where a row of bytes grows -/
theorem grown_block {w w' : World} {B n : Nat} {u : Value} {xs : List Value} (ho : w.ownsRow B 5 1 u n xs) (hg : w.grownBy w' u.ownBlock) {k : Nat} {t : TypeId} {cs : List Value} (hB : Block w k t cs) (hT : t ≠ 5) : Block w' k t cs := by
  refine (hg.block k hB.lt ?_).trans hB
  intro e
  rcases ho.2 with ⟨hv, _⟩ | ⟨g, cap, cur, hv, _, hh, _⟩
  · rw [hv] at e; simp [Value.ownBlock] at e
  · rw [hv] at e
    simp [Value.ownBlock] at e
    subst e
    unfold Block at hB
    rw [hh] at hB
    exact hT ((Obj.cells.inj (Option.some.inj hB)).2.1.symm)
/-- every block that is no row of bytes stays -/
def Stay (w w' : World) : Prop := ∀ k t cs, Block w k t cs → t ≠ 5 → Block w' k t cs
theorem exec_append_row {o : Oper} {act : Act} {w : World} {x y : Operand} {u : Value} {B m c : Nat} {ap : Option Addr} {xs ys : List Nat} {W0 : World}
    (ho : o.op = .call { callee := .builtin .append, args := #[x, y], argTypes := #[39, 39] }) (hx : act.eval x = u) (hy : act.eval y = .slice ap m c)
    (hR : RowS B W0 xs u w) (hr : Reads .u8 w ap m ys) (hl : xs.length + m ≤ 1000000) :
    ∃ z w', (execOp act.eval o).run Try.prog w = .ok (.value z) w' ∧ RowS B W0 (xs ++ ys) z w' ∧ Stay w w' := by
  obtain ⟨z, w', h1, h2, h3, h4⟩ := exec_append_u8 ho hx hy hR.1 hr hR.2.2 (by omega)
  refine ⟨z, w', h1, ⟨?_, hR.2.1.grown h3 hR.2.2 (fun k hk => (World.ownsRow.lt hR.1 k hk).1), Nat.le_trans hR.2.2 h3.size⟩, fun k t cs hB hT => grown_block hR.1 h3 hB hT⟩
  have hl2 := hr.1
  rw [show (xs ++ ys).length = xs.length + m by rw [List.length_append, hl2]]
  exact h2
theorem wpList_append_row {w : World} {ops : Array Oper} {rest : List Oper} {o : Oper} {a : Act} {Q : Exit → Act → World → Prop} (hgd : o.guard = none) (s x : Operand)
    (ho : o.op = .call { callee := .builtin .append, args := #[s, x], argTypes := #[39, 39] }) {u : Value} {B m c : Nat} {ap : Option Addr} {xs ys : List Nat} {W0 : World}
    (hs : a.eval s = u) (hx : a.eval x = .slice ap m c) (hR : RowS B W0 xs u w) (hr : Reads .u8 w ap m ys) (hl : xs.length + m ≤ 1000000)
    (h : ∀ z w', RowS B W0 (xs ++ ys) z w' → Stay w w' → wpList Try.prog ops Q rest (a.put o.dst z) w') : wpList Try.prog ops Q (o :: rest) a w := by
  obtain ⟨z, w', h1, h2, h3⟩ := exec_append_row ho hs hx hR hr hl
  refine wpList_plain hgd fun K hK => ?_
  unfold Oper.wp
  rw [h1]
  exact hK _ _ (h z w' h2 h3)
theorem plan_append {md : Region.Mode} {Q : Exit → Act → World → Prop} {l : List Oper} {S : World → Prop} {f : Nat} {listed : Array Bool} {a : Act} {w : World} (i : Nat) {o : Oper} {x y : Operand} {u : Value} {B m c : Nat} {ap : Option Addr} {xs ys : List Nat} {W0 : World}
    (hR : RowS B W0 xs u w) (hr : Reads .u8 w ap m ys) (hi : l[i]? = some o) (hg : o.guard = none) (hrd : Region.ready md l.toArray listed = [i])
    (ho : o.op = .call { callee := .builtin .append, args := #[x, y], argTypes := #[39, 39] }) (hx : a.eval x = u) (hy : a.eval y = .slice ap m c) (hl : xs.length + m ≤ 1000000)
    (h : ∀ z w', RowS B W0 (xs ++ ys) z w' → Stay w w' → S w' ∧ wpAnyH Try.prog md l.toArray (NoPanic Q) S f (listed.setIfInBounds i true) (a.put o.dst z) w') :
    wpAnyH Try.prog md l.toArray (NoPanic Q) S (f + 1) listed a w := by
  obtain ⟨z, w', h1, h2, h3⟩ := exec_append_row ho hx hy hR hr hl
  obtain ⟨h4, h5⟩ := h z w' h2 h3
  exact plan.oneS i o z hi hg hrd h1 h4 h5
theorem exec_u64 {o : Oper} {a : Act} {w : World} {x : Operand} {n : Int} (ho : o.op = .convert 3 65 x) (hx : a.eval x = .int .i64 n) (h0 : 0 ≤ n) (hn : n ≤ 9223372036854775807) :
    (execOp a.eval o).run Try.prog w = .ok (.value (.int .u64 n)) w := by
  unfold execOp
  rw [ho]
  simp only [hx]
  go_simp
  show IntKind.u64.wrap n = n
  simp only [IntKind.wrap, IntKind.bits, IntKind.signed]
  simp
  omega
theorem refCount_int (n : Int) (h0 : 0 ≤ n) (hn : n ≤ 9223372036854775807) (w : World) : Calls Try.prog 41 #[.int .u64 n] w (Copies (vb n.toNat) w) := by
  obtain ⟨m, rfl⟩ := Int.eq_ofNat_of_zero_le h0
  exact refCount_any m (by omega) w
end Go.Proofs.Ytacigmnnekphmaa.schema
/- Contract of the reference of layer 13 (schema): FieldBytes. No condition but a right field. -/
namespace Go.Proofs.Ytacigmnnekphmaa.schema
open Go.RowKit Go.Proofs.Ytacigmnnekphmaa.pen
set_option linter.unusedVariables false

set_option maxHeartbeats 1600000 in
theorem refField_any (p : field.Fd) (hr : p.Right) (w : World) : Calls Try.prog 42 #[.agg #[.int .i64 p.id, .int .i64 p.kind, .int .i64 p.lo, .int .i64 p.hi, .int .i64 p.most]] w (Copies (fieldB p) w) := by
  have hs := right_span hr
  have hk : p.kind = 1 ∨ p.kind = 2 ∨ p.kind = 3 ∨ p.kind = 4 := by omega
  have HFV := field.five p w
  have HFB := field.belowF p w
  have l1 := vb_ten p.id.toNat (by omega)
  have l2 := vb_ten p.kind.toNat (by omega)
  have l3 := vb_ten (zig p.lo) (zig_lt _ (by omega) (by omega))
  have l4 := vb_ten (zig p.hi) (zig_lt _ (by omega) (by omega))
  have l5 := vb_ten p.most.toNat (by omega)
  have hfb : fieldB p = vb p.id.toNat ++ vb p.kind.toNat ++ (if p.kind = 1 then vb (zig p.lo) ++ vb (zig p.hi) else if p.kind = 3 ∨ p.kind = 4 then vb p.most.toNat else []) := rfl
  rw [hfb]
  clear hfb hr
  obtain ⟨i, k, lw, hi, m⟩ := p
  simp only at *
  have hbs : w.heap.size ≤ (w.alloc (.cells #[.int .i64 i, .int .i64 k, .int .i64 lw, .int .i64 hi, .int .i64 m] 50)).heap.size := by simp
  obtain ⟨W0, hW0⟩ : ∃ x, (w.alloc (.cells #[.int .i64 i, .int .i64 k, .int .i64 lw, .int .i64 hi, .int .i64 m] 50)) = x := ⟨_, rfl⟩
  have HW0 := hid hW0
  rw [hW0] at HFV HFB hbs
  clear hW0
  obtain ⟨B, hB⟩ : ∃ B, W0.heap.size = B := ⟨_, rfl⟩
  rw [hB] at HFV HFB hbs
  have HZ := hid HFV
  have HWB := hid HFB
  have HBL := hid hbs
  have HBS : Hid (B ≤ W0.drew.heap.size) := hid (Nat.le_of_eq hB.symm)
  clear HFV HFB hbs hB
  unfold Copies
  rcases hk with rfl | rfl | rfl | rfl
  · rw [if_pos rfl]
    go_enter Try.func42, Try.ntmps42
    go_wp2
    rw [HW0.out]
    refine plan.regionS (S := fun w' => Below B W0 w') (by kernel_rfl) ?_
    have hS : Below B W0 W0.drew := below_drew (Below.refl _ _)
    have hS2 : B ≤ W0.drew.heap.size := HBS.out
    refine plan.firstS 0 _ (.pointer (some ⟨w.heap.size, 0, none⟩)) rfl (by kernel_rfl) (by kernel_rfl) (by kernel_rfl) (by kernel_rfl) (fun w' hS' => (by kernel_rfl)) hS ?_
    refine plan.firstS 1 _ (.int .i64 i) rfl (by kernel_rfl) (by kernel_rfl) (by kernel_rfl) (by kernel_rfl) (fun w' hS' => exec_cell_int (ad := ⟨w.heap.size, 0, none⟩) rfl (by kernel_rfl) (HZ.out _ hS').1 Try.isAgg3) hS ?_
    refine plan.firstS 2 _ (.int .u64 i) rfl (by kernel_rfl) (by kernel_rfl) (by kernel_rfl) (by kernel_rfl) (fun w' hS' => (exec_u64 (n := i) rfl (by kernel_rfl) (by omega) (by omega))) hS ?_
    refine plan.firstS 4 _ (.pointer (some ⟨w.heap.size, 1, none⟩)) rfl (by kernel_rfl) (by kernel_rfl) (by kernel_rfl) (by kernel_rfl) (fun w' hS' => (by kernel_rfl)) hS ?_
    refine plan.firstS 5 _ (.int .i64 1) rfl (by kernel_rfl) (by kernel_rfl) (by kernel_rfl) (by kernel_rfl) (fun w' hS' => exec_cell_int (ad := ⟨w.heap.size, 1, none⟩) rfl (by kernel_rfl) (HZ.out _ hS').2.1 Try.isAgg3) hS ?_
    refine plan.firstS 6 _ (.int .u64 1) rfl (by kernel_rfl) (by kernel_rfl) (by kernel_rfl) (by kernel_rfl) (fun w' hS' => (exec_u64 (n := 1) rfl (by kernel_rfl) (by omega) (by omega))) hS ?_
    refine plan.callS 3 _ 41 #[.int .u64 i] rfl (by kernel_rfl) (by kernel_rfl) (by kernel_rfl) ((refCount_int i (by omega) (by omega) W0.drew).mono ?_)
    rintro e W1 ⟨u1, rfl, ho1, hb1⟩
    have hR1 := RowS.of hS hS2 ho1 hb1
    have hS2 := hR1.2.2
    have hS := hR1.2.1
    obtain ⟨a1, c1, rfl, hq1⟩ := own_reads hR1.1
    refine ⟨_, rfl, hS, ?_⟩
    refine plan.callS 7 _ 41 #[.int .u64 1] rfl (by kernel_rfl) (by kernel_rfl) (by kernel_rfl) ((refCount_int 1 (by omega) (by omega) W1).mono ?_)
    rintro e W2 ⟨u2, rfl, ho2, hb2⟩
    have hR2 := RowS.of hS hS2 ho2 hb2
    have hS2 := hR2.2.2
    have hS := hR2.2.1
    have hR1 := hR1.later hb2
    obtain ⟨a2, c2, rfl, hq2⟩ := own_reads hR2.1
    refine ⟨_, rfl, hS, ?_⟩
    refine plan_append (c := c2) 8 hR1 hq2 rfl rfl (by kernel_rfl) rfl (by kernel_rfl) (by kernel_rfl) (by (try simp only [List.length_append]); omega) (fun z3 W3 hZ3 hK3 => ⟨hZ3.2.1, ?_⟩)
    have hS := hZ3.2.1
    have hS2 := hZ3.2.2
    refine plan.oneS 9 _ (z3) rfl rfl (by kernel_rfl) (by kernel_rfl) hS ?_
    refine plan.doneS (by kernel_rfl) ?_
    walk_nrm
    have y1 := (HZ.out _ hZ3.2.1).2.1
    go_wp2
    have hZd := hZ3.later (w' := W3.drew) (below_drew (Below.refl _ _))
    have hS := hZd.2.1
    have hS2 := hZd.2.2
    refine plan.regionS (S := fun w' => Below B W0 w') (by kernel_rfl) ?_
    refine plan.firstS 0 _ (z3) rfl (by kernel_rfl) (by kernel_rfl) (by kernel_rfl) (by kernel_rfl) (fun w' hS' => (by kernel_rfl)) hS ?_
    refine plan.firstS 1 _ (.pointer (some ⟨w.heap.size, 2, none⟩)) rfl (by kernel_rfl) (by kernel_rfl) (by kernel_rfl) (by kernel_rfl) (fun w' hS' => (by kernel_rfl)) hS ?_
    refine plan.firstS 2 _ (.int .i64 lw) rfl (by kernel_rfl) (by kernel_rfl) (by kernel_rfl) (by kernel_rfl) (fun w' hS' => exec_cell_int (ad := ⟨w.heap.size, 2, none⟩) rfl (by kernel_rfl) (HZ.out _ hS').2.2.1 Try.isAgg3) hS ?_
    refine plan.firstS 5 _ (.pointer (some ⟨w.heap.size, 3, none⟩)) rfl (by kernel_rfl) (by kernel_rfl) (by kernel_rfl) (by kernel_rfl) (fun w' hS' => (by kernel_rfl)) hS ?_
    refine plan.firstS 6 _ (.int .i64 hi) rfl (by kernel_rfl) (by kernel_rfl) (by kernel_rfl) (by kernel_rfl) (fun w' hS' => exec_cell_int (ad := ⟨w.heap.size, 3, none⟩) rfl (by kernel_rfl) (HZ.out _ hS').2.2.2.1 Try.isAgg3) hS ?_
    refine plan.callS 3 _ 59 #[.int .i64 lw] rfl (by kernel_rfl) (by kernel_rfl) (by kernel_rfl) ((refNum_any lw (by omega) (by omega) W3.drew).mono ?_)
    rintro e W1 ⟨u1, rfl, ho1, hb1⟩
    have hR1 := RowS.of hS hS2 ho1 hb1
    have hS2 := hR1.2.2
    have hS := hR1.2.1
    have hZd := hZd.later hb1
    obtain ⟨a1, c1, rfl, hq1⟩ := own_reads hR1.1
    refine ⟨_, rfl, hS, ?_⟩
    refine plan_append (c := c1) 4 hZd hq1 rfl rfl (by kernel_rfl) rfl (by kernel_rfl) (by kernel_rfl) (by (try simp only [List.length_append]); omega) (fun z2 W2 hZ2 hK2 => ⟨hZ2.2.1, ?_⟩)
    have hS := hZ2.2.1
    have hS2 := hZ2.2.2
    refine plan.callS 7 _ 59 #[.int .i64 hi] rfl (by kernel_rfl) (by kernel_rfl) (by kernel_rfl) ((refNum_any hi (by omega) (by omega) W2).mono ?_)
    rintro e W3 ⟨u3, rfl, ho3, hb3⟩
    have hR3 := RowS.of hS hS2 ho3 hb3
    have hS2 := hR3.2.2
    have hS := hR3.2.1
    have hZ2 := hZ2.later hb3
    obtain ⟨a3, c3, rfl, hq3⟩ := own_reads hR3.1
    refine ⟨_, rfl, hS, ?_⟩
    refine plan_append (c := c3) 8 hZ2 hq3 rfl rfl (by kernel_rfl) rfl (by kernel_rfl) (by kernel_rfl) (by (try simp only [List.length_append]); omega) (fun z4 W4 hZ4 hK4 => ⟨hZ4.2.1, ?_⟩)
    have hS := hZ4.2.1
    have hS2 := hZ4.2.2
    refine plan.oneS 9 _ (z4) rfl rfl (by kernel_rfl) (by kernel_rfl) hS ?_
    refine plan.doneS (by kernel_rfl) ?_
    walk_nrm
    go_wp2
    go_ret
    have ho := own_low hZ4.1 HBL.out
    exact ⟨z4, rfl, by simpa only [List.append_assoc] using ho, HWB.out _ hZ4.2.1⟩
  · rw [if_neg (by decide), if_neg (by decide), List.append_nil]
    go_enter Try.func42, Try.ntmps42
    go_wp2
    rw [HW0.out]
    refine plan.regionS (S := fun w' => Below B W0 w') (by kernel_rfl) ?_
    have hS : Below B W0 W0.drew := below_drew (Below.refl _ _)
    have hS2 : B ≤ W0.drew.heap.size := HBS.out
    refine plan.firstS 0 _ (.pointer (some ⟨w.heap.size, 0, none⟩)) rfl (by kernel_rfl) (by kernel_rfl) (by kernel_rfl) (by kernel_rfl) (fun w' hS' => (by kernel_rfl)) hS ?_
    refine plan.firstS 1 _ (.int .i64 i) rfl (by kernel_rfl) (by kernel_rfl) (by kernel_rfl) (by kernel_rfl) (fun w' hS' => exec_cell_int (ad := ⟨w.heap.size, 0, none⟩) rfl (by kernel_rfl) (HZ.out _ hS').1 Try.isAgg3) hS ?_
    refine plan.firstS 2 _ (.int .u64 i) rfl (by kernel_rfl) (by kernel_rfl) (by kernel_rfl) (by kernel_rfl) (fun w' hS' => (exec_u64 (n := i) rfl (by kernel_rfl) (by omega) (by omega))) hS ?_
    refine plan.firstS 4 _ (.pointer (some ⟨w.heap.size, 1, none⟩)) rfl (by kernel_rfl) (by kernel_rfl) (by kernel_rfl) (by kernel_rfl) (fun w' hS' => (by kernel_rfl)) hS ?_
    refine plan.firstS 5 _ (.int .i64 2) rfl (by kernel_rfl) (by kernel_rfl) (by kernel_rfl) (by kernel_rfl) (fun w' hS' => exec_cell_int (ad := ⟨w.heap.size, 1, none⟩) rfl (by kernel_rfl) (HZ.out _ hS').2.1 Try.isAgg3) hS ?_
    refine plan.firstS 6 _ (.int .u64 2) rfl (by kernel_rfl) (by kernel_rfl) (by kernel_rfl) (by kernel_rfl) (fun w' hS' => (exec_u64 (n := 2) rfl (by kernel_rfl) (by omega) (by omega))) hS ?_
    refine plan.callS 3 _ 41 #[.int .u64 i] rfl (by kernel_rfl) (by kernel_rfl) (by kernel_rfl) ((refCount_int i (by omega) (by omega) W0.drew).mono ?_)
    rintro e W1 ⟨u1, rfl, ho1, hb1⟩
    have hR1 := RowS.of hS hS2 ho1 hb1
    have hS2 := hR1.2.2
    have hS := hR1.2.1
    obtain ⟨a1, c1, rfl, hq1⟩ := own_reads hR1.1
    refine ⟨_, rfl, hS, ?_⟩
    refine plan.callS 7 _ 41 #[.int .u64 2] rfl (by kernel_rfl) (by kernel_rfl) (by kernel_rfl) ((refCount_int 2 (by omega) (by omega) W1).mono ?_)
    rintro e W2 ⟨u2, rfl, ho2, hb2⟩
    have hR2 := RowS.of hS hS2 ho2 hb2
    have hS2 := hR2.2.2
    have hS := hR2.2.1
    have hR1 := hR1.later hb2
    obtain ⟨a2, c2, rfl, hq2⟩ := own_reads hR2.1
    refine ⟨_, rfl, hS, ?_⟩
    refine plan_append (c := c2) 8 hR1 hq2 rfl rfl (by kernel_rfl) rfl (by kernel_rfl) (by kernel_rfl) (by (try simp only [List.length_append]); omega) (fun z3 W3 hZ3 hK3 => ⟨hZ3.2.1, ?_⟩)
    have hS := hZ3.2.1
    have hS2 := hZ3.2.2
    refine plan.oneS 9 _ (z3) rfl rfl (by kernel_rfl) (by kernel_rfl) hS ?_
    refine plan.doneS (by kernel_rfl) ?_
    walk_nrm
    have y1 := (HZ.out _ hZ3.2.1).2.1
    go_wp2
    go_ret
    have ho := own_low hZ3.1 HBL.out
    exact ⟨z3, rfl, by simpa only [List.append_assoc] using ho, HWB.out _ hZ3.2.1⟩
  · rw [if_neg (by decide), if_pos (by decide)]
    go_enter Try.func42, Try.ntmps42
    go_wp2
    rw [HW0.out]
    refine plan.regionS (S := fun w' => Below B W0 w') (by kernel_rfl) ?_
    have hS : Below B W0 W0.drew := below_drew (Below.refl _ _)
    have hS2 : B ≤ W0.drew.heap.size := HBS.out
    refine plan.firstS 0 _ (.pointer (some ⟨w.heap.size, 0, none⟩)) rfl (by kernel_rfl) (by kernel_rfl) (by kernel_rfl) (by kernel_rfl) (fun w' hS' => (by kernel_rfl)) hS ?_
    refine plan.firstS 1 _ (.int .i64 i) rfl (by kernel_rfl) (by kernel_rfl) (by kernel_rfl) (by kernel_rfl) (fun w' hS' => exec_cell_int (ad := ⟨w.heap.size, 0, none⟩) rfl (by kernel_rfl) (HZ.out _ hS').1 Try.isAgg3) hS ?_
    refine plan.firstS 2 _ (.int .u64 i) rfl (by kernel_rfl) (by kernel_rfl) (by kernel_rfl) (by kernel_rfl) (fun w' hS' => (exec_u64 (n := i) rfl (by kernel_rfl) (by omega) (by omega))) hS ?_
    refine plan.firstS 4 _ (.pointer (some ⟨w.heap.size, 1, none⟩)) rfl (by kernel_rfl) (by kernel_rfl) (by kernel_rfl) (by kernel_rfl) (fun w' hS' => (by kernel_rfl)) hS ?_
    refine plan.firstS 5 _ (.int .i64 3) rfl (by kernel_rfl) (by kernel_rfl) (by kernel_rfl) (by kernel_rfl) (fun w' hS' => exec_cell_int (ad := ⟨w.heap.size, 1, none⟩) rfl (by kernel_rfl) (HZ.out _ hS').2.1 Try.isAgg3) hS ?_
    refine plan.firstS 6 _ (.int .u64 3) rfl (by kernel_rfl) (by kernel_rfl) (by kernel_rfl) (by kernel_rfl) (fun w' hS' => (exec_u64 (n := 3) rfl (by kernel_rfl) (by omega) (by omega))) hS ?_
    refine plan.callS 3 _ 41 #[.int .u64 i] rfl (by kernel_rfl) (by kernel_rfl) (by kernel_rfl) ((refCount_int i (by omega) (by omega) W0.drew).mono ?_)
    rintro e W1 ⟨u1, rfl, ho1, hb1⟩
    have hR1 := RowS.of hS hS2 ho1 hb1
    have hS2 := hR1.2.2
    have hS := hR1.2.1
    obtain ⟨a1, c1, rfl, hq1⟩ := own_reads hR1.1
    refine ⟨_, rfl, hS, ?_⟩
    refine plan.callS 7 _ 41 #[.int .u64 3] rfl (by kernel_rfl) (by kernel_rfl) (by kernel_rfl) ((refCount_int 3 (by omega) (by omega) W1).mono ?_)
    rintro e W2 ⟨u2, rfl, ho2, hb2⟩
    have hR2 := RowS.of hS hS2 ho2 hb2
    have hS2 := hR2.2.2
    have hS := hR2.2.1
    have hR1 := hR1.later hb2
    obtain ⟨a2, c2, rfl, hq2⟩ := own_reads hR2.1
    refine ⟨_, rfl, hS, ?_⟩
    refine plan_append (c := c2) 8 hR1 hq2 rfl rfl (by kernel_rfl) rfl (by kernel_rfl) (by kernel_rfl) (by (try simp only [List.length_append]); omega) (fun z3 W3 hZ3 hK3 => ⟨hZ3.2.1, ?_⟩)
    have hS := hZ3.2.1
    have hS2 := hZ3.2.2
    refine plan.oneS 9 _ (z3) rfl rfl (by kernel_rfl) (by kernel_rfl) hS ?_
    refine plan.doneS (by kernel_rfl) ?_
    walk_nrm
    have z4 := (HZ.out _ hZ3.2.1).2.2.2.2
    have z1 := (HZ.out _ hZ3.2.1).2.1
    have cm := fun w' => refCount_int m (by omega) (by omega) w'
    go_wp2_with (first
      | (go_at_call 41; ((with_reducible refine (cm _).mono ?_); rintro e w5 ⟨u5, rfl, ho5, hb5⟩; have hR5 := RowS.of hZ3.2.1 hZ3.2.2 ho5 hb5; have hZ5 := hZ3.later hb5; obtain ⟨a5, c5, rfl, hq5⟩ := own_reads hR5.1))
      | (at_builtin; refine wpList_append_row rfl (.tmp 29) (.tmp 33) rfl rfl rfl hZ5 hq5 (by simp only [List.length_append]; omega) ?_; intro z6 w6 hZ6 _))
    go_ret
    have ho := own_low hZ6.1 HBL.out
    exact ⟨z6, rfl, by simpa only [List.append_assoc] using ho, HWB.out _ hZ6.2.1⟩
  · rw [if_neg (by decide), if_pos (by decide)]
    go_enter Try.func42, Try.ntmps42
    go_wp2
    rw [HW0.out]
    refine plan.regionS (S := fun w' => Below B W0 w') (by kernel_rfl) ?_
    have hS : Below B W0 W0.drew := below_drew (Below.refl _ _)
    have hS2 : B ≤ W0.drew.heap.size := HBS.out
    refine plan.firstS 0 _ (.pointer (some ⟨w.heap.size, 0, none⟩)) rfl (by kernel_rfl) (by kernel_rfl) (by kernel_rfl) (by kernel_rfl) (fun w' hS' => (by kernel_rfl)) hS ?_
    refine plan.firstS 1 _ (.int .i64 i) rfl (by kernel_rfl) (by kernel_rfl) (by kernel_rfl) (by kernel_rfl) (fun w' hS' => exec_cell_int (ad := ⟨w.heap.size, 0, none⟩) rfl (by kernel_rfl) (HZ.out _ hS').1 Try.isAgg3) hS ?_
    refine plan.firstS 2 _ (.int .u64 i) rfl (by kernel_rfl) (by kernel_rfl) (by kernel_rfl) (by kernel_rfl) (fun w' hS' => (exec_u64 (n := i) rfl (by kernel_rfl) (by omega) (by omega))) hS ?_
    refine plan.firstS 4 _ (.pointer (some ⟨w.heap.size, 1, none⟩)) rfl (by kernel_rfl) (by kernel_rfl) (by kernel_rfl) (by kernel_rfl) (fun w' hS' => (by kernel_rfl)) hS ?_
    refine plan.firstS 5 _ (.int .i64 4) rfl (by kernel_rfl) (by kernel_rfl) (by kernel_rfl) (by kernel_rfl) (fun w' hS' => exec_cell_int (ad := ⟨w.heap.size, 1, none⟩) rfl (by kernel_rfl) (HZ.out _ hS').2.1 Try.isAgg3) hS ?_
    refine plan.firstS 6 _ (.int .u64 4) rfl (by kernel_rfl) (by kernel_rfl) (by kernel_rfl) (by kernel_rfl) (fun w' hS' => (exec_u64 (n := 4) rfl (by kernel_rfl) (by omega) (by omega))) hS ?_
    refine plan.callS 3 _ 41 #[.int .u64 i] rfl (by kernel_rfl) (by kernel_rfl) (by kernel_rfl) ((refCount_int i (by omega) (by omega) W0.drew).mono ?_)
    rintro e W1 ⟨u1, rfl, ho1, hb1⟩
    have hR1 := RowS.of hS hS2 ho1 hb1
    have hS2 := hR1.2.2
    have hS := hR1.2.1
    obtain ⟨a1, c1, rfl, hq1⟩ := own_reads hR1.1
    refine ⟨_, rfl, hS, ?_⟩
    refine plan.callS 7 _ 41 #[.int .u64 4] rfl (by kernel_rfl) (by kernel_rfl) (by kernel_rfl) ((refCount_int 4 (by omega) (by omega) W1).mono ?_)
    rintro e W2 ⟨u2, rfl, ho2, hb2⟩
    have hR2 := RowS.of hS hS2 ho2 hb2
    have hS2 := hR2.2.2
    have hS := hR2.2.1
    have hR1 := hR1.later hb2
    obtain ⟨a2, c2, rfl, hq2⟩ := own_reads hR2.1
    refine ⟨_, rfl, hS, ?_⟩
    refine plan_append (c := c2) 8 hR1 hq2 rfl rfl (by kernel_rfl) rfl (by kernel_rfl) (by kernel_rfl) (by (try simp only [List.length_append]); omega) (fun z3 W3 hZ3 hK3 => ⟨hZ3.2.1, ?_⟩)
    have hS := hZ3.2.1
    have hS2 := hZ3.2.2
    refine plan.oneS 9 _ (z3) rfl rfl (by kernel_rfl) (by kernel_rfl) hS ?_
    refine plan.doneS (by kernel_rfl) ?_
    walk_nrm
    have z4 := (HZ.out _ hZ3.2.1).2.2.2.2
    have z1 := (HZ.out _ hZ3.2.1).2.1
    have cm := fun w' => refCount_int m (by omega) (by omega) w'
    go_wp2_with (first
      | (go_at_call 41; ((with_reducible refine (cm _).mono ?_); rintro e w5 ⟨u5, rfl, ho5, hb5⟩; have hR5 := RowS.of hZ3.2.1 hZ3.2.2 ho5 hb5; have hZ5 := hZ3.later hb5; obtain ⟨a5, c5, rfl, hq5⟩ := own_reads hR5.1))
      | (at_builtin; refine wpList_append_row rfl (.tmp 29) (.tmp 33) rfl rfl rfl hZ5 hq5 (by simp only [List.length_append]; omega) ?_; intro z6 w6 hZ6 _))
    go_ret
    have ho := own_low hZ6.1 HBL.out
    exact ⟨z6, rfl, by simpa only [List.append_assoc] using ho, HWB.out _ hZ6.2.1⟩
end Go.Proofs.Ytacigmnnekphmaa.schema
/- Contract of the reference of layer 13 (schema): Print. No condition but a right schema. -/
namespace Go.Proofs.Ytacigmnnekphmaa.schema
open Go.RowKit Go.Proofs.Ytacigmnnekphmaa.pen
set_option linter.unusedVariables false

set_option maxRecDepth 20000 in
set_option maxHeartbeats 1600000 in
theorem refPrint_any (v : Int) (a : Option Addr) (cap : Nat) (F : List Fm) (w : World) (h : FmL w a F) (hr : Right v (forms F)) : Calls Try.prog 22 #[.agg #[.int .i64 v, .slice a F.length cap]] w (Copies (schemaB v (forms F)) w) := by
  have h8 : F.length ≤ 8 := by have := hr.2.1; rw [forms_length] at this; exact this
  have hv := hr.1
  have HR := hid hr
  have HFV := boxS v a F cap w
  have hF0 := h.below (field.newB w (.cells #[.int .i64 v, .slice a F.length cap] 24))
  have HSB : Hid (schemaB v (forms F) = (vb v.toNat ++ vb F.length) ++ formsB (forms F)) := hid (by unfold schemaB; rw [forms_length])
  have lv := vb_ten v.toNat (by omega)
  have ln := vb_ten F.length (by omega)
  obtain ⟨X, hX⟩ : ∃ X : List Nat, Hid (vb v.toNat ++ vb F.length = X) := ⟨_, hid rfl⟩
  have HXL : Hid (X.length ≤ 20) := hid (by rw [← hX.out]; simp only [List.length_append]; omega)
  rw [hX.out] at HSB
  rw [HSB.out]
  have hbs : w.heap.size ≤ (w.alloc (.cells #[.int .i64 v, .slice a F.length cap] 24)).heap.size := by simp
  obtain ⟨W0, hW0⟩ : ∃ x, (w.alloc (.cells #[.int .i64 v, .slice a F.length cap] 24)) = x := ⟨_, rfl⟩
  have HW0 := hid hW0
  rw [hW0] at HFV hF0 hbs
  obtain ⟨B, hB⟩ : ∃ B, W0.heap.size = B := ⟨_, rfl⟩
  rw [hB] at HFV hbs
  have HZ := hid HFV
  have HF := hid hF0
  have HBL := hid hbs
  have HBQ := hid hB
  clear hW0 HFV hF0 hbs hB h hr
  unfold Copies
  go_enter Try.func22, Try.ntmps22
  go_wp2
  rw [HW0.out]
  refine plan.regionS (S := fun w' => Below B W0 w') (by kernel_rfl) ?_
  have hS : Below B W0 W0.drew := by rw [← HBQ.out]; exact below_drew (Below.refl _ _)
  have hS2 : B ≤ W0.drew.heap.size := Nat.le_of_eq HBQ.out.symm
  refine plan.firstS 0 _ (.pointer (some ⟨w.heap.size, 0, none⟩)) rfl (by kernel_rfl) (by kernel_rfl) (by kernel_rfl) (by kernel_rfl) (fun w' hS' => (by kernel_rfl)) hS ?_
  refine plan.firstS 1 _ (.int .i64 v) rfl (by kernel_rfl) (by kernel_rfl) (by kernel_rfl) (by kernel_rfl) (fun w' hS' => exec_cell_int (ad := ⟨w.heap.size, 0, none⟩) rfl (by kernel_rfl) (HZ.out _ hS').1 Try.isAgg3) hS ?_
  refine plan.firstS 2 _ (.int .u64 v) rfl (by kernel_rfl) (by kernel_rfl) (by kernel_rfl) (by kernel_rfl) (fun w' hS' => (exec_u64 (n := v) rfl (by kernel_rfl) (by omega) (by omega))) hS ?_
  refine plan.firstS 4 _ (.pointer (some ⟨w.heap.size, 1, none⟩)) rfl (by kernel_rfl) (by kernel_rfl) (by kernel_rfl) (by kernel_rfl) (fun w' hS' => (by kernel_rfl)) hS ?_
  refine plan.firstS 5 _ (.slice a F.length cap) rfl (by kernel_rfl) (by kernel_rfl) (by kernel_rfl) (by kernel_rfl) (fun w' hS' => exec_cell_slice (ad := ⟨w.heap.size, 1, none⟩) rfl (by kernel_rfl) (HZ.out _ hS').2.1 Try.isAgg22) hS ?_
  refine plan.firstS 6 _ (.int .i64 (F.length : Int)) rfl (by kernel_rfl) (by kernel_rfl) (by kernel_rfl) (by kernel_rfl) (fun w' hS' => (by kernel_rfl)) hS ?_
  refine plan.firstS 7 _ (.int .u64 (F.length : Int)) rfl (by kernel_rfl) (by kernel_rfl) (by kernel_rfl) (by kernel_rfl) (fun w' hS' => (exec_u64 (n := (F.length : Int)) rfl (by kernel_rfl) (by omega) (by omega))) hS ?_
  refine plan.callS 3 _ 41 #[.int .u64 v] rfl (by kernel_rfl) (by kernel_rfl) (by kernel_rfl) ((refCount_int v (by omega) (by omega) W0.drew).mono ?_)
  rintro e W1 ⟨u1, rfl, ho1, hb1⟩
  have hR1 := RowS.of hS hS2 ho1 hb1
  have hS2 := hR1.2.2
  have hS := hR1.2.1
  obtain ⟨a1, c1, rfl, hq1⟩ := own_reads hR1.1
  refine ⟨_, rfl, hS, ?_⟩
  refine plan.callS 8 _ 41 #[.int .u64 (F.length : Int)] rfl (by kernel_rfl) (by kernel_rfl) (by kernel_rfl) ((refCount_any F.length (by omega) W1).mono ?_)
  rintro e W2 ⟨u2, rfl, ho2, hb2⟩
  have hR2 := RowS.of hS hS2 ho2 hb2
  have hS2 := hR2.2.2
  have hS := hR2.2.1
  have hR1 := hR1.later hb2
  obtain ⟨a2, c2, rfl, hq2⟩ := own_reads hR2.1
  refine ⟨_, rfl, hS, ?_⟩
  refine plan_append (c := c2) 9 hR1 hq2 rfl rfl (by kernel_rfl) rfl (by kernel_rfl) (by kernel_rfl) (by (try simp only [List.length_append]); omega) (fun z3 W3 hZ3 hK3 => ⟨hZ3.2.1, ?_⟩)
  have hS := hZ3.2.1
  have hS2 := hZ3.2.2
  refine plan.oneS 10 _ (z3) rfl rfl (by kernel_rfl) (by kernel_rfl) hS ?_
  refine plan.doneS (by kernel_rfl) ?_
  walk_nrm
  have hR0 := hZ3
  rw [hX.out] at hR0
  clear lv ln
  go_wp2
  go_loopw [3, 4] (fun u0 n wr => ∃ (k : Nat) (u : Value), k ≤ F.length ∧ u = u0 ∧ n = .int .i64 (k : Int) ∧ Hid (RowS B W0 (X ++ formsB ((forms F).take k)) u wr)) (fun _ n _ => F.length - (intOf n).toNat)
  case atStart => exact ⟨0, _, Nat.zero_le _, rfl, rfl, hid (by simpa [formsB] using hR0)⟩
  case round =>
    obtain ⟨k, u, hk, rfl, rfl, HU⟩ := hrel
    have hu := HU.out
    obtain ⟨z0, z1, hbo⟩ := HZ.out _ hu.2.1
    by_cases hlt : k < F.length
    · obtain ⟨b, off, p, rfl, hbl, hp, c0, c1, hfd, hfl⟩ := form_at HF.out (by rw [HBQ.out]; exact hu.2.1) hlt
      have i1 : (k : Int) < F.length := by omega
      have HTK := hid (formsB_succ (forms_at hp))
      have hgd := (HF.out.2 p (List.mem_of_getElem? hp)).rf
      have hfi : Fine p.p := HR.out.2.2.1 _ (List.mem_of_getElem? (forms_at hp))
      have lf := formsB_take_len HR.out k
      have hXl := HXL.out
      have hXl2 : (X ++ formsB ((forms F).take k)).length ≤ 3020 := by simp only [List.length_append]; omega
      obtain ⟨Y, hY⟩ : ∃ Y : List Nat, Hid (X ++ formsB ((forms F).take k) = Y) := ⟨_, hid rfl⟩
      rw [hY.out] at hu hXl2
      obtain ⟨i, q, qc, L⟩ := p
      simp only [Fm.p] at HTK c0 c1 hfd hfl hfi hgd
      have HFI := hid hfi
      have HFd := hid hgd
      have hi := hfi.1
      have hl := hfi.2.1
      simp only at hi hl
      have li := vb_ten i.toNat (by omega)
      have ll := vb_ten L.length (by omega)
      have hu1 := hu.later (field.newB wr (.cells #[.int .i64 i, .slice q L.length qc] 29))
      have hbk0 := Block.new wr 29 [.int .i64 i, .slice q L.length qc]
      obtain ⟨w1, hw1⟩ : ∃ x, Hid ((wr.alloc (.cells #[.int .i64 i, .slice q L.length qc] 29)) = x) := ⟨_, hid rfl⟩
      obtain ⟨fb, hfb⟩ : ∃ x, Hid (wr.heap.size = x) := ⟨_, hid rfl⟩
      rw [hw1.out] at hu1 hbk0
      rw [hfb.out] at hbk0
      clear hp hfi hfd hgd hu HU hfl lf hXl
      go_wp2
      rw [hw1.out, hfb.out]
      refine plan.regionS (S := fun w' => Below B W0 w' ∧ Block w' fb 29 [.int .i64 i, .slice q L.length qc]) (by kernel_rfl) ?_
      have hU := hu1.later (w' := w1.drew) (below_drew (Below.refl _ _))
      have hbk := hbk0.later (w' := w1.drew) (below_drew (Below.refl _ _))
      have hS := hU.2.1
      have hS2 := hU.2.2
      refine plan.firstS 0 _ (u) rfl (by kernel_rfl) (by kernel_rfl) (by kernel_rfl) (by kernel_rfl) (fun w' hS' => (by kernel_rfl)) ⟨hS, hbk⟩ ?_
      refine plan.firstS 1 _ (.pointer (some ⟨fb, 0, none⟩)) rfl (by kernel_rfl) (by kernel_rfl) (by kernel_rfl) (by kernel_rfl) (fun w' hS' => (by kernel_rfl)) ⟨hS, hbk⟩ ?_
      refine plan.firstS 2 _ (.int .i64 i) rfl (by kernel_rfl) (by kernel_rfl) (by kernel_rfl) (by kernel_rfl) (fun w' hS' => exec_cell_int (ad := ⟨fb, 0, none⟩) rfl (by kernel_rfl) (hS'.2.cell 0) Try.isAgg3) ⟨hS, hbk⟩ ?_
      refine plan.firstS 3 _ (.int .u64 i) rfl (by kernel_rfl) (by kernel_rfl) (by kernel_rfl) (by kernel_rfl) (fun w' hS' => (exec_u64 (n := i) rfl (by kernel_rfl) (by omega) (by omega))) ⟨hS, hbk⟩ ?_
      refine plan.firstS 6 _ (.pointer (some ⟨fb, 1, none⟩)) rfl (by kernel_rfl) (by kernel_rfl) (by kernel_rfl) (by kernel_rfl) (fun w' hS' => (by kernel_rfl)) ⟨hS, hbk⟩ ?_
      refine plan.firstS 7 _ (.slice q L.length qc) rfl (by kernel_rfl) (by kernel_rfl) (by kernel_rfl) (by kernel_rfl) (fun w' hS' => exec_cell_slice (ad := ⟨fb, 1, none⟩) rfl (by kernel_rfl) (hS'.2.cell 1) Try.isAgg27) ⟨hS, hbk⟩ ?_
      refine plan.firstS 8 _ (.int .i64 (L.length : Int)) rfl (by kernel_rfl) (by kernel_rfl) (by kernel_rfl) (by kernel_rfl) (fun w' hS' => (by kernel_rfl)) ⟨hS, hbk⟩ ?_
      refine plan.firstS 9 _ (.int .u64 (L.length : Int)) rfl (by kernel_rfl) (by kernel_rfl) (by kernel_rfl) (by kernel_rfl) (fun w' hS' => (exec_u64 (n := (L.length : Int)) rfl (by kernel_rfl) (by omega) (by omega))) ⟨hS, hbk⟩ ?_
      refine plan.callS 4 _ 41 #[.int .u64 i] rfl (by kernel_rfl) (by kernel_rfl) (by kernel_rfl) ((refCount_int i (by omega) (by omega) w1.drew).mono ?_)
      rintro e W1 ⟨u1, rfl, ho1, hb1⟩
      have hR1 := RowS.of hS hS2 ho1 hb1
      have hS2 := hR1.2.2
      have hS := hR1.2.1
      have hU := hU.later hb1
      obtain ⟨a1, c1, rfl, hq1⟩ := own_reads hR1.1
      have hbk := hbk.later hb1
      refine ⟨_, rfl, ⟨hS, hbk⟩, ?_⟩
      refine plan_append (c := c1) 5 hU hq1 rfl rfl (by kernel_rfl) rfl (by kernel_rfl) (by kernel_rfl) (by (try simp only [List.length_append]); omega) (fun z2 W2 hZ2 hK2 => ⟨⟨hZ2.2.1, hK2 _ _ _ hbk fm_ty⟩, ?_⟩)
      have hbk := hK2 _ _ _ hbk fm_ty
      have hS := hZ2.2.1
      have hS2 := hZ2.2.2
      refine plan.callS 10 _ 41 #[.int .u64 (L.length : Int)] rfl (by kernel_rfl) (by kernel_rfl) (by kernel_rfl) ((refCount_any L.length (by omega) W2).mono ?_)
      rintro e W3 ⟨u3, rfl, ho3, hb3⟩
      have hR3 := RowS.of hS hS2 ho3 hb3
      have hS2 := hR3.2.2
      have hS := hR3.2.1
      have hZ2 := hZ2.later hb3
      obtain ⟨a3, c3, rfl, hq3⟩ := own_reads hR3.1
      have hbk := hbk.later hb3
      refine ⟨_, rfl, ⟨hS, hbk⟩, ?_⟩
      refine plan_append (c := c3) 11 hZ2 hq3 rfl rfl (by kernel_rfl) rfl (by kernel_rfl) (by kernel_rfl) (by (try simp only [List.length_append]); omega) (fun z4 W4 hZ4 hK4 => ⟨⟨hZ4.2.1, hK4 _ _ _ hbk fm_ty⟩, ?_⟩)
      have hbk := hK4 _ _ _ hbk fm_ty
      have hS := hZ4.2.1
      have hS2 := hZ4.2.2
      refine plan.oneS 12 _ (z4) rfl rfl (by kernel_rfl) (by kernel_rfl) ⟨hS, hbk⟩ ?_
      refine plan.doneS (by kernel_rfl) ?_
      walk_nrm
      have hR6 := hZ4
      have hB6 := hbk
      clear hR0 hU hu1 hbk0 hX HSB
      go_wp2
      go_loopw [3, 6] (fun u0 m wq => ∃ (j : Nat) (u : Value), j ≤ L.length ∧ u = u0 ∧ m = .int .i64 (j : Int) ∧ Hid (RowS B W0 (Y ++ vb i.toNat ++ vb L.length ++ fieldsB (L.take j)) u wq ∧ Block wq fb 29 [.int .i64 i, .slice q L.length qc])) (fun _ m _ => L.length - (intOf m).toNat)
      case atStart => exact ⟨0, _, Nat.zero_le _, rfl, rfl, hid ⟨by simpa [fieldsB] using hR6, hB6⟩⟩
      case round =>
        obtain ⟨j, y, hj, rfl, rfl, HY⟩ := hrel
        obtain ⟨hy, hyb⟩ := HY.out
        have y0 := hyb.cell 0
        have y1 := hyb.cell 1
        by_cases hjt : j < L.length
        · obtain ⟨b2, off2, x, rfl, hbl2, hx, e0, e1, e2, e3, e4⟩ := field_at HFd.out (by rw [HBQ.out]; exact hy.2.1) hjt
          have i2 : (j : Int) < L.length := by omega
          have HXX := hid (fieldsB_succ hx)
          have lg := fieldsB_take_len HFI.out j
          have hxr := HFI.out.2.2.1.1 x (List.mem_of_getElem? hx)
          have lx := fieldB_len hxr
          have cP := fun w' => refField_any x hxr w'
          clear hx hxr
          go_wp2_with (first
            | (go_at_call 42; ((with_reducible refine (cP _).mono ?_); rintro e w7 ⟨u7, rfl, ho7, hb7⟩; have hR7 := RowS.of hy.2.1 hy.2.2 ho7 hb7; have hy7 := hy.later hb7; have hyb7 := hyb.later hb7; obtain ⟨a7, c7, rfl, hq7⟩ := own_reads hR7.1))
            | (at_builtin; refine wpList_append_row rfl (.tmp 48) (.tmp 54) rfl rfl rfl hy7 hq7 (by simp only [List.length_append] at lg hXl2 ⊢; omega) ?_; intro z8 w8 hZ8 hK8))
          exact ⟨⟨j + 1, _, by omega, rfl, by go_num, hid ⟨by rw [HXX.out]; simpa only [List.append_assoc] using hZ8, hK8 _ _ _ hyb7 fm_ty⟩⟩, by simp [intOf]; omega⟩
        · obtain rfl : j = L.length := by omega
          rw [List.take_of_length_le (Nat.le_refl _)] at hy
          have HEND : Hid (RowS B W0 (X ++ formsB ((forms F).take (k + 1))) y wr) := hid (by
            rw [HTK.out]
            have h1 := hy
            rw [← hY.out] at h1
            simpa only [formB, List.append_assoc] using h1)
          clear hy HY
          go_wp2
          exact ⟨⟨k + 1, _, by omega, rfl, by go_num, HEND⟩, by simp [intOf]; omega⟩
    · obtain rfl : k = F.length := by omega
      rw [List.take_of_length_le (by rw [forms_length]; exact Nat.le_refl _)] at hu
      go_wp2
      go_ret
      exact ⟨u, rfl, own_low hu.1 HBL.out, hbo⟩
end Go.Proofs.Ytacigmnnekphmaa.schema
/- SchemaBytes returns true. No condition. -/
namespace Go.Proofs.Ytacigmnnekphmaa.schemaBytes
open Go.RowKit Go.Proofs.Ytacigmnnekphmaa.pen Go.Proofs.Ytacigmnnekphmaa.schema
set_option linter.unusedVariables false

theorem exec_neq_str {o : Oper} {a : Act} {w : World} {t' : TypeId} {x y : Operand} {s : ByteArray} (ho : o.op = .binOp .neq 9 x y t') (hx : a.eval x = .string s) (hy : a.eval y = .string s) : (execOp a.eval o).run Try.prog w = .ok (.value (.bool false)) w :=
  exec_two ho hx hy (by simp [go_sem]) (by simp [go_sem])
theorem info_sc : Hid ((Try.prog.info? 24).map (·.size) = some 2) := by show _ = _; kernel_rfl
set_option maxRecDepth 20000 in
set_option maxHeartbeats 1600000 in
theorem walk0 (v : Int) (sa : Option Addr) (sc : Nat) (F : List Fm) (a : Option Addr) (cap : Nat) (xs : List Nat) (w : World) (hf : FmL w sa F) (hF : F.length ≤ maxLen) (hr : Reads .u8 w a xs.length xs) (hx : ∀ x ∈ xs, x < 256) (hc : xs.length ≤ cap) (hm : cap ≤ 140737488351232) :
    Calls Try.prog 4 #[.agg #[.int .i64 v, .slice sa F.length sc], .slice a xs.length cap] w (Yes w) := by
  have HX := hid (boxS v sa F sc w)
  have hb0 := field.newB w (.cells #[.int .i64 v, .slice sa F.length sc] 24)
  have hf0 := hf.below hb0
  have hr0 := hr.below hb0
  have HR := hid (fun w' hb => ((Block.new w 24 [.int .i64 v, .slice sa F.length sc]).later (w' := w') hb).whole)
  have cG := great_any v sa sc F (w.alloc (.cells #[.int .i64 v, .slice sa F.length sc] 24)) hf0 hF
  have cA := fun w' => awake_any w'
  unfold Yes at cA ⊢
  by_cases hg : greatB (forms F) = true
  · rw [hg] at cG
    clear hf hf0 hr hr0 hx hg
    go_enter Try.func4, Try.ntmps4
    go_wp2_with (first
      | (go_at_call 6; ((with_reducible refine cG.mono ?_); rintro e w1 ⟨rfl, hb1⟩; obtain ⟨z0, z1, hbo1⟩ := HX.out _ hb1))
      | (go_at_call 7; ((with_reducible refine (cA _).mono ?_); rintro e w8 ⟨rfl, hb8⟩)))
    go_ret
    exact ⟨rfl, hbo1.trans (hb8.mono hbo1.size)⟩
  rw [Bool.not_eq_true] at hg
  rw [hg] at cG
  clear hg
  have cR := fun w' (hb : Below (w.alloc (.cells #[.int .i64 v, .slice sa F.length sc] 24)).heap.size (w.alloc (.cells #[.int .i64 v, .slice sa F.length sc] 24)) w') => refRight_any v sa sc F w' (hf0.below hb) hF
  obtain ⟨V, P, E, hP⟩ : ∃ V P E, parsed xs = (V, P, E) := ⟨_, _, _, rfl⟩
  have cB := fun w' (hb : Below (w.alloc (.cells #[.int .i64 v, .slice sa F.length sc] 24)).heap.size (w.alloc (.cells #[.int .i64 v, .slice sa F.length sc] 24)) w') => parse_fix (c := cap) (hr0.below hb) hx (by omega) (E := E) (E : Int) rfl hP
  have cC := fun w' (hb : Below (w.alloc (.cells #[.int .i64 v, .slice sa F.length sc] 24)).heap.size (w.alloc (.cells #[.int .i64 v, .slice sa F.length sc] 24)) w') => refParse_fix (c := cap) (hr0.below hb) hc hx (by omega) (E := E) (E : Int) rfl hP
  have hEQ : ∀ (j : Int), j = V → ∀ G G' : List Fm, forms G = P → forms G' = P → decide (V = j ∧ forms G = forms G') = true := fun j hj G G' hG hG' => by simp [hG, hG', hj]
  have HEQ := hid hEQ
  have hML : ∀ G : List Fm, forms G = P → G.length ≤ maxLen := fun G hG => by
    have h1 := parsed_len xs
    rw [hP] at h1
    simp only at h1
    rw [← hG, forms_length] at h1
    unfold maxLen; omega
  have HML := hid hML
  by_cases hR : Right v (forms F)
  · have cP := fun w' (hb : Below (w.alloc (.cells #[.int .i64 v, .slice sa F.length sc] 24)).heap.size (w.alloc (.cells #[.int .i64 v, .slice sa F.length sc] 24)) w') => print_yes v sa sc F w' (hf0.below hb) hR
    have cQ := fun w' (hb : Below (w.alloc (.cells #[.int .i64 v, .slice sa F.length sc] 24)).heap.size (w.alloc (.cells #[.int .i64 v, .slice sa F.length sc] 24)) w') => refPrint_any v sa sc F w' (hf0.below hb) hR
    rw [decide_eq_true hR] at cR
    generalize schemaB v (forms F) = Y at *
    clear hf hf0 hr hr0 hx hP hEQ hML hR
    go_enter Try.func4, Try.ntmps4
    go_wp2_with (first
      | (go_at_call 6; ((with_reducible refine cG.mono ?_); rintro e w1 ⟨rfl, hb1⟩; obtain ⟨z0, z1, hbo1⟩ := HX.out _ hb1))
      | (go_at_call 21; ((with_reducible refine (cP _ hb1).mono ?_); rintro e w2 ⟨u2, rfl, ho2, hb2⟩; have hB2 := hb1.trans (hb2.mono hb1.size); obtain ⟨z0, z1, hbo2⟩ := HX.out _ hB2; obtain ⟨a2, c2, rfl, _⟩ := ownsRow_slice ho2; have hrd2 := Reads.own ho2; clear ho2))
      | (go_at_call 18; ((with_reducible refine (cR _ hB2).mono ?_); rintro e w3 ⟨rfl, hb3⟩; have hB3 := hB2.trans (hb3.mono hB2.size))))
    refine plan.region (by kernel_rfl) ?_
    have hD3 : Below w3.heap.size w3 w3.drew := below_drewN (Below.refl _ _) 1
    have hB3d := hB3.trans (hD3.mono hB3.size)
    refine plan.Rest.first 0 _ (.slice a2 Y.length c2) rfl (by kernel_rfl) (by kernel_rfl) (by kernel_rfl) (by kernel_rfl) (fun w' hb' => (by kernel_rfl)) ?_
    refine plan.Rest.first 1 _ (.string (strOf Y)) rfl (by kernel_rfl) (by kernel_rfl) (by kernel_rfl) (by kernel_rfl) (fun w' hb' => plan.exec_convert (v := .slice a2 Y.length c2) rfl (by kernel_rfl) (((hrd2.below hb3).below (hD3.trans (hb'.mono hD3.size))).str (P := Try.prog) 39 5 Try.underlying39 Try.underlying5 c2 9 Try.underlying9)) ?_
    refine plan.Rest.first 2 _ (.agg #[.int .i64 v, .slice sa F.length sc]) rfl (by kernel_rfl) (by kernel_rfl) (by kernel_rfl) (by kernel_rfl) (fun w' hb' => exec_load_at (b := w.heap.size) (off := 0) rfl (by kernel_rfl) (HR.out _ (hB3d.trans (hb'.mono hB3d.size))) Try.underlying24 rfl info_sc.out) ?_
    refine plan.Rest.call 3 _ 22 #[.agg #[.int .i64 v, .slice sa F.length sc]] rfl (by kernel_rfl) (by kernel_rfl) (by kernel_rfl) ((cQ _ hB3d).mono ?_)
    rintro e w4 ⟨u4, rfl, ho4, hn4⟩
    obtain ⟨a4, c4, rfl, hrd4⟩ := own_reads ho4
    have hB4 := hB3d.trans (hn4.mono hB3d.size)
    refine ⟨_, rfl, hn4, ?_⟩
    refine plan.Rest.first 4 _ (.string (strOf Y)) rfl (by kernel_rfl) (by kernel_rfl) (by kernel_rfl) (by kernel_rfl) (fun w' hb' => plan.exec_convert (v := .slice a4 Y.length c4) rfl (by kernel_rfl) ((hrd4.below hb').str (P := Try.prog) 39 5 Try.underlying39 Try.underlying5 c4 9 Try.underlying9)) ?_
    refine plan.Rest.first 5 _ (.bool false) rfl (by kernel_rfl) (by kernel_rfl) (by kernel_rfl) (by kernel_rfl) (fun w' hb' => exec_neq_str (s := strOf Y) rfl (by kernel_rfl) (by kernel_rfl)) ?_
    refine plan.Rest.first 6 _ (.bool false) rfl (by kernel_rfl) (by kernel_rfl) (by kernel_rfl) (by kernel_rfl) (fun w' hb' => (by kernel_rfl)) ?_
    refine plan.Rest.first 7 _ (.int .i64 0) rfl (by kernel_rfl) (by kernel_rfl) (by kernel_rfl) (by kernel_rfl) (fun w' hb' => (by kernel_rfl)) ?_
    refine plan.Rest.first 8 _ (.bool false) rfl (by kernel_rfl) (by kernel_rfl) (by kernel_rfl) (by kernel_rfl) (fun w' hb' => (by kernel_rfl)) ?_
    refine plan.Rest.first 9 _ (.bool false) rfl (by kernel_rfl) (by kernel_rfl) (by kernel_rfl) (by kernel_rfl) (fun w' hb' => (by kernel_rfl)) ?_
    refine plan.Rest.done (by kernel_rfl) ?_
    walk_nrm
    go_wp2_with (first
      | (go_at_call 23; ((with_reducible refine (cB _ hB4).mono ?_); rintro e w5 ⟨a5, c5, F5, rfl, hF5, hm5, hb5⟩; have hB5 := hB4.trans (hb5.mono hB4.size); have hN5 := field.newB w5 (.cells #[.int .i64 V, .slice a5 F5.length c5] 24); have hB5' := hB5.trans (hN5.mono hB5.size); have hbl5 := Block.new w5 24 [.int .i64 V, .slice a5 F5.length c5]; have hm5' := hm5.below hN5; clear hm5))
      | (go_at_call 24; ((with_reducible refine (cC _ hB5').mono ?_); rintro e w6 ⟨a6, c6, F6, rfl, hF6, hm6, hb6⟩; have hB6 := hB5'.trans (hb6.mono hB5'.size); have hN6 := field.newB w6 (.cells #[.int .i64 V, .slice a6 F6.length c6] 24); have hB6' := hB6.trans (hN6.mono hB6.size); have hm6' := hm6.below hN6; have hbl6 := (hbl5.later hb6).later hN6; have y0 := hbl6.cell 0; have y1 := hbl6.cell 1; have cS := refSame_any V a5 c5 F5 V a6 c6 F6 _ ((hm5'.below hb6).below hN6) hm6' (HML.out F5 hF5) (HML.out F6 hF6); rw [HEQ.out V rfl F5 F6 hF5 hF6] at cS; clear hm6))
      | (go_at_call 20; ((with_reducible refine cS.mono ?_); rintro e w7 ⟨rfl, hb7⟩; have hB7 := hB6'.trans (hb7.mono hB6'.size)))
      | (go_at_call 7; ((with_reducible refine (cA _).mono ?_); rintro e w8 ⟨rfl, hb8⟩)))
    go_ret
    exact ⟨rfl, (HX.out _ (hB7.trans (hb8.mono hB7.size))).2.2⟩
  · have cN := fun w' (hb : Below (w.alloc (.cells #[.int .i64 v, .slice sa F.length sc] 24)).heap.size (w.alloc (.cells #[.int .i64 v, .slice sa F.length sc] 24)) w') => print_no v sa sc F w' (hf0.below hb) hF hR
    rw [decide_eq_false hR] at cR
    clear hf hf0 hr hr0 hx hP hEQ hML hR
    go_enter Try.func4, Try.ntmps4
    go_wp2_with (first
      | (go_at_call 6; ((with_reducible refine cG.mono ?_); rintro e w1 ⟨rfl, hb1⟩; obtain ⟨z0, z1, hbo1⟩ := HX.out _ hb1))
      | (go_at_call 21; ((with_reducible refine (cN _ hb1).mono ?_); rintro e w2 ⟨rfl, hb2⟩; have hB2 := hb1.trans (hb2.mono hb1.size); obtain ⟨z0, z1, hbo2⟩ := HX.out _ hB2))
      | (go_at_call 18; ((with_reducible refine (cR _ hB2).mono ?_); rintro e w3 ⟨rfl, hb3⟩; have hB4 := hB2.trans (hb3.mono hB2.size)))
      | (go_at_call 23; ((with_reducible refine (cB _ hB4).mono ?_); rintro e w5 ⟨a5, c5, F5, rfl, hF5, hm5, hb5⟩; have hB5 := hB4.trans (hb5.mono hB4.size); have hN5 := field.newB w5 (.cells #[.int .i64 V, .slice a5 F5.length c5] 24); have hB5' := hB5.trans (hN5.mono hB5.size); have hbl5 := Block.new w5 24 [.int .i64 V, .slice a5 F5.length c5]; have hm5' := hm5.below hN5; clear hm5))
      | (go_at_call 24; ((with_reducible refine (cC _ hB5').mono ?_); rintro e w6 ⟨a6, c6, F6, rfl, hF6, hm6, hb6⟩; have hB6 := hB5'.trans (hb6.mono hB5'.size); have hN6 := field.newB w6 (.cells #[.int .i64 V, .slice a6 F6.length c6] 24); have hB6' := hB6.trans (hN6.mono hB6.size); have hm6' := hm6.below hN6; have hbl6 := (hbl5.later hb6).later hN6; have y0 := hbl6.cell 0; have y1 := hbl6.cell 1; have cS := refSame_any V a5 c5 F5 V a6 c6 F6 _ ((hm5'.below hb6).below hN6) hm6' (HML.out F5 hF5) (HML.out F6 hF6); rw [HEQ.out V rfl F5 F6 hF5 hF6] at cS; clear hm6))
      | (go_at_call 20; ((with_reducible refine cS.mono ?_); rintro e w7 ⟨rfl, hb7⟩; have hB7 := hB6'.trans (hb7.mono hB6'.size)))
      | (go_at_call 7; ((with_reducible refine (cA _).mono ?_); rintro e w8 ⟨rfl, hb8⟩)))
    go_ret
    exact ⟨rfl, (HX.out _ (hB7.trans (hb8.mono hB7.size))).2.2⟩
theorem walk (p : Sc) (a : Option Addr) (len cap : Nat) (xs : List Nat) (w : World) (hp : p.Good w) (hr : Reads .u8 w a len xs) (hx : ∀ x ∈ xs, x < 256) (hc : len ≤ cap) (hm : cap * 1 ≤ 140737488351232) :
    Calls Try.prog 4 #[p.val, .slice a len cap] w (Yes w) := by
  obtain rfl := hr.1
  exact walk0 p.ver p.f p.fCap p.fL a cap xs w ⟨hp.rf, fun q hq => (hp.mf q hq).ok⟩ (Nat.le_trans hp.cf hp.df) hr hx hc (by omega)
end Go.Proofs.Ytacigmnnekphmaa.schemaBytes
/- SchemaBytes returns true for every schema and all bytes, and each argument reads afterwards as it read before. No condition. -/
namespace Go.Proofs.Ytacigmnnekphmaa.schemaBytes
open Go.ChangeShapes Go.WideShapes Go.ChangeAt Go.RowKit Go.Proofs.Ytacigmnnekphmaa.schema
open Go.ChangeMaps (open_string shut_string)
set_option linter.unusedVariables false
set_option maxRecDepth 100000 in
theorem lifted (os : Os) (started : os.Started) (H : Type) (enc : TypeId × Value → H) :
    ReturnsInHanded {} Try.checked os 4 .any (Rows.schemaBytesSpec.pre6 enc Try.prog Try.f4 Rows.schemaBytesRow.domain false) (Rows.schemaBytesSpec.post enc Try.prog Try.f4 false true false false) := by
  refine returnsInHanded_of_change_sized (C := Try.checked) own started (by kernel_rfl) Try.func4
    (ChangeSpec.witness6 (enc := enc) (C := Try.checked) false ⟨#[], #[.agg #[.int .i64 0, .slice none 0 0], .slice none 0 0], []⟩ 8 (by kernel_rfl) (by kernel_rfl) (by kernel_rfl) (by kernel_rfl)) ?_
  intro W base args ds gs before hval0 hW hcnd hsz0 _
  have hsz : (DataW.weightsEach Try.prog (Try.f4.params.toList ++ Rows.schemaBytesSpec.plain.varTypes Try.prog) (ds ++ gs)).all (· ≤ reachBytes) = true := hsz0
  clear hsz0
  have hval : ∀ (j : Nat) t v, Try.f4.params[j]? = some t → args[j]? = some v → Value.okWide Try.prog W .any base t v := hval0
  have hW' := hW
  obtain ⟨p, q, hA0, hV, rfl, hfz, hnd⟩ := hW
  have hA : DataW.TrodAll enc Try.prog W 0 (fun _ => true) true Try.f4.params.toList args.toList ds p := hA0
  rw [Try.params4] at hA hval hsz
  obtain ⟨v0, vs0, d0, ds0, p0, q0, hargs, rfl, rfl, h0, r0⟩ := trodAll_cons hA
  obtain ⟨v1, vs1, d1, ds1, p1, q1, rfl, rfl, rfl, h1, r1⟩ := trodAll_cons r0
  obtain ⟨rfl, rfl, rfl⟩ := trodAll_nil r1
  obtain rfl : args = #[v0, v1] := by cases args; simp_all
  obtain ⟨rfl, rfl⟩ := trodVars_none hV
  have k0 := h0
  have lt0 : ∀ x ∈ p0, x.block < W.heap.size := by obtain ⟨m, hm⟩ := k0; exact DataW.trod_lt m _ _ _ hm
  obtain ⟨pc0, fp0, rfl⟩ := open_Sc_arg Try.underlying24 (by kernel_rfl) (by kernel_rfl) (by kernel_rfl) fmRow (hval 0 24 v0 rfl rfl) h0
  obtain ⟨a1, len1, cap1, rfl⟩ := okWide_slice Try.underlying39 (hval 1 39 v1 rfl rfl)
  have k1 := h1
  have lt1 : ∀ x ∈ p1, x.block < W.heap.size := by obtain ⟨m, hm⟩ := k1; exact DataW.trod_lt m _ _ _ hm
  obtain ⟨xs1, rd1, xb1, lc1, rs1⟩ := open_uints (j := 1) Try.underlying39 Try.underlying5 (by kernel_rfl) (by kernel_rfl : Try.prog.bytesOf 5 = 1) wf_u8 h1 hsz rfl rfl
  clear hA0 hval0
  refine (walk pc0 a1 len1 cap1 xs1 W fp0 rd1 xb1 lc1 rs1).mono fun e W' ⟨he, bel⟩ => ?_
  subst he
  exact ⟨_, rfl, _, _, _, [], _, [], hW', trodAll_mk1 (shut_bool Try.underlying4 _), (trodAll_cons_mk (Below.trod laidOut (by kernel_rfl) (of_decide_eq_true (by kernel_rfl)) k0 bel lt0) (trodAll_cons_mk (Below.trod laidOut (by kernel_rfl) (of_decide_eq_true (by kernel_rfl)) k1 bel lt1) trodAll_mk0)), rfl, bel.frame _, fun h => by cases h⟩

theorem holds : Rows.SchemaBytesSaid :=
  OpenClaim.holds_of_wide 4 Try.f4 rfl rfl rfl rfl rfl rfl rfl ⟨rfl, rfl, rfl, rfl, rfl⟩ rfl rfl rfl rfl rfl (by kernel_rfl) Try.func4 (by kernel_rfl)
    (of_decide_eq_true (by kernel_rfl)) (by unfold Func.isWrapper; first | (rw [if_pos (by decide +kernel)]; kernel_rfl) | (rw [if_neg (by decide +kernel)]; exact ⟨rfl, rfl⟩))
    (fun os started H enc _ => lifted os started H enc)
#print axioms holds
end Go.Proofs.Ytacigmnnekphmaa.schemaBytes
