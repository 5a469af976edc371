/- Lemmas of the claim HStepBytes. Each says its own conditions. -/
import Derived.Test.YtpdnfiofjkbeiaaCmE
import Derived.Maps.AppendAt
import Derived.Test.YtpdnfiofjkbeiaaCmB
import Derived.Test.YtpdnfiofjkbeiaaCmO
import Derived.Test.YtpdnfiofjkbeiaaCmD
import Derived.Test.YtpdnfiofjkbeiaaCmC
import Derived.Test.YtpdnfiofjkbeiaaCmH
import Derived.Conc.WalkWords
import Derived.Test.YtpdnfiofjkbeiaaCmJ
import Derived.Test.YtpdnfiofjkbeiaaCmL
import Derived.Test.YtpdnfiofjkbeiaaCmG
import Derived.Test.YtpdnfiofjkbeiaaCmQ
/- Contracts of the reference's Count and Num, which write. No condition. -/
namespace Go.Proofs.Ytpdnfiofjkbeiaa.pen
open Go.RowKit Go.Proofs.Ytpdnfiofjkbeiaa.texts
set_option linter.unusedVariables false

set_option maxRecDepth 8000 in
theorem refCount_any (x : Nat) (hx : x < 18446744073709551616) (w : World) : Calls Try.prog 60 #[.int .u64 (x : Int)] w (Copies (vb x) w) := by
  obtain ⟨i0, hi, hz0, hz1, hz2⟩ := info_parts info5
  have hlen := vb_ten x hx
  obtain ⟨X, hX⟩ : ∃ X, Hid (vb x = X) := ⟨_, rfl⟩
  rw [hX.out] at hlen ⊢
  have HX : Hid (([] : List Nat) ++ vb x = X) := hX.out
  go_enter Try.func60, Try.ntmps60
  go_wp2
  go_loopw [0, 3] (fun u v wr => ∃ (y : Nat) (ys : List Nat), u = .int .u64 (y : Int) ∧ y < 18446744073709551616 ∧ wr.ownsRow w.heap.size 5 1 v ys.length (u8v ys) ∧ Below w.heap.size w wr ∧ Hid (ys ++ vb y = X))
    (fun u v _ => (intOf u).toNat)
  case atStart => exact ⟨x, [], rfl, hx, World.ownsRow_nil _ _ _ _, Below.refl _ _, HX⟩
  case round =>
    obtain ⟨y, ys, rfl, hy, ho, hb, he⟩ := hrel
    obtain ⟨a, c, rfl, hac⟩ := ownsRow_slice ho
    have hl : ys.length + (vb y).length = X.length := by rw [← he.out, List.length_append]
    have hpos := vb_pos y
    have HO := hid ho
    have HB := hid hb
    have hsz := hb.size
    clear ho hb
    by_cases h128 : y < 128
    · have hq : ¬ ((127 : Int) < y) := by omega
      have hE : Hid (ys ++ [y] = X) := by show _ = _; rw [← he.out, vb_small h128]
      have hys : ys.length + 1 ≤ 10 := by omega
      clear hl hpos he
      go_wp2_with (at_builtin; refine wpList_append_from rfl _ _ 35 rfl w.heap.size 5 i0 (.int .u8 0) 1 Try.underlying35 hi hz0 hz1 hz2 rfl _ ys.length (u8v ys) rfl (ownsRow_heap HO.out (fun g hg => Below.heap_alloc wr _ g (World.ownsRow.lt HO.out g hg).2)) (some ⟨wr.heap.size, 0, none⟩) 1 1 [.int .u8 (y : Int)] rfl rfl (.inr ⟨_, rfl, one_new _ _ _⟩) (one_cell rfl) (by unfold maxLen; omega) (by omega) (by simp; omega) ?_)
      intro v' w2 ho2 hg2
      have hb2 : Below w.heap.size w w2 := (HB.out.alloc hsz _).grown hg2 (by simp; omega) (fun k hk => (World.ownsRow.lt HO.out k hk).1)
      have ho3 : w2.ownsRow w.heap.size 5 1 v' X.length (u8v X) := by rw [← hE.out, u8v_append, List.length_append]; exact ho2
      have HO2 := hid ho3
      have HB2 := hid hb2
      clear ho2 hg2 hb2 ho3 HO
      go_wp2
      go_ret
      exact ⟨_, rfl, HO2.out, HB2.out⟩
    · have hq : (127 : Int) < y := by omega
      have hE : Hid ((ys ++ [128 + y % 128]) ++ vb (y / 128) = X) := by show _ = _; rw [← he.out, vb_big h128]; simp
      have hys : ys.length + 1 ≤ 10 := by omega
      clear hl hpos he
      go_wp2_with (at_builtin; refine wpList_append_from rfl _ _ 35 rfl w.heap.size 5 i0 (.int .u8 0) 1 Try.underlying35 hi hz0 hz1 hz2 rfl _ ys.length (u8v ys) rfl (ownsRow_heap HO.out (fun g hg => Below.heap_alloc wr _ g (World.ownsRow.lt HO.out g hg).2)) (some ⟨wr.heap.size, 0, none⟩) 1 1 [_] rfl rfl (.inr ⟨_, rfl, one_new _ _ _⟩) (one_cell (by rfl)) (by unfold maxLen; omega) (by omega) (by simp; omega) ?_)
      intro v' w2 ho2 hg2
      have hb2 : Below w.heap.size w w2 := (HB.out.alloc hsz _).grown hg2 (by simp; omega) (fun k hk => (World.ownsRow.lt HO.out k hk).1)
      have ho3 : w2.ownsRow w.heap.size 5 1 v' (ys ++ [128 + y % 128]).length (u8v (ys ++ [128 + y % 128])) := by
        rw [u8v_append, List.length_append, show u8v [128 + y % 128] = [.int .u8 (128 + (y : Int) % 128)] from congrArg (fun z => [Value.int .u8 z]) (by omega)]; exact ho2
      have HO2 := hid ho3
      have HB2 := hid hb2
      clear ho2 hg2 hb2 ho3 HO
      go_wp2
      exact ⟨⟨y / 128, ys ++ [128 + y % 128], by go_num, by omega, HO2.out, HB2.out, hE⟩, by simp [intOf]; omega⟩

theorem refNum_any (n : Int) (h1 : -9223372036854775808 ≤ n) (h2 : n ≤ 9223372036854775807) (w : World) : Calls Try.prog 61 #[.int .i64 n] w (Copies (vb (zig n)) w) := by
  have c1 := refCount_any (zig n) (zig_lt n h1 h2) w
  obtain ⟨X, hX⟩ : ∃ X, Hid (vb (zig n) = X) := ⟨_, rfl⟩
  rw [hX.out] at c1 ⊢
  by_cases h0 : n < 0
  · have hz : (zig n : Int) = 2 * (-n - 1) + 1 := by unfold zig; rw [if_pos h0]; omega
    have c2 : ∀ z : Int, z = 2 * (-n - 1) + 1 → Calls Try.prog 60 #[.int .u64 z] w (Copies X w) := by
      rintro z rfl; rw [← hz]; exact c1
    clear hz c1 hX
    go_enter Try.func61, Try.ntmps61
    go_wp2_with (go_at_call 60; (with_reducible refine (c2 _ (by omega)).mono ?_); clear c2; rintro e w1 ⟨v, rfl, ho, hb⟩)
    go_ret
    exact ⟨_, rfl, ho, hb⟩
  · have hz : (zig n : Int) = 2 * n := by unfold zig; rw [if_neg h0]; omega
    have c2 : ∀ z : Int, z = 2 * n → Calls Try.prog 60 #[.int .u64 z] w (Copies X w) := by
      rintro z rfl; rw [← hz]; exact c1
    clear hz c1 hX
    go_enter Try.func61, Try.ntmps61
    go_wp2_with (go_at_call 60; (with_reducible refine (c2 _ (by omega)).mono ?_); clear c2; rintro e w1 ⟨v, rfl, ho, hb⟩)
    go_ret
    exact ⟨_, rfl, ho, hb⟩
/-- a row that was just built -/
theorem ownsRow_built (w : World) (xs : List Nat) (m : Nat) (hm : xs.length = m) (hl : m ≤ 140737488355328) (vals : Array Value) (hv : vals = (u8v xs).toArray) :
    (w.alloc (.cells vals 5)).ownsRow w.heap.size 5 1 (.slice (some ⟨w.heap.size, 0, none⟩) m m) xs.length (u8v xs) := by
  subst hm hv
  exact ⟨by rw [u8v_length]; omega, .inr ⟨w.heap.size, xs.length, (u8v xs).toArray, rfl, Nat.le_refl _, heap_alloc_last w _, Nat.le_refl _, by unfold maxLen; omega, by simp [u8v_length], by rw [List.take_of_length_le (by simp [u8v_length])]⟩⟩
end Go.Proofs.Ytpdnfiofjkbeiaa.pen
/- One append of bytes onto a row of the call's own, run by itself. No condition. -/
namespace Go.Proofs.Ytpdnfiofjkbeiaa
open Go Go.RowKit
set_option linter.unusedVariables false

theorem exec_append_u8 {o : Oper} {act : Act} {w : World} {x y : Operand} {v : Value} {base n m c : Nat} {ap : Option Addr} {ys news : List Nat}
    (ho : o.op = .call { callee := .builtin .append, args := #[x, y], argTypes := #[35, 35] }) (hx : act.eval x = v) (hy : act.eval y = .slice ap m c)
    (hown : w.ownsRow base 5 1 v n (ys.map fun x : Nat => Value.int .u8 (x : Int))) (hr : Reads .u8 w ap m news) (hbase : base ≤ w.heap.size) (hlen : n + m ≤ 140737488355328) :
    ∃ z w', (execOp act.eval o).run Try.prog w = .ok (.value z) w' ∧ w'.ownsRow base 5 1 z (n + m) ((ys ++ news).map fun x : Nat => Value.int .u8 (x : Int)) ∧ w.grownBy w' v.ownBlock ∧ (z.ownBlock = v.ownBlock ∨ z.ownBlock = some w.heap.size) := by
  have hinfo : (Try.prog.info? 5).map (fun i => (i.zero, i.size, i.bytes)) = some (some (.int .u8 0), 1, 1) := by kernel_rfl
  obtain ⟨i0, hi, hz0, hz1, hz2⟩ := info_parts hinfo
  by_cases hm : m = 0
  · subst hm
    obtain rfl : news = [] := List.eq_nil_of_length_eq_zero hr.1
    obtain ⟨bp, cp, rfl, hcp⟩ := ownsRow_slice hown
    have hsrc : Src Try.prog i0.size 35 (.slice ap 0 c) 0 [] w := by
      cases ap with
      | none => exact Src.ofNil w Try.underlying35 c
      | some ad => exact Src.ofSlice w Try.underlying35 ad 0 c [] (by simp) (by simp) (by simp)
    have hrun := run_append_nothing w 35 35 o.type 5 i0 Try.underlying35 hi bp n cp hcp _ hsrc
    refine ⟨.slice bp n cp, w, ?_, by simpa using hown, grown_refl _ _, .inl rfl⟩
    unfold execOp
    simp [ho, resolve, invoke, builtin, hx, hy, hrun, Result.andThen]
  · obtain ⟨b, off, rfl, hb, hc⟩ := hr.at (i := 0) (by omega)
    obtain ⟨z, w', h1, h2, h3, _, h4⟩ := run_append_own_at w base 35 o.type 5 i0 (.int .u8 0) 1 1 Try.underlying35 hi hz0 hz1 hz2 rfl (by decide) v n _ hown ⟨b, off, none⟩ m c (news.map fun x : Nat => Value.int .u8 (x : Int)) (by simp [hr.1])
      (fun j u hj => by
        have hl : j < news.length := by have := (List.getElem?_eq_some_iff.1 hj).1; simpa using this
        rw [Addr.add_lit, hc j (by have := hr.1; omega)]
        rw [List.getElem?_map, List.getElem?_eq_getElem hl] at hj
        rw [← hj, List.getD_eq_getElem?_getD, List.getElem?_eq_getElem hl]; rfl)
      (fun u hu => by obtain ⟨x, _, rfl⟩ := List.mem_map.1 hu; rfl) (by unfold maxLen; omega) (by omega) hbase
    refine ⟨z, w', ?_, by rw [List.map_append]; exact h2, h3, h4⟩
    unfold execOp
    simp [ho, resolve, invoke, builtin, hx, hy, h1, Result.andThen]
end Go.Proofs.Ytpdnfiofjkbeiaa
/- A row of bytes that a call gathers: appended to, by itself or in text order; numbers as digits. No condition but rows shorter than 2^46 bytes. -/
namespace Go.Proofs.Ytpdnfiofjkbeiaa.schema
open Go.RowKit Go.Proofs.Ytpdnfiofjkbeiaa.pen
set_option linter.unusedVariables false

/-- u is a row of the call's own that holds xs; below block B all is as in W0 -/
def RowS (B : Nat) (W0 : World) (xs : List Nat) (u : Value) (w : World) : Prop := w.ownsRow B 5 1 u xs.length (u8v xs) ∧ Below B W0 w ∧ B ≤ w.heap.size
theorem RowS.later {B : Nat} {W0 : World} {xs : List Nat} {u : Value} {w w' : World} (h : RowS B W0 xs u w) (hb : Below w.heap.size w w') : RowS B W0 xs u w' :=
  ⟨ownsRow_later h.1 hb, h.2.1.trans (hb.mono h.2.2), Nat.le_trans h.2.2 hb.size⟩
/-- what a call has copied, as such a row -/
theorem RowS.of {B : Nat} {W0 : World} {xs : List Nat} {u : Value} {w w' : World} (hb0 : Below B W0 w) (hB : B ≤ w.heap.size) (ho : w'.ownsRow w.heap.size 5 1 u xs.length (u8v xs)) (hb : Below w.heap.size w w') : RowS B W0 xs u w' := by
  refine ⟨⟨ho.1, ?_⟩, hb0.trans (hb.mono hB), Nat.le_trans hB hb.size⟩
  rcases ho.2 with h0 | ⟨g, cap, cur, hv, hg, hr⟩
  · exact .inl h0
  · exact .inr ⟨g, cap, cur, hv, Nat.le_trans hB hg, hr⟩
/-- a row of another call's, read -/
theorem own_reads {w : World} {B n : Nat} {u : Value} {ys : List Nat} (h : w.ownsRow B 5 1 u n (u8v ys)) : ∃ a c, u = .slice a n c ∧ Reads .u8 w a n ys := by
  obtain ⟨a, c, rfl, _⟩ := ownsRow_slice h
  exact ⟨a, c, rfl, Reads.own h⟩
/-- what is no row of bytes stays where a row of bytes grows -/
theorem grown_block {w w' : World} {B n : Nat} {u : Value} {xs : List Value} (ho : w.ownsRow B 5 1 u n xs) (hg : w.grownBy w' u.ownBlock) {k : Nat} {t : TypeId} {cs : List Value} (hB : Block w k t cs) (hT : t ≠ 5) : Block w' k t cs := by
  refine (hg.block k hB.lt ?_).trans hB
  intro e
  rcases ho.2 with ⟨hv, _⟩ | ⟨g, cap, cur, hv, _, hh, _⟩
  · rw [hv] at e; simp [Value.ownBlock] at e
  · rw [hv] at e
    simp [Value.ownBlock] at e
    subst e
    unfold Block at hB
    rw [hh] at hB
    exact hT ((Obj.cells.inj (Option.some.inj hB)).2.1.symm)
/-- every block that is no row of bytes stays -/
def Stay (w w' : World) : Prop := ∀ k t cs, Block w k t cs → t ≠ 5 → Block w' k t cs
theorem exec_append_row {o : Oper} {act : Act} {w : World} {x y : Operand} {u : Value} {B m c : Nat} {ap : Option Addr} {xs ys : List Nat} {W0 : World}
    (ho : o.op = .call { callee := .builtin .append, args := #[x, y], argTypes := #[35, 35] }) (hx : act.eval x = u) (hy : act.eval y = .slice ap m c)
    (hR : RowS B W0 xs u w) (hr : Reads .u8 w ap m ys) (hl : xs.length + m ≤ 1000000) :
    ∃ z w', (execOp act.eval o).run Try.prog w = .ok (.value z) w' ∧ RowS B W0 (xs ++ ys) z w' ∧ Stay w w' := by
  obtain ⟨z, w', h1, h2, h3, h4⟩ := exec_append_u8 ho hx hy hR.1 hr hR.2.2 (by omega)
  refine ⟨z, w', h1, ⟨?_, hR.2.1.grown h3 hR.2.2 (fun k hk => (World.ownsRow.lt hR.1 k hk).1), Nat.le_trans hR.2.2 h3.size⟩, fun k t cs hB hT => grown_block hR.1 h3 hB hT⟩
  have hl2 := hr.1
  rw [show (xs ++ ys).length = xs.length + m by rw [List.length_append, hl2]]
  exact h2
theorem wpList_append_row {w : World} {ops : Array Oper} {rest : List Oper} {o : Oper} {a : Act} {Q : Exit → Act → World → Prop} (hgd : o.guard = none) (s x : Operand)
    (ho : o.op = .call { callee := .builtin .append, args := #[s, x], argTypes := #[35, 35] }) {u : Value} {B m c : Nat} {ap : Option Addr} {xs ys : List Nat} {W0 : World}
    (hs : a.eval s = u) (hx : a.eval x = .slice ap m c) (hR : RowS B W0 xs u w) (hr : Reads .u8 w ap m ys) (hl : xs.length + m ≤ 1000000)
    (h : ∀ z w', RowS B W0 (xs ++ ys) z w' → Stay w w' → wpList Try.prog ops Q rest (a.put o.dst z) w') : wpList Try.prog ops Q (o :: rest) a w := by
  obtain ⟨z, w', h1, h2, h3⟩ := exec_append_row ho hs hx hR hr hl
  refine wpList_plain hgd fun K hK => ?_
  unfold Oper.wp
  rw [h1]
  exact hK _ _ (h z w' h2 h3)
theorem plan_append {md : Region.Mode} {Q : Exit → Act → World → Prop} {l : List Oper} {S : World → Prop} {f : Nat} {listed : Array Bool} {a : Act} {w : World} (i : Nat) {o : Oper} {x y : Operand} {u : Value} {B m c : Nat} {ap : Option Addr} {xs ys : List Nat} {W0 : World}
    (hR : RowS B W0 xs u w) (hr : Reads .u8 w ap m ys) (hi : l[i]? = some o) (hg : o.guard = none) (hrd : Region.ready md l.toArray listed = [i])
    (ho : o.op = .call { callee := .builtin .append, args := #[x, y], argTypes := #[35, 35] }) (hx : a.eval x = u) (hy : a.eval y = .slice ap m c) (hl : xs.length + m ≤ 1000000)
    (h : ∀ z w', RowS B W0 (xs ++ ys) z w' → Stay w w' → S w' ∧ wpAnyH Try.prog md l.toArray (NoPanic Q) S f (listed.setIfInBounds i true) (a.put o.dst z) w') :
    wpAnyH Try.prog md l.toArray (NoPanic Q) S (f + 1) listed a w := by
  obtain ⟨z, w', h1, h2, h3⟩ := exec_append_row ho hx hy hR hr hl
  obtain ⟨h4, h5⟩ := h z w' h2 h3
  exact plan.oneS i o z hi hg hrd h1 h4 h5
theorem exec_u64 {o : Oper} {a : Act} {w : World} {x : Operand} {n : Int} (ho : o.op = .convert 3 90 x) (hx : a.eval x = .int .i64 n) (h0 : 0 ≤ n) (hn : n ≤ 9223372036854775807) :
    (execOp a.eval o).run Try.prog w = .ok (.value (.int .u64 n)) w := by
  unfold execOp
  rw [ho]
  simp only [hx]
  go_simp
  show IntKind.u64.wrap n = n
  simp only [IntKind.wrap, IntKind.bits, IntKind.signed]
  simp
  omega
theorem refCount_int (n : Int) (h0 : 0 ≤ n) (hn : n ≤ 9223372036854775807) (w : World) : Calls Try.prog 60 #[.int .u64 n] w (Copies (vb n.toNat) w) := by
  obtain ⟨m, rfl⟩ := Int.eq_ofNat_of_zero_le h0
  exact refCount_any m (by omega) w
end Go.Proofs.Ytpdnfiofjkbeiaa.schema
/- Contracts of the reference of layer 15 (step): count, typed. No condition but numbers from 0 on. -/
namespace Go.Proofs.Ytpdnfiofjkbeiaa.step
open Go.RowKit Go.Proofs.Ytpdnfiofjkbeiaa.pen
open Go.Proofs.Ytpdnfiofjkbeiaa.schema (RowS RowS.of RowS.later own_reads plan_append wpList_append_row refCount_int exec_cell_int own_low below_drew)
set_option linter.unusedVariables false

theorem count_any (n : Int) (h0 : 0 ≤ n) (hn : n ≤ 9223372036854775807) (w : World) : Calls Try.prog 37 #[.int .i64 n] w (Copies (vb n.toNat) w) := by
  have c := refCount_int n h0 hn w
  have hu : IntKind.u64.wrap n = n := by
    simp only [IntKind.wrap, IntKind.bits, IntKind.signed]
    simp
    omega
  unfold Copies at c ⊢
  generalize vb n.toNat = X at *
  go_enter Try.func37, Try.ntmps37
  go_wp2_with (go_at_call 60; ((with_reducible refine c.mono ?_); rintro e w1 ⟨v, rfl, ho, hb⟩; have HO := hid ho; have HB := hid hb; clear ho hb))
  go_ret
  exact ⟨_, rfl, HO.out, HB.out⟩
set_option maxHeartbeats 1600000 in
theorem typed_any (p : field.Fd) (hr : FieldOk p) (w : World) : Calls Try.prog 62 #[.agg #[.int .i64 p.id, .int .i64 p.kind, .int .i64 p.lo, .int .i64 p.hi, .int .i64 p.most]] w (Copies (fieldA p) w) := by
  obtain ⟨⟨i0, i1⟩, ⟨k0, k1⟩, ⟨a0, a1⟩, ⟨b0, b1⟩, m0, m1⟩ := hr
  have HFV := field.five p w
  have HFB := field.belowF p w
  have l1 := vb_ten p.id.toNat (by omega)
  have l2 := vb_ten p.kind.toNat (by omega)
  have l3 := vb_ten (zig p.lo) (zig_lt _ (by omega) (by omega))
  have l4 := vb_ten (zig p.hi) (zig_lt _ (by omega) (by omega))
  have l5 := vb_ten p.most.toNat (by omega)
  have hfb : fieldA p = vb p.id.toNat ++ vb p.kind.toNat ++ vb (zig p.lo) ++ vb (zig p.hi) ++ vb p.most.toNat := rfl
  rw [hfb]
  clear hfb
  obtain ⟨i, k, lw, hi, m⟩ := p
  simp only at *
  have hbs : w.heap.size ≤ (w.alloc (.cells #[.int .i64 i, .int .i64 k, .int .i64 lw, .int .i64 hi, .int .i64 m] 23)).heap.size := by simp
  obtain ⟨W0, hW0⟩ : ∃ x, (w.alloc (.cells #[.int .i64 i, .int .i64 k, .int .i64 lw, .int .i64 hi, .int .i64 m] 23)) = x := ⟨_, rfl⟩
  have HW0 := hid hW0
  rw [hW0] at HFV HFB hbs
  clear hW0
  obtain ⟨B, hB⟩ : ∃ B, W0.heap.size = B := ⟨_, rfl⟩
  rw [hB] at HFV HFB hbs
  have HZ := hid HFV
  have HWB := hid HFB
  have HBL := hid hbs
  have HBS : Hid (B ≤ W0.drew.heap.size) := hid (Nat.le_of_eq hB.symm)
  clear HFV HFB hbs hB
  unfold Copies
  go_enter Try.func62, Try.ntmps62
  go_wp2
  rw [HW0.out]
  refine plan.regionS (S := fun w' => Below B W0 w') (by kernel_rfl) ?_
  have hS : Below B W0 W0.drew := below_drew (Below.refl _ _)
  have hS2 : B ≤ W0.drew.heap.size := HBS.out
  refine plan.firstS 0 _ (.pointer (some ⟨w.heap.size, 0, none⟩)) rfl (by kernel_rfl) (by kernel_rfl) (by kernel_rfl) (by kernel_rfl) (fun w' hS' => (by kernel_rfl)) hS ?_
  refine plan.firstS 1 _ (.int .i64 i) rfl (by kernel_rfl) (by kernel_rfl) (by kernel_rfl) (by kernel_rfl) (fun w' hS' => exec_cell_int (ad := ⟨w.heap.size, 0, none⟩) rfl (by kernel_rfl) (HZ.out _ hS').1 Try.isAgg3) hS ?_
  refine plan.firstS 3 _ (.pointer (some ⟨w.heap.size, 1, none⟩)) rfl (by kernel_rfl) (by kernel_rfl) (by kernel_rfl) (by kernel_rfl) (fun w' hS' => (by kernel_rfl)) hS ?_
  refine plan.firstS 4 _ (.int .i64 k) rfl (by kernel_rfl) (by kernel_rfl) (by kernel_rfl) (by kernel_rfl) (fun w' hS' => exec_cell_int (ad := ⟨w.heap.size, 1, none⟩) rfl (by kernel_rfl) (HZ.out _ hS').2.1 Try.isAgg3) hS ?_
  refine plan.callS 2 _ 37 #[.int .i64 i] rfl (by kernel_rfl) (by kernel_rfl) (by kernel_rfl) ((count_any i (by omega) (by omega) W0.drew).mono ?_)
  rintro e W1 ⟨u1, rfl, ho1, hb1⟩
  have hR1 := RowS.of hS hS2 ho1 hb1
  have hS2 := hR1.2.2
  have hS := hR1.2.1
  obtain ⟨a1, c1, rfl, hq1⟩ := own_reads hR1.1
  refine ⟨_, rfl, hS, ?_⟩
  refine plan.callS 5 _ 37 #[.int .i64 k] rfl (by kernel_rfl) (by kernel_rfl) (by kernel_rfl) ((count_any k (by omega) (by omega) W1).mono ?_)
  rintro e W2 ⟨u2, rfl, ho2, hb2⟩
  have hR2 := RowS.of hS hS2 ho2 hb2
  have hS2 := hR2.2.2
  have hS := hR2.2.1
  have hR1 := hR1.later hb2
  obtain ⟨a2, c2, rfl, hq2⟩ := own_reads hR2.1
  refine ⟨_, rfl, hS, ?_⟩
  refine plan_append (c := c2) 6 hR1 hq2 rfl rfl (by kernel_rfl) rfl (by kernel_rfl) (by kernel_rfl) (by (try simp only [List.length_append]); omega) (fun z3 W3 hZ3 hK3 => ⟨hZ3.2.1, ?_⟩)
  have hS := hZ3.2.1
  have hS2 := hZ3.2.2
  refine plan.oneS 7 _ (z3) rfl rfl (by kernel_rfl) (by kernel_rfl) hS ?_
  refine plan.doneS (by kernel_rfl) ?_
  walk_nrm
  go_wp2
  have hZd := hZ3.later (w' := W3.drew) (below_drew (Below.refl _ _))
  have hS := hZd.2.1
  have hS2 := hZd.2.2
  refine plan.regionS (S := fun w' => Below B W0 w') (by kernel_rfl) ?_
  refine plan.firstS 0 _ (z3) rfl (by kernel_rfl) (by kernel_rfl) (by kernel_rfl) (by kernel_rfl) (fun w' hS' => (by kernel_rfl)) hS ?_
  refine plan.firstS 1 _ (.pointer (some ⟨w.heap.size, 2, none⟩)) rfl (by kernel_rfl) (by kernel_rfl) (by kernel_rfl) (by kernel_rfl) (fun w' hS' => (by kernel_rfl)) hS ?_
  refine plan.firstS 2 _ (.int .i64 lw) rfl (by kernel_rfl) (by kernel_rfl) (by kernel_rfl) (by kernel_rfl) (fun w' hS' => exec_cell_int (ad := ⟨w.heap.size, 2, none⟩) rfl (by kernel_rfl) (HZ.out _ hS').2.2.1 Try.isAgg3) hS ?_
  refine plan.firstS 5 _ (.pointer (some ⟨w.heap.size, 3, none⟩)) rfl (by kernel_rfl) (by kernel_rfl) (by kernel_rfl) (by kernel_rfl) (fun w' hS' => (by kernel_rfl)) hS ?_
  refine plan.firstS 6 _ (.int .i64 hi) rfl (by kernel_rfl) (by kernel_rfl) (by kernel_rfl) (by kernel_rfl) (fun w' hS' => exec_cell_int (ad := ⟨w.heap.size, 3, none⟩) rfl (by kernel_rfl) (HZ.out _ hS').2.2.2.1 Try.isAgg3) hS ?_
  refine plan.callS 3 _ 61 #[.int .i64 lw] rfl (by kernel_rfl) (by kernel_rfl) (by kernel_rfl) ((refNum_any lw (by omega) (by omega) W3.drew).mono ?_)
  rintro e W1 ⟨u1, rfl, ho1, hb1⟩
  have hR1 := RowS.of hS hS2 ho1 hb1
  have hS2 := hR1.2.2
  have hS := hR1.2.1
  have hZd := hZd.later hb1
  obtain ⟨a1, c1, rfl, hq1⟩ := own_reads hR1.1
  refine ⟨_, rfl, hS, ?_⟩
  refine plan_append (c := c1) 4 hZd hq1 rfl rfl (by kernel_rfl) rfl (by kernel_rfl) (by kernel_rfl) (by (try simp only [List.length_append]); omega) (fun z2 W2 hZ2 hK2 => ⟨hZ2.2.1, ?_⟩)
  have hS := hZ2.2.1
  have hS2 := hZ2.2.2
  refine plan.callS 7 _ 61 #[.int .i64 hi] rfl (by kernel_rfl) (by kernel_rfl) (by kernel_rfl) ((refNum_any hi (by omega) (by omega) W2).mono ?_)
  rintro e W3 ⟨u3, rfl, ho3, hb3⟩
  have hR3 := RowS.of hS hS2 ho3 hb3
  have hS2 := hR3.2.2
  have hS := hR3.2.1
  have hZ2 := hZ2.later hb3
  obtain ⟨a3, c3, rfl, hq3⟩ := own_reads hR3.1
  refine ⟨_, rfl, hS, ?_⟩
  refine plan_append (c := c3) 8 hZ2 hq3 rfl rfl (by kernel_rfl) rfl (by kernel_rfl) (by kernel_rfl) (by (try simp only [List.length_append]); omega) (fun z4 W4 hZ4 hK4 => ⟨hZ4.2.1, ?_⟩)
  have hS := hZ4.2.1
  have hS2 := hZ4.2.2
  refine plan.oneS 9 _ (z4) rfl rfl (by kernel_rfl) (by kernel_rfl) hS ?_
  refine plan.doneS (by kernel_rfl) ?_
  walk_nrm
  have z4 := (HZ.out _ hZ4.2.1).2.2.2.2
  have cm := fun w' => count_any m (by omega) (by omega) w'
  go_wp2_with (first
    | (go_at_call 37; ((with_reducible refine (cm _).mono ?_); rintro e w5 ⟨u5, rfl, ho5, hb5⟩; have hR5 := RowS.of hZ4.2.1 hZ4.2.2 ho5 hb5; have hZ5 := hZ4.later hb5; obtain ⟨a5, c5, rfl, hq5⟩ := own_reads hR5.1))
    | (at_builtin; refine wpList_append_row rfl (.tmp 20) (.tmp 23) rfl rfl rfl hZ5 hq5 (by simp only [List.length_append]; omega) ?_; intro z6 w6 hZ6 _))
  go_ret
  have ho := own_low hZ6.1 HBL.out
  exact ⟨z6, rfl, by simpa only [List.append_assoc] using ho, HWB.out _ hZ6.2.1⟩
end Go.Proofs.Ytpdnfiofjkbeiaa.step
/- Contract of the reference's Text, which writes. No condition but a text of at most 2^46 bytes. -/
namespace Go.Proofs.Ytpdnfiofjkbeiaa.pen
open Go.RowKit Go.Proofs.Ytpdnfiofjkbeiaa.texts
set_option linter.unusedVariables false
theorem refText_any (s : List UInt8) (hs : s.length ≤ 70368744177664) (w : World) : Calls Try.prog 63 #[.string (strL s)] w (Copies (vb s.length ++ nums s) w) := by
  obtain ⟨i0, hi, hz0, hz1, hz2⟩ := info_parts info5
  have c1 : Calls Try.prog 60 #[.int .u64 ((strL s).size : Int)] w (Copies (vb s.length) w) := by
    rw [strL_size]; exact refCount_any s.length (by omega) w
  have hl := vb_ten s.length (by omega)
  have hcv : Hid (∀ w1 : World, (convert 9 35 (.string (strL s))).run Try.prog w1 = .ok (.slice (some ⟨w1.heap.size, 0, none⟩) (strL s).size (grownCap w1 (strL s).size 0 5)) (Lib.bytesWorld w1 5 (strL s))) :=
    fun w1 => Lib.run_convert_string_bytes w1 _ _ _ _ Try.underlying9 Try.underlying35 Try.underlying5
  have hnw : Hid (∀ w1 : World, (strL s).size = 0 ∨ ∃ ad, (some ⟨w1.heap.size, 0, none⟩ : Option Addr) = some ad ∧ ∀ j u, (u8v (nums s))[j]? = some u → (Lib.bytesWorld w1 5 (strL s)).cell? (ad.add j) = some u) := fun w1 => by
    refine Reads.news (xs := nums s) ⟨by rw [nums_len, strL_size], .inr ⟨_, _, rfl, by rw [Lib.bytesWorld_size]; omega, fun i hi => ?_⟩⟩
    rw [strL_size] at hi
    rw [Nat.zero_add, Lib.bytesWorld_cell _ _ _ _ (by rw [strL_size]; exact hi), strL_data]
    simp [nums, List.getD_eq_getElem?_getD, List.getElem?_eq_getElem hi]
  have hun : Hid ((u8v (nums s)).length = (strL s).size) := by show _ = _; rw [u8v_length, nums_len, strL_size]
  have hsz : (strL s).size ≤ 70368744177664 := by rw [strL_size]; exact hs
  obtain ⟨S, hS⟩ : ∃ S, Hid (strL s = S) := ⟨_, rfl⟩
  obtain ⟨V, hV⟩ : ∃ V, Hid (vb s.length = V) := ⟨_, rfl⟩
  rw [hS.out] at c1 hcv hnw hun hsz ⊢
  rw [hV.out] at c1 hl ⊢
  have HL := hid hl
  clear hl
  go_enter Try.func63, Try.ntmps63
  go_wp2_with (first
    | (go_at_call 60; (with_reducible refine c1.mono ?_); clear c1; rintro e w1 ⟨v, rfl, ho, hb⟩; obtain ⟨a1, k1, rfl, _⟩ := ownsRow_slice ho; have hc1 := hcv.out w1; have HO := hid ho; have HB := hid hb; clear ho hb)
    | (at_builtin; refine wpList_append_from rfl _ _ 35 rfl w.heap.size 5 i0 (.int .u8 0) 1 Try.underlying35 hi hz0 hz1 hz2 rfl (.slice a1 V.length k1) V.length (u8v V) rfl (ownsRow_heap HO.out (fun g hg => Lib.bytesWorld_at_old w1 _ S g (World.ownsRow.lt HO.out g hg).2)) (some ⟨w1.heap.size, 0, none⟩) S.size _ (u8v (nums s)) rfl hun.out (hnw.out w1) (u8v_one _) (by have := HL.out; unfold maxLen; omega) (by have := HL.out; omega) (by rw [Lib.bytesWorld_size]; have := HB.out.size; omega) ?_))
  intro v' w2 ho2 hg2
  have hbw : Below w.heap.size w (Lib.bytesWorld w1 5 S) := HB.out.trans ⟨rfl, rfl, rfl, by rw [Lib.bytesWorld_size]; omega, fun k hk => Lib.bytesWorld_at_old w1 _ _ k (Nat.lt_of_lt_of_le hk HB.out.size)⟩
  have hb2 : Below w.heap.size w w2 := hbw.grown hg2 hbw.size (fun k hk => (World.ownsRow.lt HO.out k hk).1)
  have ho3 : w2.ownsRow w.heap.size 5 1 v' (V ++ nums s).length (u8v (V ++ nums s)) := by
    rw [u8v_append, List.length_append, ← u8v_length (nums s), hun.out]; exact ho2
  have HO2 := hid ho3
  have HB2 := hid hb2
  clear ho2 hg2 hb2 ho3 HO hbw hc1 hnw hun
  go_wp2
  go_ret
  exact ⟨_, rfl, HO2.out, HB2.out⟩
end Go.Proofs.Ytpdnfiofjkbeiaa.pen
/- Contracts of the reference of layer 15 (step): Bytes, Print. No condition but right steps. -/
namespace Go.Proofs.Ytpdnfiofjkbeiaa.step
open Go.RowKit Go.Proofs.Ytpdnfiofjkbeiaa.pen
open Go.Proofs.Ytpdnfiofjkbeiaa.field (bytesOf bytesOf_length newB)
open Go.Proofs.Ytpdnfiofjkbeiaa.schema (RowS RowS.of RowS.later own_reads plan_append wpList_append_row exec_cell_int own_low below_drew take_succ_at field_at)
set_option linter.unusedVariables false

theorem refTextS_any (s : ByteArray) (hs : s.size ≤ 1000) (w : World) : Calls Try.prog 63 #[.string s] w (Copies (vb s.size ++ bytesOf s) w) := by
  have hl : s.data.toList.length = s.size := by rw [Array.length_toList]; rfl
  have c := refText_any s.data.toList (by omega) w
  rw [texts.strL_of, hl] at c
  exact c
theorem lets_flat {s : Sp} {k : Nat} {q : UInt8} (h : (uses s.op)[k]? = some q) : (((uses s.op).take (k + 1)).map s.letB).flatten = (((uses s.op).take k).map s.letB).flatten ++ s.letB q := by
  rw [take_succ_at h]; simp
theorem letsB_len {s : Sp} (h : s.Right) (k : Nat) : ((((uses s.op).take k).map s.letB).flatten).length ≤ 3300 := by
  have h1 := flat_len s.letB 660 ((uses s.op).take k) (fun c hc => letB_len (h.ok c (List.mem_of_mem_take hc)).1 (h.ok c (List.mem_of_mem_take hc)).2)
  have h2 := uses_len s.op
  have h3 : ((uses s.op).take k).length ≤ (uses s.op).length := by simp; omega
  omega
set_option maxRecDepth 20000 in
set_option maxHeartbeats 6400000 in
theorem bytes_any (s : Sp) (ta : Option Addr) (tc : Nat) (la : Option Addr) (lc : Nat) (w : World) (h : Lists w s ta la) (hr : s.Right) : Calls Try.prog 38 #[.agg #[.int .i64 s.op, .int .i64 s.fm, .int .i64 s.fd, .int .i64 s.pl, .int .i64 s.tt, .int .i64 s.a, .int .i64 s.b, .int .i64 s.f.id, .int .i64 s.f.kind, .int .i64 s.f.lo, .int .i64 s.f.hi, .int .i64 s.f.most, .int .i64 s.v.n, .string s.v.s, .slice ta s.t.length tc, .slice la s.l.length lc]] w (Copies s.stepB w) := by
  have hA := Block.new w 29 [.int .i64 s.op, .int .i64 s.fm, .int .i64 s.fd, .int .i64 s.pl, .int .i64 s.tt, .int .i64 s.a, .int .i64 s.b, .int .i64 s.f.id, .int .i64 s.f.kind, .int .i64 s.f.lo, .int .i64 s.f.hi, .int .i64 s.f.most, .int .i64 s.v.n, .string s.v.s, .slice ta s.t.length tc, .slice la s.l.length lc]
  have hw := newB w (.cells #[.int .i64 s.op, .int .i64 s.fm, .int .i64 s.fd, .int .i64 s.pl, .int .i64 s.tt, .int .i64 s.a, .int .i64 s.b, .int .i64 s.f.id, .int .i64 s.f.kind, .int .i64 s.f.lo, .int .i64 s.f.hi, .int .i64 s.f.most, .int .i64 s.v.n, .string s.v.s, .slice ta s.t.length tc, .slice la s.l.length lc] 29)
  have hl := h.below hw
  have hop := mem_span hr.2.1
  have lop := vb_ten s.op.toNat (by omega)
  obtain ⟨W0, hW0⟩ : ∃ x, (w.alloc (.cells #[.int .i64 s.op, .int .i64 s.fm, .int .i64 s.fd, .int .i64 s.pl, .int .i64 s.tt, .int .i64 s.a, .int .i64 s.b, .int .i64 s.f.id, .int .i64 s.f.kind, .int .i64 s.f.lo, .int .i64 s.f.hi, .int .i64 s.f.most, .int .i64 s.v.n, .string s.v.s, .slice ta s.t.length tc, .slice la s.l.length lc] 29)) = x := ⟨_, rfl⟩
  have HW0 := hid hW0
  rw [show (w.alloc (.cells [.int .i64 s.op, .int .i64 s.fm, .int .i64 s.fd, .int .i64 s.pl, .int .i64 s.tt, .int .i64 s.a, .int .i64 s.b, .int .i64 s.f.id, .int .i64 s.f.kind, .int .i64 s.f.lo, .int .i64 s.f.hi, .int .i64 s.f.most, .int .i64 s.v.n, .string s.v.s, .slice ta s.t.length tc, .slice la s.l.length lc].toArray 29)) = W0 from hW0] at hA
  rw [hW0] at hw hl
  obtain ⟨B, hB⟩ : ∃ B, Hid (W0.heap.size = B) := ⟨_, hid rfl⟩
  have HZ : Hid (∀ w', Below B W0 w' → Block w' w.heap.size 29 [.int .i64 s.op, .int .i64 s.fm, .int .i64 s.fd, .int .i64 s.pl, .int .i64 s.tt, .int .i64 s.a, .int .i64 s.b, .int .i64 s.f.id, .int .i64 s.f.kind, .int .i64 s.f.lo, .int .i64 s.f.hi, .int .i64 s.f.most, .int .i64 s.v.n, .string s.v.s, .slice ta s.t.length tc, .slice la s.l.length lc]) := hid (fun w' hb => hA.later (by rw [hB.out]; exact hb))
  have HL : Hid (∀ w', Below B W0 w' → Lists w' s ta la) := hid (fun w' hb => hl.below (by rw [hB.out]; exact hb))
  have HBW : Hid (∀ w', Below B W0 w' → Below w.heap.size w w') := hid (fun w' hb => hw.trans ((show Below W0.heap.size W0 w' by rw [hB.out]; exact hb).mono hw.size))
  have HBL := hid (show w.heap.size ≤ B by rw [← hB.out]; exact hw.size)
  have HR := hid hr
  have cC := fun w' => count_any s.op (by omega) (by omega) w'
  have cU := fun w' => uses_any s.op w'
  have hix := fun (k : Nat) (q : UInt8) (h : (uses s.op)[k]? = some q) W => usesS_at h W
  have hsz := usesS_size s.op
  obtain ⟨S, hS⟩ : ∃ S, Hid (usesS s.op = S) := ⟨_, hid rfl⟩
  rw [hS.out] at hsz hix
  simp only [hS.out] at cU
  have HIX := hid hix
  obtain ⟨N, hN⟩ : ∃ N : Nat, Hid ((uses s.op).length = N) := ⟨_, hid rfl⟩
  have hN5 : N ≤ 5 := by rw [← hN.out]; exact uses_len _
  rw [hN.out] at hsz
  obtain ⟨X, hX⟩ : ∃ X, Hid (vb s.op.toNat = X) := ⟨_, hid rfl⟩
  have HSB : Hid (s.stepB = X ++ ((uses s.op).map s.letB).flatten) := hid (by unfold Sp.stepB; rw [hX.out])
  obtain ⟨Z, hZ⟩ : ∃ Z, Hid (s.stepB = Z) := ⟨_, hid rfl⟩
  rw [hZ.out]
  rw [hX.out] at cC lop
  have HXL := hid lop
  unfold Copies at cC ⊢
  unfold field.Gives at cU
  clear h hA hw hl hr hix hW0 hop lop
  go_enter Try.func38, Try.ntmps38
  go_wp2_with (first
    | (go_at_call 37; ((with_reducible refine (cC _).mono ?_); rintro e w1 ⟨u1, rfl, ho1, hb1⟩; rw [HW0.out] at ho1 hb1; have hR1 := RowS.of (B := B) (W0 := W0) (Below.refl B W0) (Nat.le_of_eq hB.out.symm) ho1 hb1; have x0 := (HZ.out _ hR1.2.1).cell 0))
    | (go_at_call 21; ((with_reducible refine (cU _).mono ?_); rintro e w2 ⟨rfl, hb2⟩; have HR2 := hid (hR1.later hb2); clear hb2)))
  clear hR1 ho1 hb1 x0 cC cU
  go_loopw [3, 5] (fun u0 n wr => ∃ (k : Nat) (u : Value), k ≤ N ∧ u = u0 ∧ n = .int .i64 (k : Int) ∧ Hid (RowS B W0 (X ++ (((uses s.op).take k).map s.letB).flatten) u wr)) (fun _ n _ => N - (intOf n).toNat)
  case atStart => exact ⟨0, _, Nat.zero_le _, rfl, rfl, hid (by simpa using HR2.out)⟩
  case round =>
    obtain ⟨k, u, hk, rfl, rfl, HU⟩ := hrel
    have hu := HU.out
    by_cases hlt : k < N
    · have hq0 := List.getElem?_eq_getElem (show k < (uses s.op).length by rw [hN.out]; exact hlt)
      have i1 : (k : Int) < S.size := by rw [hsz]; omega
      have i2 : (k : Int) < N := by omega
      generalize (uses s.op)[k]'(show k < (uses s.op).length by rw [hN.out]; exact hlt) = q at hq0
      have hok := HR.out.ok q (List.mem_of_getElem? hq0)
      have HTK := hid (lets_flat hq0)
      have lf := letsB_len HR.out k
      have lX := HXL.out
      have hYl : (X ++ (((uses s.op).take k).map s.letB).flatten).length ≤ 3310 := by simp only [List.length_append]; omega
      obtain ⟨Y, hY⟩ : ∃ Y : List Nat, Hid (X ++ (((uses s.op).take k).map s.letB).flatten = Y) := ⟨_, hid rfl⟩
      rw [hY.out] at hu hYl
      have HNX : Hid (∀ (z : Value) (w9 : World), RowS B W0 (Y ++ s.letB q) z w9 → RowS B W0 (X ++ (((uses s.op).take (k + 1)).map s.letB).flatten) z w9) := hid (fun z w9 hz => by rw [HTK.out, ← List.append_assoc, hY.out]; exact hz)
      have HQ := hid hq0
      have hz := HZ.out _ hu.2.1
      have HU1 := hid hu
      clear hq0 lf lX HU HTK hY HR2
      obtain ⟨hlet, hok⟩ := hok
      rcases hlet with rfl | rfl | rfl | rfl | rfl | rfl | rfl | rfl | rfl | rfl
      · have hx : ∀ W, (Instr.index 9 (.string S) (.int .i64 (k : Int))).run Try.prog W = .ok (.int .u8 102) W := fun W => HIX.out k _ HQ.out W
        have hq : 0 ≤ s.fm ∧ s.fm ≤ 200 := hok
        have x1 := hz.cell 1
        have cD := fun w' => count_any s.fm (by omega) (by omega) w'
        unfold Copies at cD
        have lD := vb_ten s.fm.toNat (by omega)
        clear hz hu hok
        go_wp2_with (first
          | (go_at_call 37; ((with_reducible refine (cD _).mono ?_); rintro e w5 ⟨u5, rfl, ho5, hb5⟩; have hR5 := RowS.of HU1.out.2.1 HU1.out.2.2 ho5 hb5; have hZ5 := HU1.out.later hb5; obtain ⟨a5, c5, rfl, hq5⟩ := own_reads hR5.1))
          | (at_builtin; refine wpList_append_row rfl (.tmp 25) (.tmp 28) rfl rfl rfl hZ5 hq5 (by omega) ?_; intro z6 w6 hZ6 _; have HZ6 := hid hZ6; clear hZ6 hZ5 hq5 hR5 ho5 hb5))
        exact ⟨⟨k + 1, _, by omega, rfl, by go_num, hid (HNX.out _ _ HZ6.out)⟩, by simp [intOf]; omega⟩
      · have hx : ∀ W, (Instr.index 9 (.string S) (.int .i64 (k : Int))).run Try.prog W = .ok (.int .u8 100) W := fun W => HIX.out k _ HQ.out W
        have hq : 0 ≤ s.fd ∧ s.fd ≤ 255 := hok
        have x2 := hz.cell 2
        have cD := fun w' => count_any s.fd (by omega) (by omega) w'
        unfold Copies at cD
        have lD := vb_ten s.fd.toNat (by omega)
        clear hz hu hok
        go_wp2_with (first
          | (go_at_call 37; ((with_reducible refine (cD _).mono ?_); rintro e w5 ⟨u5, rfl, ho5, hb5⟩; have hR5 := RowS.of HU1.out.2.1 HU1.out.2.2 ho5 hb5; have hZ5 := HU1.out.later hb5; obtain ⟨a5, c5, rfl, hq5⟩ := own_reads hR5.1))
          | (at_builtin; refine wpList_append_row rfl (.tmp 32) (.tmp 35) rfl rfl rfl hZ5 hq5 (by omega) ?_; intro z6 w6 hZ6 _; have HZ6 := hid hZ6; clear hZ6 hZ5 hq5 hR5 ho5 hb5))
        exact ⟨⟨k + 1, _, by omega, rfl, by go_num, hid (HNX.out _ _ HZ6.out)⟩, by simp [intOf]; omega⟩
      · have hx : ∀ W, (Instr.index 9 (.string S) (.int .i64 (k : Int))).run Try.prog W = .ok (.int .u8 112) W := fun W => HIX.out k _ HQ.out W
        have hq : 0 ≤ s.pl ∧ s.pl ≤ 8 := hok
        have x3 := hz.cell 3
        have cD := fun w' => count_any s.pl (by omega) (by omega) w'
        unfold Copies at cD
        have lD := vb_ten s.pl.toNat (by omega)
        clear hz hu hok
        go_wp2_with (first
          | (go_at_call 37; ((with_reducible refine (cD _).mono ?_); rintro e w5 ⟨u5, rfl, ho5, hb5⟩; have hR5 := RowS.of HU1.out.2.1 HU1.out.2.2 ho5 hb5; have hZ5 := HU1.out.later hb5; obtain ⟨a5, c5, rfl, hq5⟩ := own_reads hR5.1))
          | (at_builtin; refine wpList_append_row rfl (.tmp 39) (.tmp 42) rfl rfl rfl hZ5 hq5 (by omega) ?_; intro z6 w6 hZ6 _; have HZ6 := hid hZ6; clear hZ6 hZ5 hq5 hR5 ho5 hb5))
        exact ⟨⟨k + 1, _, by omega, rfl, by go_num, hid (HNX.out _ _ HZ6.out)⟩, by simp [intOf]; omega⟩
      · have hx : ∀ W, (Instr.index 9 (.string S) (.int .i64 (k : Int))).run Try.prog W = .ok (.int .u8 116) W := fun W => HIX.out k _ HQ.out W
        have hq : 0 ≤ s.tt ∧ s.tt ≤ 255 := hok
        have x4 := hz.cell 4
        have cD := fun w' => count_any s.tt (by omega) (by omega) w'
        unfold Copies at cD
        have lD := vb_ten s.tt.toNat (by omega)
        clear hz hu hok
        go_wp2_with (first
          | (go_at_call 37; ((with_reducible refine (cD _).mono ?_); rintro e w5 ⟨u5, rfl, ho5, hb5⟩; have hR5 := RowS.of HU1.out.2.1 HU1.out.2.2 ho5 hb5; have hZ5 := HU1.out.later hb5; obtain ⟨a5, c5, rfl, hq5⟩ := own_reads hR5.1))
          | (at_builtin; refine wpList_append_row rfl (.tmp 46) (.tmp 49) rfl rfl rfl hZ5 hq5 (by omega) ?_; intro z6 w6 hZ6 _; have HZ6 := hid hZ6; clear hZ6 hZ5 hq5 hR5 ho5 hb5))
        exact ⟨⟨k + 1, _, by omega, rfl, by go_num, hid (HNX.out _ _ HZ6.out)⟩, by simp [intOf]; omega⟩
      · have hx : ∀ W, (Instr.index 9 (.string S) (.int .i64 (k : Int))).run Try.prog W = .ok (.int .u8 97) W := fun W => HIX.out k _ HQ.out W
        have hq : 0 ≤ s.a ∧ s.a ≤ 1048576 := hok
        have x5 := hz.cell 5
        have cD := fun w' => count_any s.a (by omega) (by omega) w'
        unfold Copies at cD
        have lD := vb_ten s.a.toNat (by omega)
        clear hz hu hok
        go_wp2_with (first
          | (go_at_call 37; ((with_reducible refine (cD _).mono ?_); rintro e w5 ⟨u5, rfl, ho5, hb5⟩; have hR5 := RowS.of HU1.out.2.1 HU1.out.2.2 ho5 hb5; have hZ5 := HU1.out.later hb5; obtain ⟨a5, c5, rfl, hq5⟩ := own_reads hR5.1))
          | (at_builtin; refine wpList_append_row rfl (.tmp 53) (.tmp 56) rfl rfl rfl hZ5 hq5 (by omega) ?_; intro z6 w6 hZ6 _; have HZ6 := hid hZ6; clear hZ6 hZ5 hq5 hR5 ho5 hb5))
        exact ⟨⟨k + 1, _, by omega, rfl, by go_num, hid (HNX.out _ _ HZ6.out)⟩, by simp [intOf]; omega⟩
      · have hx : ∀ W, (Instr.index 9 (.string S) (.int .i64 (k : Int))).run Try.prog W = .ok (.int .u8 98) W := fun W => HIX.out k _ HQ.out W
        have hq : InOk s.a ∧ InOk s.b := hok
        have l1 := vb_ten (zig s.a) (zig_lt _ hq.1.1 hq.1.2)
        have l2 := vb_ten (zig s.b) (zig_lt _ hq.2.1 hq.2.2)
        clear hz hu hok
        go_wp2
        have hU := HU1.out.later (w' := wr.drew) (below_drew (Below.refl _ _))
        have hS := hU.2.1
        have hS2 := hU.2.2
        refine plan.regionS (S := fun w' => Below B W0 w') (by kernel_rfl) ?_
        refine plan.firstS 0 _ (u) rfl (by kernel_rfl) (by kernel_rfl) (by kernel_rfl) (by kernel_rfl) (fun w' hS' => (by kernel_rfl)) hS ?_
        refine plan.firstS 1 _ (.pointer (some ⟨w.heap.size, 5, none⟩)) rfl (by kernel_rfl) (by kernel_rfl) (by kernel_rfl) (by kernel_rfl) (fun w' hS' => (by kernel_rfl)) hS ?_
        refine plan.firstS 2 _ (.int .i64 s.a) rfl (by kernel_rfl) (by kernel_rfl) (by kernel_rfl) (by kernel_rfl) (fun w' hS' => exec_cell_int (ad := ⟨w.heap.size, 5, none⟩) rfl (by kernel_rfl) ((HZ.out _ hS').cell 5) Try.isAgg3) hS ?_
        refine plan.firstS 5 _ (.pointer (some ⟨w.heap.size, 6, none⟩)) rfl (by kernel_rfl) (by kernel_rfl) (by kernel_rfl) (by kernel_rfl) (fun w' hS' => (by kernel_rfl)) hS ?_
        refine plan.firstS 6 _ (.int .i64 s.b) rfl (by kernel_rfl) (by kernel_rfl) (by kernel_rfl) (by kernel_rfl) (fun w' hS' => exec_cell_int (ad := ⟨w.heap.size, 6, none⟩) rfl (by kernel_rfl) ((HZ.out _ hS').cell 6) Try.isAgg3) hS ?_
        refine plan.callS 3 _ 61 #[.int .i64 s.a] rfl (by kernel_rfl) (by kernel_rfl) (by kernel_rfl) ((pen.refNum_any s.a hq.1.1 hq.1.2 wr.drew).mono ?_)
        rintro e W1 ⟨u1, rfl, ho1, hb1⟩
        have hR1 := RowS.of hS hS2 ho1 hb1
        have hS2 := hR1.2.2
        have hS := hR1.2.1
        have hU := hU.later hb1
        obtain ⟨a1, c1, rfl, hq1⟩ := own_reads hR1.1
        refine ⟨_, rfl, hS, ?_⟩
        refine plan_append (c := c1) 4 hU hq1 rfl rfl (by kernel_rfl) rfl (by kernel_rfl) (by kernel_rfl) (by (try simp only [List.length_append]); omega) (fun z2 W2 hZ2 hK2 => ⟨hZ2.2.1, ?_⟩)
        have hS := hZ2.2.1
        have hS2 := hZ2.2.2
        refine plan.callS 7 _ 61 #[.int .i64 s.b] rfl (by kernel_rfl) (by kernel_rfl) (by kernel_rfl) ((pen.refNum_any s.b hq.2.1 hq.2.2 W2).mono ?_)
        rintro e W3 ⟨u3, rfl, ho3, hb3⟩
        have hR3 := RowS.of hS hS2 ho3 hb3
        have hS2 := hR3.2.2
        have hS := hR3.2.1
        have hZ2 := hZ2.later hb3
        obtain ⟨a3, c3, rfl, hq3⟩ := own_reads hR3.1
        refine ⟨_, rfl, hS, ?_⟩
        refine plan_append (c := c3) 8 hZ2 hq3 rfl rfl (by kernel_rfl) rfl (by kernel_rfl) (by kernel_rfl) (by (try simp only [List.length_append]); omega) (fun z4 W4 hZ4 hK4 => ⟨hZ4.2.1, ?_⟩)
        have hS := hZ4.2.1
        have hS2 := hZ4.2.2
        refine plan.oneS 9 _ (z4) rfl rfl (by kernel_rfl) (by kernel_rfl) hS ?_
        refine plan.doneS (by kernel_rfl) ?_
        have HE := hid (show RowS B W0 (Y ++ s.letB 98) z4 W4 from by have := hZ4; rw [List.append_assoc] at this; exact this)
        walk_nrm
        go_wp2
        exact ⟨⟨k + 1, _, by omega, rfl, by go_num, hid (HNX.out _ _ HE.out)⟩, by simp [intOf]; omega⟩
      · have hx : ∀ W, (Instr.index 9 (.string S) (.int .i64 (k : Int))).run Try.prog W = .ok (.int .u8 70) W := fun W => HIX.out k _ HQ.out W
        have hq : FieldOk s.f := hok
        have x7 := hz.cell 7
        have x8 := hz.cell 8
        have x9 := hz.cell 9
        have x10 := hz.cell 10
        have x11 := hz.cell 11
        have cD := fun w' => typed_any s.f hq w'
        have lD := fieldA_len hq
        unfold Copies at cD
        clear hz hu hok
        go_wp2_with (first
          | (go_at_call 62; ((with_reducible refine (cD _).mono ?_); rintro e w5 ⟨u5, rfl, ho5, hb5⟩; have hR5 := RowS.of HU1.out.2.1 HU1.out.2.2 ho5 hb5; have hZ5 := HU1.out.later hb5; obtain ⟨a5, c5, rfl, hq5⟩ := own_reads hR5.1))
          | (at_builtin; refine wpList_append_row rfl (.tmp 71) (.tmp 74) rfl rfl rfl hZ5 hq5 (by omega) ?_; intro z6 w6 hZ6 _; have HZ6 := hid hZ6; clear hZ6 hZ5 hq5 hR5 ho5 hb5))
        exact ⟨⟨k + 1, _, by omega, rfl, by go_num, hid (HNX.out _ _ HZ6.out)⟩, by simp [intOf]; omega⟩
      · have hx : ∀ W, (Instr.index 9 (.string S) (.int .i64 (k : Int))).run Try.prog W = .ok (.int .u8 86) W := fun W => HIX.out k _ HQ.out W
        have hq : InOk s.v.n ∧ s.v.s.size ≤ 32 := hok
        have l1 := vb_ten (zig s.v.n) (zig_lt _ hq.1.1 hq.1.2)
        have l2 := vb_ten s.v.s.size (by omega)
        have l3 := bytesOf_length s.v.s
        clear hz hu hok
        go_wp2
        have hU := HU1.out.later (w' := wr.drew) (below_drew (Below.refl _ _))
        have hS := hU.2.1
        have hS2 := hU.2.2
        refine plan.regionS (S := fun w' => Below B W0 w') (by kernel_rfl) ?_
        refine plan.firstS 0 _ (u) rfl (by kernel_rfl) (by kernel_rfl) (by kernel_rfl) (by kernel_rfl) (fun w' hS' => (by kernel_rfl)) hS ?_
        refine plan.firstS 1 _ (.pointer (some ⟨w.heap.size, 12, none⟩)) rfl (by kernel_rfl) (by kernel_rfl) (by kernel_rfl) (by kernel_rfl) (fun w' hS' => (by kernel_rfl)) hS ?_
        refine plan.firstS 2 _ (.pointer (some ⟨w.heap.size, 12, none⟩)) rfl (by kernel_rfl) (by kernel_rfl) (by kernel_rfl) (by kernel_rfl) (fun w' hS' => (by kernel_rfl)) hS ?_
        refine plan.firstS 3 _ (.int .i64 s.v.n) rfl (by kernel_rfl) (by kernel_rfl) (by kernel_rfl) (by kernel_rfl) (fun w' hS' => exec_cell_int (ad := ⟨w.heap.size, 12, none⟩) rfl (by kernel_rfl) ((HZ.out _ hS').cell 12) Try.isAgg3) hS ?_
        refine plan.firstS 6 _ (.pointer (some ⟨w.heap.size, 12, none⟩)) rfl (by kernel_rfl) (by kernel_rfl) (by kernel_rfl) (by kernel_rfl) (fun w' hS' => (by kernel_rfl)) hS ?_
        refine plan.firstS 7 _ (.pointer (some ⟨w.heap.size, 13, none⟩)) rfl (by kernel_rfl) (by kernel_rfl) (by kernel_rfl) (by kernel_rfl) (fun w' hS' => (by kernel_rfl)) hS ?_
        refine plan.firstS 8 _ (.string s.v.s) rfl (by kernel_rfl) (by kernel_rfl) (by kernel_rfl) (by kernel_rfl) (fun w' hS' => field.exec_cell_str (ad := ⟨w.heap.size, 13, none⟩) rfl (by kernel_rfl) ((HZ.out _ hS').cell 13) Try.isAgg9) hS ?_
        refine plan.callS 4 _ 61 #[.int .i64 s.v.n] rfl (by kernel_rfl) (by kernel_rfl) (by kernel_rfl) ((pen.refNum_any s.v.n hq.1.1 hq.1.2 wr.drew).mono ?_)
        rintro e W1 ⟨u1, rfl, ho1, hb1⟩
        have hR1 := RowS.of hS hS2 ho1 hb1
        have hS2 := hR1.2.2
        have hS := hR1.2.1
        have hU := hU.later hb1
        obtain ⟨a1, c1, rfl, hq1⟩ := own_reads hR1.1
        refine ⟨_, rfl, hS, ?_⟩
        refine plan_append (c := c1) 5 hU hq1 rfl rfl (by kernel_rfl) rfl (by kernel_rfl) (by kernel_rfl) (by (try simp only [List.length_append]); omega) (fun z2 W2 hZ2 hK2 => ⟨hZ2.2.1, ?_⟩)
        have hS := hZ2.2.1
        have hS2 := hZ2.2.2
        refine plan.callS 9 _ 63 #[.string s.v.s] rfl (by kernel_rfl) (by kernel_rfl) (by kernel_rfl) ((refTextS_any s.v.s (by omega) W2).mono ?_)
        rintro e W3 ⟨u3, rfl, ho3, hb3⟩
        have hR3 := RowS.of hS hS2 ho3 hb3
        have hS2 := hR3.2.2
        have hS := hR3.2.1
        have hZ2 := hZ2.later hb3
        obtain ⟨a3, c3, rfl, hq3⟩ := own_reads hR3.1
        refine ⟨_, rfl, hS, ?_⟩
        refine plan_append (c := c3) 10 hZ2 hq3 rfl rfl (by kernel_rfl) rfl (by kernel_rfl) (by kernel_rfl) (by (try simp only [List.length_append]); omega) (fun z4 W4 hZ4 hK4 => ⟨hZ4.2.1, ?_⟩)
        have hS := hZ4.2.1
        have hS2 := hZ4.2.2
        refine plan.oneS 11 _ (z4) rfl rfl (by kernel_rfl) (by kernel_rfl) hS ?_
        refine plan.doneS (by kernel_rfl) ?_
        have HE := hid (show RowS B W0 (Y ++ s.letB 86) z4 W4 from by have := hZ4; rw [List.append_assoc] at this; exact this)
        walk_nrm
        go_wp2
        exact ⟨⟨k + 1, _, by omega, rfl, by go_num, hid (HNX.out _ _ HE.out)⟩, by simp [intOf]; omega⟩
      · have hx : ∀ W, (Instr.index 9 (.string S) (.int .i64 (k : Int))).run Try.prog W = .ok (.int .u8 84) W := fun W => HIX.out k _ HQ.out W
        have hq : s.t.length ≤ 64 ∧ ∀ n ∈ s.t, 0 ≤ n ∧ n ≤ 1000 := hok
        have x14 := hz.cell 14
        have cD : ∀ w', Calls Try.prog 37 #[.int .i64 (s.t.length : Int)] w' (Copies (vb s.t.length) w') := fun w' => by have h := count_any (s.t.length : Int) (by omega) (by omega) w'; rw [Int.toNat_natCast] at h; exact h
        unfold Copies at cD
        have lD := vb_ten s.t.length (by omega)
        clear hz hu hok
        go_wp2_with (first
          | (go_at_call 37; ((with_reducible refine (cD _).mono ?_); rintro e w5 ⟨u5, rfl, ho5, hb5⟩; have hR5 := RowS.of HU1.out.2.1 HU1.out.2.2 ho5 hb5; have hZ5 := HU1.out.later hb5; obtain ⟨a5, c5, rfl, hq5⟩ := own_reads hR5.1))
          | (at_builtin; refine wpList_append_row rfl (.tmp 91) (.tmp 95) rfl rfl rfl hZ5 hq5 (by omega) ?_; intro z6 w6 hZ6 _; have HZ6 := hid hZ6; clear hZ6 hZ5 hq5 hR5 ho5 hb5))
        clear x14 cD
        go_loopw [3, 6] (fun u0 m wq => ∃ (j : Nat) (y : Value), j ≤ s.t.length ∧ y = u0 ∧ m = .int .i64 (j : Int) ∧ Hid (RowS B W0 (Y ++ vb s.t.length ++ numsA (s.t.take j)) y wq)) (fun _ m _ => s.t.length - (intOf m).toNat)
        case atStart => exact ⟨0, _, Nat.zero_le _, rfl, rfl, hid (by simpa [numsA] using HZ6.out)⟩
        case round =>
          obtain ⟨j, y, hj, rfl, rfl, HY⟩ := hrel
          have hy := HY.out
          have x14 := (HZ.out _ hy.2.1).cell 14
          by_cases hjt : j < s.t.length
          · obtain ⟨b2, off2, p, rfl, hbl2, hp, c0⟩ := int_at (HL.out _ hy.2.1).t (Below.refl _ _) hjt
            have j2 : (j : Int) < s.t.length := by omega
            have HXX := hid (numsA_succ hp)
            have hpr := hq.2 p (List.mem_of_getElem? hp)
            have lg := numsA_len (L := s.t.take j) (fun n hn => hq.2 n (List.mem_of_mem_take hn))
            have lg2 : (s.t.take j).length ≤ s.t.length := by simp; omega
            have lp := vb_ten p.toNat (by omega)
            have cP := fun w' => count_any p (by omega) (by omega) w'
            unfold Copies at cP
            have HYY := hid hy
            clear hp hy HY
            go_wp2_with (first
              | (go_at_call 37; ((with_reducible refine (cP _).mono ?_); rintro e w7 ⟨u7, rfl, ho7, hb7⟩; have hR7 := RowS.of HYY.out.2.1 HYY.out.2.2 ho7 hb7; have hy7 := HYY.out.later hb7; obtain ⟨a7, c7, rfl, hq7⟩ := own_reads hR7.1))
              | (at_builtin; refine wpList_append_row rfl (.tmp 104) (.tmp 110) rfl rfl rfl hy7 hq7 (by simp only [List.length_append]; omega) ?_; intro z8 w8 hZ8 _; have HZ8 := hid hZ8; clear hZ8 hy7 hq7 hR7 ho7 hb7))
            exact ⟨⟨j + 1, _, by omega, rfl, by go_num, hid (by rw [HXX.out]; simpa only [List.append_assoc] using HZ8.out)⟩, by simp [intOf]; omega⟩
          · obtain rfl : j = s.t.length := by omega
            rw [List.take_of_length_le (Nat.le_refl _)] at hy
            have HE := hid (show RowS B W0 (Y ++ s.letB 84) y wr from by have h1 := hy; rw [List.append_assoc] at h1; exact h1)
            clear hy HY
            go_wp2
            exact ⟨⟨k + 1, _, by omega, rfl, by go_num, hid (HNX.out _ _ HE.out)⟩, by simp [intOf]; omega⟩
      · have hx : ∀ W, (Instr.index 9 (.string S) (.int .i64 (k : Int))).run Try.prog W = .ok (.int .u8 76) W := fun W => HIX.out k _ HQ.out W
        have hq : s.l.length ≤ 8 ∧ ∀ f ∈ s.l, FieldOk f := hok
        have x15 := hz.cell 15
        have cD : ∀ w', Calls Try.prog 37 #[.int .i64 (s.l.length : Int)] w' (Copies (vb s.l.length) w') := fun w' => by have h := count_any (s.l.length : Int) (by omega) (by omega) w'; rw [Int.toNat_natCast] at h; exact h
        unfold Copies at cD
        have lD := vb_ten s.l.length (by omega)
        clear hz hu hok
        go_wp2_with (first
          | (go_at_call 37; ((with_reducible refine (cD _).mono ?_); rintro e w5 ⟨u5, rfl, ho5, hb5⟩; have hR5 := RowS.of HU1.out.2.1 HU1.out.2.2 ho5 hb5; have hZ5 := HU1.out.later hb5; obtain ⟨a5, c5, rfl, hq5⟩ := own_reads hR5.1))
          | (at_builtin; refine wpList_append_row rfl (.tmp 114) (.tmp 118) rfl rfl rfl hZ5 hq5 (by omega) ?_; intro z6 w6 hZ6 _; have HZ6 := hid hZ6; clear hZ6 hZ5 hq5 hR5 ho5 hb5))
        clear x15 cD
        go_loopw [3, 7] (fun u0 m wq => ∃ (j : Nat) (y : Value), j ≤ s.l.length ∧ y = u0 ∧ m = .int .i64 (j : Int) ∧ Hid (RowS B W0 (Y ++ vb s.l.length ++ fieldsA (s.l.take j)) y wq)) (fun _ m _ => s.l.length - (intOf m).toNat)
        case atStart => exact ⟨0, _, Nat.zero_le _, rfl, rfl, hid (by simpa [fieldsA] using HZ6.out)⟩
        case round =>
          obtain ⟨j, y, hj, rfl, rfl, HY⟩ := hrel
          have hy := HY.out
          have x15 := (HZ.out _ hy.2.1).cell 15
          by_cases hjt : j < s.l.length
          · obtain ⟨b2, off2, p, rfl, hbl2, hp, c0, c1, c2, c3, c4⟩ := field_at (HL.out _ hy.2.1).l (Below.refl _ _) hjt
            have j2 : (j : Int) < s.l.length := by omega
            have HXX := hid (fieldsA_succ hp)
            have hpr := hq.2 p (List.mem_of_getElem? hp)
            have lg := fieldsA_len (L := s.l.take j) (fun n hn => hq.2 n (List.mem_of_mem_take hn))
            have lg2 : (s.l.take j).length ≤ s.l.length := by simp; omega
            have lp := fieldA_len hpr
            have cP := fun w' => typed_any p hpr w'
            unfold Copies at cP
            have HYY := hid hy
            clear hp hy HY
            go_wp2_with (first
              | (go_at_call 62; ((with_reducible refine (cP _).mono ?_); rintro e w7 ⟨u7, rfl, ho7, hb7⟩; have hR7 := RowS.of HYY.out.2.1 HYY.out.2.2 ho7 hb7; have hy7 := HYY.out.later hb7; obtain ⟨a7, c7, rfl, hq7⟩ := own_reads hR7.1))
              | (at_builtin; refine wpList_append_row rfl (.tmp 127) (.tmp 133) rfl rfl rfl hy7 hq7 (by simp only [List.length_append]; omega) ?_; intro z8 w8 hZ8 _; have HZ8 := hid hZ8; clear hZ8 hy7 hq7 hR7 ho7 hb7))
            exact ⟨⟨j + 1, _, by omega, rfl, by go_num, hid (by rw [HXX.out]; simpa only [List.append_assoc] using HZ8.out)⟩, by simp [intOf]; omega⟩
          · obtain rfl : j = s.l.length := by omega
            rw [List.take_of_length_le (Nat.le_refl _)] at hy
            have HE := hid (show RowS B W0 (Y ++ s.letB 76) y wr from by have h1 := hy; rw [List.append_assoc] at h1; exact h1)
            clear hy HY
            go_wp2
            exact ⟨⟨k + 1, _, by omega, rfl, by go_num, hid (HNX.out _ _ HE.out)⟩, by simp [intOf]; omega⟩
    · obtain rfl : k = N := by omega
      rw [← hN.out, List.take_of_length_le (Nat.le_refl _)] at hu
      have HE := hid (show RowS B W0 Z u wr by rw [← hZ.out, HSB.out]; exact hu)
      have i1 : ¬ (k : Int) < S.size := by rw [hsz]; omega
      clear hu HU
      go_wp2
      go_ret
      exact ⟨u, rfl, own_low HE.out.1 HBL.out, HBW.out _ HE.out.2.1⟩
end Go.Proofs.Ytpdnfiofjkbeiaa.step
/- Contract of the reference of layer 15 (step): Print. No condition but right steps, at most 40. -/
namespace Go.Proofs.Ytpdnfiofjkbeiaa.step
open Go.RowKit Go.Proofs.Ytpdnfiofjkbeiaa.pen
open Go.Proofs.Ytpdnfiofjkbeiaa.schema (RowS RowS.of RowS.later own_reads wpList_append_row own_low below_drew)
set_option linter.unusedVariables false

set_option maxRecDepth 20000 in
theorem refPrint_any (a : Option Addr) (c : Nat) (L : List St) (w : World) (h : StL w a L) (hr : Rights (sps L)) (hl : L.length ≤ 40) : Calls Try.prog 14 #[.slice a L.length c] w (Copies (listB (sps L)) w) := by
  obtain ⟨B, hB⟩ : ∃ B, Hid (w.heap.size = B) := ⟨_, hid rfl⟩
  have HF := hid h
  have HR := hid hr
  have HLN := hid (sps_length L)
  have cD : ∀ w', Calls Try.prog 37 #[.int .i64 (L.length : Int)] w' (Copies (vb L.length) w') := fun w' => by have h := count_any (L.length : Int) (by omega) (by omega) w'; rw [Int.toNat_natCast] at h; exact h
  obtain ⟨Z, hZ⟩ : ∃ Z, Hid (listB (sps L) = Z) := ⟨_, hid rfl⟩
  have HSB : Hid (Z = vb L.length ++ stepsB (sps L)) := hid (by rw [← hZ.out]; unfold listB stepsB; rw [HLN.out])
  have lX := vb_ten L.length (by omega)
  obtain ⟨X, hX⟩ : ∃ X, Hid (vb L.length = X) := ⟨_, hid rfl⟩
  rw [hX.out] at cD HSB lX
  rw [hZ.out]
  have HXL := hid lX
  unfold Copies at cD ⊢
  clear h hr lX
  go_enter Try.func14, Try.ntmps14
  go_wp2_with (go_at_call 37; ((with_reducible refine (cD _).mono ?_); rintro e w1 ⟨u1, rfl, ho1, hb1⟩; have HR1 := hid (RowS.of (B := B) (W0 := w) (Below.refl B w) (Nat.le_of_eq hB.out.symm) ho1 hb1); clear ho1 hb1))
  clear cD
  go_loopw [3, 4] (fun u0 n wr => ∃ (k : Nat) (u : Value), k ≤ L.length ∧ u = u0 ∧ n = .int .i64 (k : Int) ∧ Hid (RowS B w (X ++ stepsB ((sps L).take k)) u wr)) (fun _ n _ => L.length - (intOf n).toNat)
  case atStart => exact ⟨0, _, Nat.zero_le _, rfl, rfl, hid (by simpa [stepsB] using HR1.out)⟩
  case round =>
    obtain ⟨k, u, hk, rfl, rfl, HU⟩ := hrel
    have hu := HU.out
    have hbw : Below w.heap.size w wr := by rw [hB.out]; exact hu.2.1
    by_cases hlt : k < L.length
    · obtain ⟨b, off, p, rfl, hbl, hp, hls, z0, z1, z2, z3, z4, z5, z6, z7, z8, z9, z10, z11, z12, z13, z14, z15⟩ := step_at HF.out hbw hlt
      have i1 : (k : Int) < L.length := by omega
      have HSUC := hid (stepsB_succ (sps_at hp))
      have hpr := HR.out p.s (List.mem_of_getElem? (sps_at hp))
      have lS := stepsB_len HR.out (by rw [HLN.out]; exact hl) k
      have lp := stepB_len hpr
      have lX := HXL.out
      obtain ⟨s, ta, tc, la, lc⟩ := p
      simp only at z0 z1 z2 z3 z4 z5 z6 z7 z8 z9 z10 z11 z12 z13 z14 z15 hls HSUC hpr lp
      have cP := fun w' (hb : Below wr.heap.size wr w') => bytes_any s ta tc la lc w' (hls.below hb) hpr
      unfold Copies at cP
      have HUU := hid hu
      have HX := hid (boxP s ta tc la lc wr)
      clear hp hls hpr hu HU hbw HR1
      go_wp2_with (first
        | (go_at_call 38; ((with_reducible refine (cP _ (Below.refl _ _)).mono ?_); rintro e w7 ⟨u7, rfl, ho7, hb7⟩; have hR7 := RowS.of HUU.out.2.1 HUU.out.2.2 ho7 hb7; have hy7 := HUU.out.later hb7; obtain ⟨a7, c7, rfl, hq7⟩ := own_reads hR7.1))
        | (at_builtin; refine wpList_append_row rfl (.tmp 14) (.tmp 19) rfl rfl rfl hy7 hq7 (by simp only [List.length_append]; omega) ?_; intro z8 w8 hZ8 _; have HZ8 := hid hZ8; clear hZ8 hy7 hq7 hR7 ho7 hb7))
      exact ⟨⟨k + 1, _, by omega, rfl, by go_num, hid (by rw [HSUC.out, ← List.append_assoc]; exact HZ8.out)⟩, by simp [intOf]; omega⟩
    · obtain rfl : k = L.length := by omega
      rw [List.take_of_length_le (by rw [HLN.out]; exact Nat.le_refl _), ← HSB.out] at hu
      have HE := hid hu
      clear hu HU hbw
      go_wp2
      go_ret
      exact ⟨u, rfl, own_low HE.out.1 (Nat.le_of_eq hB.out), by rw [hB.out]; exact HE.out.2.1⟩
end Go.Proofs.Ytpdnfiofjkbeiaa.step
