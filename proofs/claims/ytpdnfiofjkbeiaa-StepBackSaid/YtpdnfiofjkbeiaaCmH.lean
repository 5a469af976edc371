/- Contracts and lemmas that the claims of this seat share: StepFine, StepClear, FieldsSame, SchemaFirst, SchemaRefIx, SchemaExecF. Each says its own conditions. -/
import Derived.Test.YtpdnfiofjkbeiaaCmE
import Derived.Test.YtpdnfiofjkbeiaaCmF
import Derived.Test.YtpdnfiofjkbeiaaCmG
import Derived.Laws.StructEq
/- Contract of layer 15 (step): fine. No condition. -/
namespace Go.Proofs.Ytpdnfiofjkbeiaa.step
open Go.RowKit
open Go.Proofs.Ytpdnfiofjkbeiaa.field (Gives newB gives_from)
open Go.Proofs.Ytpdnfiofjkbeiaa.schema (below_out)
set_option linter.unusedVariables false

set_option maxRecDepth 20000 in
theorem fine0 (s : Sp) (ta : Option Addr) (tc : Nat) (la : Option Addr) (lc : Nat) (w : World) (h : Lists w s ta la) : Calls Try.prog 19 #[.agg #[.int .i64 s.op, .int .i64 s.fm, .int .i64 s.fd, .int .i64 s.pl, .int .i64 s.tt, .int .i64 s.a, .int .i64 s.b, .int .i64 s.f.id, .int .i64 s.f.kind, .int .i64 s.f.lo, .int .i64 s.f.hi, .int .i64 s.f.most, .int .i64 s.v.n, .string s.v.s, .slice ta s.t.length tc, .slice la s.l.length lc], .int .i64 0] w (Gives (.bool (decide (s.Fine 0))) w) := by
  have HX := hid (boxP s ta tc la lc w)
  have HL := hid (h.below (newB w (.cells #[.int .i64 s.op, .int .i64 s.fm, .int .i64 s.fd, .int .i64 s.pl, .int .i64 s.tt, .int .i64 s.a, .int .i64 s.b, .int .i64 s.f.id, .int .i64 s.f.kind, .int .i64 s.f.lo, .int .i64 s.f.hi, .int .i64 s.f.most, .int .i64 s.v.n, .string s.v.s, .slice ta s.t.length tc, .slice la s.l.length lc] 29)))
  obtain ⟨r, hr⟩ : ∃ r : Bool, Hid (decide (s.Fine 0) = r) := ⟨_, rfl⟩
  rw [hr.out]
  unfold Gives
  clear h
  have cW : From 46 #[.int .i64 s.fm, .int .i64 0, .int .i64 200] (.bool r) (w.alloc (.cells #[.int .i64 s.op, .int .i64 s.fm, .int .i64 s.fd, .int .i64 s.pl, .int .i64 s.tt, .int .i64 s.a, .int .i64 s.b, .int .i64 s.f.id, .int .i64 s.f.kind, .int .i64 s.f.lo, .int .i64 s.f.hi, .int .i64 s.f.most, .int .i64 s.v.n, .string s.v.s, .slice ta s.t.length tc, .slice la s.l.length lc] 29)) := from_all _ (fun w' => hr.out ▸ within_any s.fm 0 200 w')
  go_enter Try.func19, Try.ntmps19
  go_wp2_with (first
    | (go_at_call 46; ((with_reducible refine (cW _ (by first | exact Below.refl _ _ | assumption)).mono ?_); rintro e w2 ⟨rfl, hb2⟩; obtain ⟨⟨z0, z1, z2, z3, z4, z5, z6, z7, z8, z9, z10, z11, z12, z13, z14, z15⟩, hbo⟩ := HX.out _ hb2)))
  go_ret
  exact ⟨rfl, hbo⟩
set_option maxRecDepth 20000 in
theorem fine1 (s : Sp) (ta : Option Addr) (tc : Nat) (la : Option Addr) (lc : Nat) (w : World) (h : Lists w s ta la) : Calls Try.prog 19 #[.agg #[.int .i64 s.op, .int .i64 s.fm, .int .i64 s.fd, .int .i64 s.pl, .int .i64 s.tt, .int .i64 s.a, .int .i64 s.b, .int .i64 s.f.id, .int .i64 s.f.kind, .int .i64 s.f.lo, .int .i64 s.f.hi, .int .i64 s.f.most, .int .i64 s.v.n, .string s.v.s, .slice ta s.t.length tc, .slice la s.l.length lc], .int .i64 1] w (Gives (.bool (decide (s.Fine 1))) w) := by
  have HX := hid (boxP s ta tc la lc w)
  have HL := hid (h.below (newB w (.cells #[.int .i64 s.op, .int .i64 s.fm, .int .i64 s.fd, .int .i64 s.pl, .int .i64 s.tt, .int .i64 s.a, .int .i64 s.b, .int .i64 s.f.id, .int .i64 s.f.kind, .int .i64 s.f.lo, .int .i64 s.f.hi, .int .i64 s.f.most, .int .i64 s.v.n, .string s.v.s, .slice ta s.t.length tc, .slice la s.l.length lc] 29)))
  obtain ⟨r, hr⟩ : ∃ r : Bool, Hid (decide (s.Fine 1) = r) := ⟨_, rfl⟩
  rw [hr.out]
  unfold Gives
  clear h
  have cW : From 46 #[.int .i64 s.fd, .int .i64 0, .int .i64 255] (.bool r) (w.alloc (.cells #[.int .i64 s.op, .int .i64 s.fm, .int .i64 s.fd, .int .i64 s.pl, .int .i64 s.tt, .int .i64 s.a, .int .i64 s.b, .int .i64 s.f.id, .int .i64 s.f.kind, .int .i64 s.f.lo, .int .i64 s.f.hi, .int .i64 s.f.most, .int .i64 s.v.n, .string s.v.s, .slice ta s.t.length tc, .slice la s.l.length lc] 29)) := from_all _ (fun w' => hr.out ▸ within_any s.fd 0 255 w')
  go_enter Try.func19, Try.ntmps19
  go_wp2_with (first
    | (go_at_call 46; ((with_reducible refine (cW _ (by first | exact Below.refl _ _ | assumption)).mono ?_); rintro e w2 ⟨rfl, hb2⟩; obtain ⟨⟨z0, z1, z2, z3, z4, z5, z6, z7, z8, z9, z10, z11, z12, z13, z14, z15⟩, hbo⟩ := HX.out _ hb2)))
  go_ret
  exact ⟨rfl, hbo⟩
set_option maxRecDepth 20000 in
theorem fine2 (s : Sp) (ta : Option Addr) (tc : Nat) (la : Option Addr) (lc : Nat) (w : World) (h : Lists w s ta la) : Calls Try.prog 19 #[.agg #[.int .i64 s.op, .int .i64 s.fm, .int .i64 s.fd, .int .i64 s.pl, .int .i64 s.tt, .int .i64 s.a, .int .i64 s.b, .int .i64 s.f.id, .int .i64 s.f.kind, .int .i64 s.f.lo, .int .i64 s.f.hi, .int .i64 s.f.most, .int .i64 s.v.n, .string s.v.s, .slice ta s.t.length tc, .slice la s.l.length lc], .int .i64 2] w (Gives (.bool (decide (s.Fine 2))) w) := by
  have HX := hid (boxP s ta tc la lc w)
  have HL := hid (h.below (newB w (.cells #[.int .i64 s.op, .int .i64 s.fm, .int .i64 s.fd, .int .i64 s.pl, .int .i64 s.tt, .int .i64 s.a, .int .i64 s.b, .int .i64 s.f.id, .int .i64 s.f.kind, .int .i64 s.f.lo, .int .i64 s.f.hi, .int .i64 s.f.most, .int .i64 s.v.n, .string s.v.s, .slice ta s.t.length tc, .slice la s.l.length lc] 29)))
  obtain ⟨r, hr⟩ : ∃ r : Bool, Hid (decide (s.Fine 2) = r) := ⟨_, rfl⟩
  rw [hr.out]
  unfold Gives
  clear h
  have cW : From 46 #[.int .i64 s.pl, .int .i64 0, .int .i64 8] (.bool r) (w.alloc (.cells #[.int .i64 s.op, .int .i64 s.fm, .int .i64 s.fd, .int .i64 s.pl, .int .i64 s.tt, .int .i64 s.a, .int .i64 s.b, .int .i64 s.f.id, .int .i64 s.f.kind, .int .i64 s.f.lo, .int .i64 s.f.hi, .int .i64 s.f.most, .int .i64 s.v.n, .string s.v.s, .slice ta s.t.length tc, .slice la s.l.length lc] 29)) := from_all _ (fun w' => hr.out ▸ within_any s.pl 0 8 w')
  go_enter Try.func19, Try.ntmps19
  go_wp2_with (first
    | (go_at_call 46; ((with_reducible refine (cW _ (by first | exact Below.refl _ _ | assumption)).mono ?_); rintro e w2 ⟨rfl, hb2⟩; obtain ⟨⟨z0, z1, z2, z3, z4, z5, z6, z7, z8, z9, z10, z11, z12, z13, z14, z15⟩, hbo⟩ := HX.out _ hb2)))
  go_ret
  exact ⟨rfl, hbo⟩
set_option maxRecDepth 20000 in
theorem fine4 (s : Sp) (ta : Option Addr) (tc : Nat) (la : Option Addr) (lc : Nat) (w : World) (h : Lists w s ta la) : Calls Try.prog 19 #[.agg #[.int .i64 s.op, .int .i64 s.fm, .int .i64 s.fd, .int .i64 s.pl, .int .i64 s.tt, .int .i64 s.a, .int .i64 s.b, .int .i64 s.f.id, .int .i64 s.f.kind, .int .i64 s.f.lo, .int .i64 s.f.hi, .int .i64 s.f.most, .int .i64 s.v.n, .string s.v.s, .slice ta s.t.length tc, .slice la s.l.length lc], .int .i64 4] w (Gives (.bool (decide (s.Fine 4))) w) := by
  have HX := hid (boxP s ta tc la lc w)
  have HL := hid (h.below (newB w (.cells #[.int .i64 s.op, .int .i64 s.fm, .int .i64 s.fd, .int .i64 s.pl, .int .i64 s.tt, .int .i64 s.a, .int .i64 s.b, .int .i64 s.f.id, .int .i64 s.f.kind, .int .i64 s.f.lo, .int .i64 s.f.hi, .int .i64 s.f.most, .int .i64 s.v.n, .string s.v.s, .slice ta s.t.length tc, .slice la s.l.length lc] 29)))
  obtain ⟨r, hr⟩ : ∃ r : Bool, Hid (decide (s.Fine 4) = r) := ⟨_, rfl⟩
  rw [hr.out]
  unfold Gives
  clear h
  have cW : From 46 #[.int .i64 s.a, .int .i64 2, .int .i64 1048576] (.bool r) (w.alloc (.cells #[.int .i64 s.op, .int .i64 s.fm, .int .i64 s.fd, .int .i64 s.pl, .int .i64 s.tt, .int .i64 s.a, .int .i64 s.b, .int .i64 s.f.id, .int .i64 s.f.kind, .int .i64 s.f.lo, .int .i64 s.f.hi, .int .i64 s.f.most, .int .i64 s.v.n, .string s.v.s, .slice ta s.t.length tc, .slice la s.l.length lc] 29)) := from_all _ (fun w' => hr.out ▸ within_any s.a 2 1048576 w')
  go_enter Try.func19, Try.ntmps19
  go_wp2_with (first
    | (go_at_call 46; ((with_reducible refine (cW _ (by first | exact Below.refl _ _ | assumption)).mono ?_); rintro e w2 ⟨rfl, hb2⟩; obtain ⟨⟨z0, z1, z2, z3, z4, z5, z6, z7, z8, z9, z10, z11, z12, z13, z14, z15⟩, hbo⟩ := HX.out _ hb2)))
  go_ret
  exact ⟨rfl, hbo⟩
set_option maxRecDepth 20000 in
theorem fine3 (s : Sp) (ta : Option Addr) (tc : Nat) (la : Option Addr) (lc : Nat) (w : World) (h : Lists w s ta la) : Calls Try.prog 19 #[.agg #[.int .i64 s.op, .int .i64 s.fm, .int .i64 s.fd, .int .i64 s.pl, .int .i64 s.tt, .int .i64 s.a, .int .i64 s.b, .int .i64 s.f.id, .int .i64 s.f.kind, .int .i64 s.f.lo, .int .i64 s.f.hi, .int .i64 s.f.most, .int .i64 s.v.n, .string s.v.s, .slice ta s.t.length tc, .slice la s.l.length lc], .int .i64 3] w (Gives (.bool (decide (s.Fine 3))) w) := by
  have HX := hid (boxP s ta tc la lc w)
  have HL := hid (h.below (newB w (.cells #[.int .i64 s.op, .int .i64 s.fm, .int .i64 s.fd, .int .i64 s.pl, .int .i64 s.tt, .int .i64 s.a, .int .i64 s.b, .int .i64 s.f.id, .int .i64 s.f.kind, .int .i64 s.f.lo, .int .i64 s.f.hi, .int .i64 s.f.most, .int .i64 s.v.n, .string s.v.s, .slice ta s.t.length tc, .slice la s.l.length lc] 29)))
  obtain ⟨r, hr⟩ : ∃ r : Bool, Hid (decide (s.Fine 3) = r) := ⟨_, rfl⟩
  rw [hr.out]
  unfold Gives
  clear h
  have cW := fun v (hv : decide (0 ≤ s.tt ∧ s.tt ≤ 255) = v) => from_all (w.alloc (.cells #[.int .i64 s.op, .int .i64 s.fm, .int .i64 s.fd, .int .i64 s.pl, .int .i64 s.tt, .int .i64 s.a, .int .i64 s.b, .int .i64 s.f.id, .int .i64 s.f.kind, .int .i64 s.f.lo, .int .i64 s.f.hi, .int .i64 s.f.most, .int .i64 s.v.n, .string s.v.s, .slice ta s.t.length tc, .slice la s.l.length lc] 29)) (fun w' => hv ▸ within_any s.tt 0 255 w')
  by_cases h1 : 0 ≤ s.tt ∧ s.tt ≤ 255
  · replace cW := cW true (decide_eq_true h1)
    by_cases h2 : s.tt = s.fd
    · obtain rfl : false = r := by rw [← hr.out]; exact (decide_eq_false (fun h => h.2 h2)).symm
      have d2 : (s.tt != s.fd) = false := by simp [h2]
      have d3 : (s.tt == s.fd) = true := by simp [h2]
      clear h1 h2
      go_enter Try.func19, Try.ntmps19
      go_wp2_with (first
        | (go_at_call 46; ((with_reducible refine (cW _ (by first | exact Below.refl _ _ | assumption)).mono ?_); rintro e w2 ⟨rfl, hb2⟩; obtain ⟨⟨z0, z1, z2, z3, z4, z5, z6, z7, z8, z9, z10, z11, z12, z13, z14, z15⟩, hbo⟩ := HX.out _ hb2)))
      go_ret
      exact ⟨rfl, hbo⟩
    · obtain rfl : true = r := by rw [← hr.out]; exact (decide_eq_true ⟨h1, h2⟩).symm
      have d2 : (s.tt != s.fd) = true := by simp [h2]
      have d3 : (s.tt == s.fd) = false := by simp [h2]
      clear h1 h2
      go_enter Try.func19, Try.ntmps19
      go_wp2_with (first
        | (go_at_call 46; ((with_reducible refine (cW _ (by first | exact Below.refl _ _ | assumption)).mono ?_); rintro e w2 ⟨rfl, hb2⟩; obtain ⟨⟨z0, z1, z2, z3, z4, z5, z6, z7, z8, z9, z10, z11, z12, z13, z14, z15⟩, hbo⟩ := HX.out _ hb2)))
      go_ret
      exact ⟨rfl, hbo⟩
  · replace cW := cW false (decide_eq_false h1)
    obtain rfl : false = r := by rw [← hr.out]; exact (decide_eq_false (fun h => h1 h.1)).symm
    clear h1
    go_enter Try.func19, Try.ntmps19
    go_wp2_with (first
      | (go_at_call 46; ((with_reducible refine (cW _ (by first | exact Below.refl _ _ | assumption)).mono ?_); rintro e w2 ⟨rfl, hb2⟩; obtain ⟨⟨z0, z1, z2, z3, z4, z5, z6, z7, z8, z9, z10, z11, z12, z13, z14, z15⟩, hbo⟩ := HX.out _ hb2)))
    go_ret
    exact ⟨rfl, hbo⟩
set_option maxRecDepth 20000 in
theorem fine5 (s : Sp) (ta : Option Addr) (tc : Nat) (la : Option Addr) (lc : Nat) (w : World) (h : Lists w s ta la) : Calls Try.prog 19 #[.agg #[.int .i64 s.op, .int .i64 s.fm, .int .i64 s.fd, .int .i64 s.pl, .int .i64 s.tt, .int .i64 s.a, .int .i64 s.b, .int .i64 s.f.id, .int .i64 s.f.kind, .int .i64 s.f.lo, .int .i64 s.f.hi, .int .i64 s.f.most, .int .i64 s.v.n, .string s.v.s, .slice ta s.t.length tc, .slice la s.l.length lc], .int .i64 5] w (Gives (.bool (decide (s.Fine 5))) w) := by
  have HX := hid (boxP s ta tc la lc w)
  have HL := hid (h.below (newB w (.cells #[.int .i64 s.op, .int .i64 s.fm, .int .i64 s.fd, .int .i64 s.pl, .int .i64 s.tt, .int .i64 s.a, .int .i64 s.b, .int .i64 s.f.id, .int .i64 s.f.kind, .int .i64 s.f.lo, .int .i64 s.f.hi, .int .i64 s.f.most, .int .i64 s.v.n, .string s.v.s, .slice ta s.t.length tc, .slice la s.l.length lc] 29)))
  obtain ⟨r, hr⟩ : ∃ r : Bool, Hid (decide (s.Fine 5) = r) := ⟨_, rfl⟩
  rw [hr.out]
  unfold Gives
  clear h
  have cW := fun v (hv : decide (-1048576 ≤ s.a ∧ s.a ≤ 1048576) = v) => from_all (w.alloc (.cells #[.int .i64 s.op, .int .i64 s.fm, .int .i64 s.fd, .int .i64 s.pl, .int .i64 s.tt, .int .i64 s.a, .int .i64 s.b, .int .i64 s.f.id, .int .i64 s.f.kind, .int .i64 s.f.lo, .int .i64 s.f.hi, .int .i64 s.f.most, .int .i64 s.v.n, .string s.v.s, .slice ta s.t.length tc, .slice la s.l.length lc] 29)) (fun w' => hv ▸ within_any s.a (-1048576) 1048576 w')
  have cV := fun v (hv : decide (-1099511627776 ≤ s.b ∧ s.b ≤ 1099511627776) = v) => from_all (w.alloc (.cells #[.int .i64 s.op, .int .i64 s.fm, .int .i64 s.fd, .int .i64 s.pl, .int .i64 s.tt, .int .i64 s.a, .int .i64 s.b, .int .i64 s.f.id, .int .i64 s.f.kind, .int .i64 s.f.lo, .int .i64 s.f.hi, .int .i64 s.f.most, .int .i64 s.v.n, .string s.v.s, .slice ta s.t.length tc, .slice la s.l.length lc] 29)) (fun w' => hv ▸ within_any s.b (-1099511627776) 1099511627776 w')
  by_cases h1 : -1048576 ≤ s.a ∧ s.a ≤ 1048576
  · replace cW := cW true (decide_eq_true h1)
    by_cases h2 : s.a = 0
    · obtain rfl : false = r := by rw [← hr.out]; exact (decide_eq_false (fun h => h.1.2 h2)).symm
      have d2 : (s.a != 0) = false := by simp [h2]
      have d3 : (s.a == 0) = true := by simp [h2]
      clear h1 h2
      go_enter Try.func19, Try.ntmps19
      go_wp2_with (first
        | (go_at_call 46; ((with_reducible refine (cW _ (by first | exact Below.refl _ _ | assumption)).mono ?_); rintro e w2 ⟨rfl, hb2⟩; obtain ⟨⟨z0, z1, z2, z3, z4, z5, z6, z7, z8, z9, z10, z11, z12, z13, z14, z15⟩, hbo⟩ := HX.out _ hb2)))
      go_ret
      exact ⟨rfl, hbo⟩
    · have d2 : (s.a != 0) = true := by simp [h2]
      have d3 : (s.a == 0) = false := by simp [h2]
      replace cV := cV r (by rw [← hr.out]; exact decide_eq_decide.2 ⟨fun h => ⟨⟨h1, h2⟩, h⟩, fun h => h.2⟩)
      clear h1 h2
      go_enter Try.func19, Try.ntmps19
      go_wp2_with (first
        | (go_at_call 46; ((with_reducible refine (cW _ (by first | exact Below.refl _ _ | assumption)).mono ?_); rintro e w2 ⟨rfl, hb2⟩; obtain ⟨⟨z0, z1, z2, z3, z4, z5, z6, z7, z8, z9, z10, z11, z12, z13, z14, z15⟩, hbo⟩ := HX.out _ hb2))
        | (go_at_call 46; ((with_reducible refine (cV _ (by first | exact Below.refl _ _ | assumption)).mono ?_); rintro e w2 ⟨rfl, hb2⟩; obtain ⟨⟨z0, z1, z2, z3, z4, z5, z6, z7, z8, z9, z10, z11, z12, z13, z14, z15⟩, hbo⟩ := HX.out _ hb2)))
      go_ret
      exact ⟨rfl, hbo⟩
  · replace cW := cW false (decide_eq_false h1)
    obtain rfl : false = r := by rw [← hr.out]; exact (decide_eq_false (fun h => h1 h.1.1)).symm
    clear h1
    go_enter Try.func19, Try.ntmps19
    go_wp2_with (first
      | (go_at_call 46; ((with_reducible refine (cW _ (by first | exact Below.refl _ _ | assumption)).mono ?_); rintro e w2 ⟨rfl, hb2⟩; obtain ⟨⟨z0, z1, z2, z3, z4, z5, z6, z7, z8, z9, z10, z11, z12, z13, z14, z15⟩, hbo⟩ := HX.out _ hb2)))
    go_ret
    exact ⟨rfl, hbo⟩
set_option maxRecDepth 20000 in
theorem fine6 (s : Sp) (ta : Option Addr) (tc : Nat) (la : Option Addr) (lc : Nat) (w : World) (h : Lists w s ta la) : Calls Try.prog 19 #[.agg #[.int .i64 s.op, .int .i64 s.fm, .int .i64 s.fd, .int .i64 s.pl, .int .i64 s.tt, .int .i64 s.a, .int .i64 s.b, .int .i64 s.f.id, .int .i64 s.f.kind, .int .i64 s.f.lo, .int .i64 s.f.hi, .int .i64 s.f.most, .int .i64 s.v.n, .string s.v.s, .slice ta s.t.length tc, .slice la s.l.length lc], .int .i64 6] w (Gives (.bool (decide (s.Fine 6))) w) := by
  have HX := hid (boxP s ta tc la lc w)
  have HL := hid (h.below (newB w (.cells #[.int .i64 s.op, .int .i64 s.fm, .int .i64 s.fd, .int .i64 s.pl, .int .i64 s.tt, .int .i64 s.a, .int .i64 s.b, .int .i64 s.f.id, .int .i64 s.f.kind, .int .i64 s.f.lo, .int .i64 s.f.hi, .int .i64 s.f.most, .int .i64 s.v.n, .string s.v.s, .slice ta s.t.length tc, .slice la s.l.length lc] 29)))
  obtain ⟨r, hr⟩ : ∃ r : Bool, Hid (decide (s.Fine 6) = r) := ⟨_, rfl⟩
  rw [hr.out]
  unfold Gives
  clear h
  have cW := fun v (hv : decide (1 ≤ s.a ∧ s.a ≤ 1000) = v) => from_all (w.alloc (.cells #[.int .i64 s.op, .int .i64 s.fm, .int .i64 s.fd, .int .i64 s.pl, .int .i64 s.tt, .int .i64 s.a, .int .i64 s.b, .int .i64 s.f.id, .int .i64 s.f.kind, .int .i64 s.f.lo, .int .i64 s.f.hi, .int .i64 s.f.most, .int .i64 s.v.n, .string s.v.s, .slice ta s.t.length tc, .slice la s.l.length lc] 29)) (fun w' => hv ▸ within_any s.a 1 1000 w')
  by_cases h1 : 1 ≤ s.a ∧ s.a ≤ 1000
  · replace cW := cW true (decide_eq_true h1)
    have cT : From 47 #[.slice ta s.t.length tc, .int .i64 s.a] (.bool r) (w.alloc (.cells #[.int .i64 s.op, .int .i64 s.fm, .int .i64 s.fd, .int .i64 s.pl, .int .i64 s.tt, .int .i64 s.a, .int .i64 s.b, .int .i64 s.f.id, .int .i64 s.f.kind, .int .i64 s.f.lo, .int .i64 s.f.hi, .int .i64 s.f.most, .int .i64 s.v.n, .string s.v.s, .slice ta s.t.length tc, .slice la s.l.length lc] 29)) := from_in _ (fun w' hb => by
      have e : decide (Table s.t s.a) = r := by rw [← hr.out]; exact decide_eq_decide.2 ⟨fun h => ⟨h1, h⟩, fun h => h.2⟩
      exact e ▸ fineTable_any ta tc s.t s.a h1.1 h1.2 w' ((HL.out.below hb).t) HL.out.mt)
    clear h1
    go_enter Try.func19, Try.ntmps19
    go_wp2_with (first
      | (go_at_call 46; ((with_reducible refine (cW _ (by first | exact Below.refl _ _ | assumption)).mono ?_); rintro e w2 ⟨rfl, hb2⟩; obtain ⟨⟨z0, z1, z2, z3, z4, z5, z6, z7, z8, z9, z10, z11, z12, z13, z14, z15⟩, hbo⟩ := HX.out _ hb2))
      | (go_at_call 47; ((with_reducible refine (cT _ (by first | exact Below.refl _ _ | assumption)).mono ?_); rintro e w2 ⟨rfl, hb2⟩; obtain ⟨⟨z0, z1, z2, z3, z4, z5, z6, z7, z8, z9, z10, z11, z12, z13, z14, z15⟩, hbo⟩ := HX.out _ hb2)))
    go_ret
    exact ⟨rfl, hbo⟩
  · replace cW := cW false (decide_eq_false h1)
    obtain rfl : false = r := by rw [← hr.out]; exact (decide_eq_false (fun h => h1 h.1)).symm
    clear h1
    go_enter Try.func19, Try.ntmps19
    go_wp2_with (first
      | (go_at_call 46; ((with_reducible refine (cW _ (by first | exact Below.refl _ _ | assumption)).mono ?_); rintro e w2 ⟨rfl, hb2⟩; obtain ⟨⟨z0, z1, z2, z3, z4, z5, z6, z7, z8, z9, z10, z11, z12, z13, z14, z15⟩, hbo⟩ := HX.out _ hb2)))
    go_ret
    exact ⟨rfl, hbo⟩
set_option maxRecDepth 20000 in
theorem fine7 (s : Sp) (ta : Option Addr) (tc : Nat) (la : Option Addr) (lc : Nat) (w : World) (h : Lists w s ta la) : Calls Try.prog 19 #[.agg #[.int .i64 s.op, .int .i64 s.fm, .int .i64 s.fd, .int .i64 s.pl, .int .i64 s.tt, .int .i64 s.a, .int .i64 s.b, .int .i64 s.f.id, .int .i64 s.f.kind, .int .i64 s.f.lo, .int .i64 s.f.hi, .int .i64 s.f.most, .int .i64 s.v.n, .string s.v.s, .slice ta s.t.length tc, .slice la s.l.length lc], .int .i64 7] w (Gives (.bool (decide (s.Fine 7))) w) := by
  have HX := hid (boxP s ta tc la lc w)
  have HL := hid (h.below (newB w (.cells #[.int .i64 s.op, .int .i64 s.fm, .int .i64 s.fd, .int .i64 s.pl, .int .i64 s.tt, .int .i64 s.a, .int .i64 s.b, .int .i64 s.f.id, .int .i64 s.f.kind, .int .i64 s.f.lo, .int .i64 s.f.hi, .int .i64 s.f.most, .int .i64 s.v.n, .string s.v.s, .slice ta s.t.length tc, .slice la s.l.length lc] 29)))
  obtain ⟨r, hr⟩ : ∃ r : Bool, Hid (decide (s.Fine 7) = r) := ⟨_, rfl⟩
  rw [hr.out]
  unfold Gives
  clear h
  have cT : From 47 #[.slice ta s.t.length tc, .int .i64 1000] (.bool r) (w.alloc (.cells #[.int .i64 s.op, .int .i64 s.fm, .int .i64 s.fd, .int .i64 s.pl, .int .i64 s.tt, .int .i64 s.a, .int .i64 s.b, .int .i64 s.f.id, .int .i64 s.f.kind, .int .i64 s.f.lo, .int .i64 s.f.hi, .int .i64 s.f.most, .int .i64 s.v.n, .string s.v.s, .slice ta s.t.length tc, .slice la s.l.length lc] 29)) := from_in _ (fun w' hb => hr.out ▸ fineTable_any ta tc s.t 1000 (by omega) (by omega) w' ((HL.out.below hb).t) HL.out.mt)
  go_enter Try.func19, Try.ntmps19
  go_wp2_with (first
    | (go_at_call 47; ((with_reducible refine (cT _ (by first | exact Below.refl _ _ | assumption)).mono ?_); rintro e w2 ⟨rfl, hb2⟩; obtain ⟨⟨z0, z1, z2, z3, z4, z5, z6, z7, z8, z9, z10, z11, z12, z13, z14, z15⟩, hbo⟩ := HX.out _ hb2)))
  go_ret
  exact ⟨rfl, hbo⟩
set_option maxRecDepth 20000 in
theorem fine8 (s : Sp) (ta : Option Addr) (tc : Nat) (la : Option Addr) (lc : Nat) (w : World) (h : Lists w s ta la) : Calls Try.prog 19 #[.agg #[.int .i64 s.op, .int .i64 s.fm, .int .i64 s.fd, .int .i64 s.pl, .int .i64 s.tt, .int .i64 s.a, .int .i64 s.b, .int .i64 s.f.id, .int .i64 s.f.kind, .int .i64 s.f.lo, .int .i64 s.f.hi, .int .i64 s.f.most, .int .i64 s.v.n, .string s.v.s, .slice ta s.t.length tc, .slice la s.l.length lc], .int .i64 8] w (Gives (.bool (decide (s.Fine 8))) w) := by
  have HX := hid (boxP s ta tc la lc w)
  have HL := hid (h.below (newB w (.cells #[.int .i64 s.op, .int .i64 s.fm, .int .i64 s.fd, .int .i64 s.pl, .int .i64 s.tt, .int .i64 s.a, .int .i64 s.b, .int .i64 s.f.id, .int .i64 s.f.kind, .int .i64 s.f.lo, .int .i64 s.f.hi, .int .i64 s.f.most, .int .i64 s.v.n, .string s.v.s, .slice ta s.t.length tc, .slice la s.l.length lc] 29)))
  obtain ⟨r, hr⟩ : ∃ r : Bool, Hid (decide (s.Fine 8) = r) := ⟨_, rfl⟩
  rw [hr.out]
  unfold Gives
  clear h
  have cW := fun v (hv : decide s.f.Right = v) => from_all (w.alloc (.cells #[.int .i64 s.op, .int .i64 s.fm, .int .i64 s.fd, .int .i64 s.pl, .int .i64 s.tt, .int .i64 s.a, .int .i64 s.b, .int .i64 s.f.id, .int .i64 s.f.kind, .int .i64 s.f.lo, .int .i64 s.f.hi, .int .i64 s.f.most, .int .i64 s.v.n, .string s.v.s, .slice ta s.t.length tc, .slice la s.l.length lc] 29)) (fun w' => hv ▸ field.right_any s.f w')
  by_cases h1 : s.f.Right
  · replace cW := cW true (decide_eq_true h1)
    by_cases h2 : s.f.id = s.fd
    · obtain rfl : true = r := by rw [← hr.out]; exact (decide_eq_true ⟨h1, h2⟩).symm
      have d3 : (s.f.id == s.fd) = true := by simp [h2]
      clear h1 h2
      go_enter Try.func19, Try.ntmps19
      go_wp2_with (first
        | (go_at_call 48; ((with_reducible refine (cW _ (by first | exact Below.refl _ _ | assumption)).mono ?_); rintro e w2 ⟨rfl, hb2⟩; obtain ⟨⟨z0, z1, z2, z3, z4, z5, z6, z7, z8, z9, z10, z11, z12, z13, z14, z15⟩, hbo⟩ := HX.out _ hb2)))
      go_ret
      exact ⟨rfl, hbo⟩
    · obtain rfl : false = r := by rw [← hr.out]; exact (decide_eq_false (fun h => h2 h.2)).symm
      have d3 : (s.f.id == s.fd) = false := by simp [h2]
      clear h1 h2
      go_enter Try.func19, Try.ntmps19
      go_wp2_with (first
        | (go_at_call 48; ((with_reducible refine (cW _ (by first | exact Below.refl _ _ | assumption)).mono ?_); rintro e w2 ⟨rfl, hb2⟩; obtain ⟨⟨z0, z1, z2, z3, z4, z5, z6, z7, z8, z9, z10, z11, z12, z13, z14, z15⟩, hbo⟩ := HX.out _ hb2)))
      go_ret
      exact ⟨rfl, hbo⟩
  · replace cW := cW false (decide_eq_false h1)
    obtain rfl : false = r := by rw [← hr.out]; exact (decide_eq_false (fun h => h1 h.1)).symm
    clear h1
    go_enter Try.func19, Try.ntmps19
    go_wp2_with (first
      | (go_at_call 48; ((with_reducible refine (cW _ (by first | exact Below.refl _ _ | assumption)).mono ?_); rintro e w2 ⟨rfl, hb2⟩; obtain ⟨⟨z0, z1, z2, z3, z4, z5, z6, z7, z8, z9, z10, z11, z12, z13, z14, z15⟩, hbo⟩ := HX.out _ hb2)))
    go_ret
    exact ⟨rfl, hbo⟩
set_option maxRecDepth 20000 in
theorem fine9 (s : Sp) (ta : Option Addr) (tc : Nat) (la : Option Addr) (lc : Nat) (w : World) (h : Lists w s ta la) : Calls Try.prog 19 #[.agg #[.int .i64 s.op, .int .i64 s.fm, .int .i64 s.fd, .int .i64 s.pl, .int .i64 s.tt, .int .i64 s.a, .int .i64 s.b, .int .i64 s.f.id, .int .i64 s.f.kind, .int .i64 s.f.lo, .int .i64 s.f.hi, .int .i64 s.f.most, .int .i64 s.v.n, .string s.v.s, .slice ta s.t.length tc, .slice la s.l.length lc], .int .i64 9] w (Gives (.bool (decide (s.Fine 9))) w) := by
  have HX := hid (boxP s ta tc la lc w)
  have HL := hid (h.below (newB w (.cells #[.int .i64 s.op, .int .i64 s.fm, .int .i64 s.fd, .int .i64 s.pl, .int .i64 s.tt, .int .i64 s.a, .int .i64 s.b, .int .i64 s.f.id, .int .i64 s.f.kind, .int .i64 s.f.lo, .int .i64 s.f.hi, .int .i64 s.f.most, .int .i64 s.v.n, .string s.v.s, .slice ta s.t.length tc, .slice la s.l.length lc] 29)))
  obtain ⟨r, hr⟩ : ∃ r : Bool, Hid (decide (s.Fine 9) = r) := ⟨_, rfl⟩
  rw [hr.out]
  unfold Gives
  clear h
  have cH : From 49 #[.agg #[.int .i64 s.f.id, .int .i64 s.f.kind, .int .i64 s.f.lo, .int .i64 s.f.hi, .int .i64 s.f.most], .agg #[.int .i64 s.v.n, .string s.v.s]] (.bool r) (w.alloc (.cells #[.int .i64 s.op, .int .i64 s.fm, .int .i64 s.fd, .int .i64 s.pl, .int .i64 s.tt, .int .i64 s.a, .int .i64 s.b, .int .i64 s.f.id, .int .i64 s.f.kind, .int .i64 s.f.lo, .int .i64 s.f.hi, .int .i64 s.f.most, .int .i64 s.v.n, .string s.v.s, .slice ta s.t.length tc, .slice la s.l.length lc] 29)) := from_all _ (fun w' => hr.out ▸ field.has_any s.f s.v w')
  go_enter Try.func19, Try.ntmps19
  go_wp2_with (first
    | (go_at_call 49; ((with_reducible refine (cH _ (by first | exact Below.refl _ _ | assumption)).mono ?_); rintro e w2 ⟨rfl, hb2⟩; obtain ⟨⟨z0, z1, z2, z3, z4, z5, z6, z7, z8, z9, z10, z11, z12, z13, z14, z15⟩, hbo⟩ := HX.out _ hb2)))
  go_ret
  exact ⟨rfl, hbo⟩
set_option maxRecDepth 20000 in
theorem fine10 (s : Sp) (ta : Option Addr) (tc : Nat) (la : Option Addr) (lc : Nat) (w : World) (h : Lists w s ta la) : Calls Try.prog 19 #[.agg #[.int .i64 s.op, .int .i64 s.fm, .int .i64 s.fd, .int .i64 s.pl, .int .i64 s.tt, .int .i64 s.a, .int .i64 s.b, .int .i64 s.f.id, .int .i64 s.f.kind, .int .i64 s.f.lo, .int .i64 s.f.hi, .int .i64 s.f.most, .int .i64 s.v.n, .string s.v.s, .slice ta s.t.length tc, .slice la s.l.length lc], .int .i64 10] w (Gives (.bool (decide (s.Fine 10))) w) := by
  have HX := hid (boxP s ta tc la lc w)
  have HL := hid (h.below (newB w (.cells #[.int .i64 s.op, .int .i64 s.fm, .int .i64 s.fd, .int .i64 s.pl, .int .i64 s.tt, .int .i64 s.a, .int .i64 s.b, .int .i64 s.f.id, .int .i64 s.f.kind, .int .i64 s.f.lo, .int .i64 s.f.hi, .int .i64 s.f.most, .int .i64 s.v.n, .string s.v.s, .slice ta s.t.length tc, .slice la s.l.length lc] 29)))
  obtain ⟨r, hr⟩ : ∃ r : Bool, Hid (decide (s.Fine 10) = r) := ⟨_, rfl⟩
  rw [hr.out]
  unfold Gives
  clear h
  have cW := fun v (hv : decide (-1099511627776 ≤ s.v.n ∧ s.v.n ≤ 1099511627776) = v) => from_all (w.alloc (.cells #[.int .i64 s.op, .int .i64 s.fm, .int .i64 s.fd, .int .i64 s.pl, .int .i64 s.tt, .int .i64 s.a, .int .i64 s.b, .int .i64 s.f.id, .int .i64 s.f.kind, .int .i64 s.f.lo, .int .i64 s.f.hi, .int .i64 s.f.most, .int .i64 s.v.n, .string s.v.s, .slice ta s.t.length tc, .slice la s.l.length lc] 29)) (fun w' => hv ▸ within_any s.v.n (-1099511627776) 1099511627776 w')
  by_cases h1 : -1099511627776 ≤ s.v.n ∧ s.v.n ≤ 1099511627776
  · replace cW := cW true (decide_eq_true h1)
    by_cases h2 : s.v.s.size ≤ 32
    · obtain rfl : true = r := by rw [← hr.out]; exact (decide_eq_true ⟨h1, h2⟩).symm
      have d3 : decide ((s.v.s.size : Int) ≤ 32) = true := decide_eq_true (by omega)
      clear h1 h2
      go_enter Try.func19, Try.ntmps19
      go_wp2_with (first
        | (go_at_call 46; ((with_reducible refine (cW _ (by first | exact Below.refl _ _ | assumption)).mono ?_); rintro e w2 ⟨rfl, hb2⟩; obtain ⟨⟨z0, z1, z2, z3, z4, z5, z6, z7, z8, z9, z10, z11, z12, z13, z14, z15⟩, hbo⟩ := HX.out _ hb2)))
      go_ret
      exact ⟨rfl, hbo⟩
    · obtain rfl : false = r := by rw [← hr.out]; exact (decide_eq_false (fun h => h2 h.2)).symm
      have d3 : decide ((s.v.s.size : Int) ≤ 32) = false := decide_eq_false (by omega)
      clear h1 h2
      go_enter Try.func19, Try.ntmps19
      go_wp2_with (first
        | (go_at_call 46; ((with_reducible refine (cW _ (by first | exact Below.refl _ _ | assumption)).mono ?_); rintro e w2 ⟨rfl, hb2⟩; obtain ⟨⟨z0, z1, z2, z3, z4, z5, z6, z7, z8, z9, z10, z11, z12, z13, z14, z15⟩, hbo⟩ := HX.out _ hb2)))
      go_ret
      exact ⟨rfl, hbo⟩
  · replace cW := cW false (decide_eq_false h1)
    obtain rfl : false = r := by rw [← hr.out]; exact (decide_eq_false (fun h => h1 h.1)).symm
    clear h1
    go_enter Try.func19, Try.ntmps19
    go_wp2_with (first
      | (go_at_call 46; ((with_reducible refine (cW _ (by first | exact Below.refl _ _ | assumption)).mono ?_); rintro e w2 ⟨rfl, hb2⟩; obtain ⟨⟨z0, z1, z2, z3, z4, z5, z6, z7, z8, z9, z10, z11, z12, z13, z14, z15⟩, hbo⟩ := HX.out _ hb2)))
    go_ret
    exact ⟨rfl, hbo⟩
set_option maxRecDepth 20000 in
theorem fine11 (s : Sp) (ta : Option Addr) (tc : Nat) (la : Option Addr) (lc : Nat) (w : World) (h : Lists w s ta la) : Calls Try.prog 19 #[.agg #[.int .i64 s.op, .int .i64 s.fm, .int .i64 s.fd, .int .i64 s.pl, .int .i64 s.tt, .int .i64 s.a, .int .i64 s.b, .int .i64 s.f.id, .int .i64 s.f.kind, .int .i64 s.f.lo, .int .i64 s.f.hi, .int .i64 s.f.most, .int .i64 s.v.n, .string s.v.s, .slice ta s.t.length tc, .slice la s.l.length lc], .int .i64 11] w (Gives (.bool (decide (s.Fine 11))) w) := by
  have HX := hid (boxP s ta tc la lc w)
  have HL := hid (h.below (newB w (.cells #[.int .i64 s.op, .int .i64 s.fm, .int .i64 s.fd, .int .i64 s.pl, .int .i64 s.tt, .int .i64 s.a, .int .i64 s.b, .int .i64 s.f.id, .int .i64 s.f.kind, .int .i64 s.f.lo, .int .i64 s.f.hi, .int .i64 s.f.most, .int .i64 s.v.n, .string s.v.s, .slice ta s.t.length tc, .slice la s.l.length lc] 29)))
  obtain ⟨r, hr⟩ : ∃ r : Bool, Hid (decide (s.Fine 11) = r) := ⟨_, rfl⟩
  rw [hr.out]
  unfold Gives
  clear h
  have cS : From 50 #[.agg #[.int .i64 s.fm, .slice la s.l.length lc]] (.bool r) (w.alloc (.cells #[.int .i64 s.op, .int .i64 s.fm, .int .i64 s.fd, .int .i64 s.pl, .int .i64 s.tt, .int .i64 s.a, .int .i64 s.b, .int .i64 s.f.id, .int .i64 s.f.kind, .int .i64 s.f.lo, .int .i64 s.f.hi, .int .i64 s.f.most, .int .i64 s.v.n, .string s.v.s, .slice ta s.t.length tc, .slice la s.l.length lc] 29)) := from_in _ (fun w' hb => hr.out ▸ schema.fine_any s.fm la lc s.l w' ((HL.out.below hb).l) HL.out.ml)
  go_enter Try.func19, Try.ntmps19
  go_wp2_with (first
    | (go_at_call 50; ((with_reducible refine (cS _ (by first | exact Below.refl _ _ | assumption)).mono ?_); rintro e w2 ⟨rfl, hb2⟩; obtain ⟨⟨z0, z1, z2, z3, z4, z5, z6, z7, z8, z9, z10, z11, z12, z13, z14, z15⟩, hbo⟩ := HX.out _ hb2)))
  go_ret
  exact ⟨rfl, hbo⟩
theorem fine_any (s : Sp) (ta : Option Addr) (tc : Nat) (la : Option Addr) (lc : Nat) (m : Nat) (hm : m < 12) (w : World) (h : Lists w s ta la) : Calls Try.prog 19 #[.agg #[.int .i64 s.op, .int .i64 s.fm, .int .i64 s.fd, .int .i64 s.pl, .int .i64 s.tt, .int .i64 s.a, .int .i64 s.b, .int .i64 s.f.id, .int .i64 s.f.kind, .int .i64 s.f.lo, .int .i64 s.f.hi, .int .i64 s.f.most, .int .i64 s.v.n, .string s.v.s, .slice ta s.t.length tc, .slice la s.l.length lc], .int .i64 (m : Int)] w (Gives (.bool (decide (s.Fine m))) w) := by
  match m, hm with
  | 0, _ => exact fine0 s ta tc la lc w h
  | 1, _ => exact fine1 s ta tc la lc w h
  | 2, _ => exact fine2 s ta tc la lc w h
  | 3, _ => exact fine3 s ta tc la lc w h
  | 4, _ => exact fine4 s ta tc la lc w h
  | 5, _ => exact fine5 s ta tc la lc w h
  | 6, _ => exact fine6 s ta tc la lc w h
  | 7, _ => exact fine7 s ta tc la lc w h
  | 8, _ => exact fine8 s ta tc la lc w h
  | 9, _ => exact fine9 s ta tc la lc w h
  | 10, _ => exact fine10 s ta tc la lc w h
  | 11, _ => exact fine11 s ta tc la lc w h
end Go.Proofs.Ytpdnfiofjkbeiaa.step
/- Contract of layer 15 (step): clearMember. No condition. -/
namespace Go.Proofs.Ytpdnfiofjkbeiaa.step
open Go.RowKit
open Go.Proofs.Ytpdnfiofjkbeiaa.field (Gives newB gives_from)
open Go.Proofs.Ytpdnfiofjkbeiaa.schema (below_out)
open Go.Proofs.Ytpdnfiofjkbeiaa.pen (ret0)
set_option linter.unusedVariables false

/-- the variable at B holds s, its lists lie where they lay in w0, whose blocks lie below B -/
structure BoxAt (w0 : World) (B : Nat) (s : Sp) (ta : Option Addr) (tc : Nat) (la : Option Addr) (lc : Nat) (w : World) : Prop where
  f : Block w B 29 [.int .i64 s.op, .int .i64 s.fm, .int .i64 s.fd, .int .i64 s.pl, .int .i64 s.tt, .int .i64 s.a, .int .i64 s.b, .int .i64 s.f.id, .int .i64 s.f.kind, .int .i64 s.f.lo, .int .i64 s.f.hi, .int .i64 s.f.most, .int .i64 s.v.n, .string s.v.s, .slice ta s.t.length tc, .slice la s.l.length lc]
  lists : Lists w0 s ta la
  low : w0.heap.size ≤ B
  below : Below w0.heap.size w0 w
theorem BoxAt.later {w0 w w' : World} {B : Nat} {s : Sp} {ta la : Option Addr} {tc lc : Nat} (h : BoxAt w0 B s ta tc la lc w) (hb : Below w.heap.size w w') : BoxAt w0 B s ta tc la lc w' :=
  ⟨h.f.later hb, h.lists, h.low, h.below.trans (hb.mono h.below.size)⟩
theorem BoxAt.now {w0 w : World} {B : Nat} {s : Sp} {ta la : Option Addr} {tc lc : Nat} (h : BoxAt w0 B s ta tc la lc w) : Lists w s ta la := h.lists.below h.below
def Cleared (w0 : World) (B : Nat) (s : Sp) (e : Ending) (w' : World) : Prop := e = .returned (.tuple #[]) ∧ ∃ ta tc la lc, BoxAt w0 B s ta tc la lc w'
set_option maxRecDepth 20000 in
theorem clear0 {w0 : World} (B : Nat) (s : Sp) (ta : Option Addr) (tc : Nat) (la : Option Addr) (lc : Nat) (w : World) (h : BoxAt w0 B s ta tc la lc w) : Calls Try.prog 20 #[.pointer (some ⟨B, 0, none⟩), .int .i64 0] w (Cleared w0 B (s.clear 0)) := by
  have HF := hid h
  have hf := h.f
  have c1 := hf.cell 1
  have f1 := hf.frozen 1
  clear hf h
  go_enter Try.func20, Try.ntmps20
  go_wp2
  have h := HF.out
  have hL := h.lists
  have hB := h.f
  have hW := h.below
  replace hB := hB.setCell 1 (.int .i64 0)
  replace hW := below_setCells hW h.low 1 [.int .i64 0]
  exact ret0 rfl rfl ⟨rfl, ta, tc, la, lc, ⟨hB, ⟨hL.t, hL.l, hL.mt, hL.ml⟩, h.low, hW⟩⟩
set_option maxRecDepth 20000 in
theorem clear1 {w0 : World} (B : Nat) (s : Sp) (ta : Option Addr) (tc : Nat) (la : Option Addr) (lc : Nat) (w : World) (h : BoxAt w0 B s ta tc la lc w) : Calls Try.prog 20 #[.pointer (some ⟨B, 0, none⟩), .int .i64 1] w (Cleared w0 B (s.clear 1)) := by
  have HF := hid h
  have hf := h.f
  have c2 := hf.cell 2
  have f2 := hf.frozen 2
  clear hf h
  go_enter Try.func20, Try.ntmps20
  go_wp2
  have h := HF.out
  have hL := h.lists
  have hB := h.f
  have hW := h.below
  replace hB := hB.setCell 2 (.int .i64 0)
  replace hW := below_setCells hW h.low 2 [.int .i64 0]
  exact ret0 rfl rfl ⟨rfl, ta, tc, la, lc, ⟨hB, ⟨hL.t, hL.l, hL.mt, hL.ml⟩, h.low, hW⟩⟩
set_option maxRecDepth 20000 in
theorem clear2 {w0 : World} (B : Nat) (s : Sp) (ta : Option Addr) (tc : Nat) (la : Option Addr) (lc : Nat) (w : World) (h : BoxAt w0 B s ta tc la lc w) : Calls Try.prog 20 #[.pointer (some ⟨B, 0, none⟩), .int .i64 2] w (Cleared w0 B (s.clear 2)) := by
  have HF := hid h
  have hf := h.f
  have c3 := hf.cell 3
  have f3 := hf.frozen 3
  clear hf h
  go_enter Try.func20, Try.ntmps20
  go_wp2
  have h := HF.out
  have hL := h.lists
  have hB := h.f
  have hW := h.below
  replace hB := hB.setCell 3 (.int .i64 0)
  replace hW := below_setCells hW h.low 3 [.int .i64 0]
  exact ret0 rfl rfl ⟨rfl, ta, tc, la, lc, ⟨hB, ⟨hL.t, hL.l, hL.mt, hL.ml⟩, h.low, hW⟩⟩
set_option maxRecDepth 20000 in
theorem clear3 {w0 : World} (B : Nat) (s : Sp) (ta : Option Addr) (tc : Nat) (la : Option Addr) (lc : Nat) (w : World) (h : BoxAt w0 B s ta tc la lc w) : Calls Try.prog 20 #[.pointer (some ⟨B, 0, none⟩), .int .i64 3] w (Cleared w0 B (s.clear 3)) := by
  have HF := hid h
  have hf := h.f
  have c4 := hf.cell 4
  have f4 := hf.frozen 4
  clear hf h
  go_enter Try.func20, Try.ntmps20
  go_wp2
  have h := HF.out
  have hL := h.lists
  have hB := h.f
  have hW := h.below
  replace hB := hB.setCell 4 (.int .i64 0)
  replace hW := below_setCells hW h.low 4 [.int .i64 0]
  exact ret0 rfl rfl ⟨rfl, ta, tc, la, lc, ⟨hB, ⟨hL.t, hL.l, hL.mt, hL.ml⟩, h.low, hW⟩⟩
set_option maxRecDepth 20000 in
theorem clear4 {w0 : World} (B : Nat) (s : Sp) (ta : Option Addr) (tc : Nat) (la : Option Addr) (lc : Nat) (w : World) (h : BoxAt w0 B s ta tc la lc w) : Calls Try.prog 20 #[.pointer (some ⟨B, 0, none⟩), .int .i64 4] w (Cleared w0 B (s.clear 4)) := by
  have HF := hid h
  have hf := h.f
  have c5 := hf.cell 5
  have f5 := hf.frozen 5
  clear hf h
  go_enter Try.func20, Try.ntmps20
  go_wp2
  have h := HF.out
  have hL := h.lists
  have hB := h.f
  have hW := h.below
  replace hB := hB.setCell 5 (.int .i64 0)
  replace hW := below_setCells hW h.low 5 [.int .i64 0]
  exact ret0 rfl rfl ⟨rfl, ta, tc, la, lc, ⟨hB, ⟨hL.t, hL.l, hL.mt, hL.ml⟩, h.low, hW⟩⟩
set_option maxRecDepth 20000 in
theorem clear5 {w0 : World} (B : Nat) (s : Sp) (ta : Option Addr) (tc : Nat) (la : Option Addr) (lc : Nat) (w : World) (h : BoxAt w0 B s ta tc la lc w) : Calls Try.prog 20 #[.pointer (some ⟨B, 0, none⟩), .int .i64 5] w (Cleared w0 B (s.clear 5)) := by
  have HF := hid h
  have hf := h.f
  have c5 := hf.cell 5
  have f5 := hf.frozen 5
  have c6 := hf.cell 6
  have f6 := hf.frozen 6
  clear hf h
  go_enter Try.func20, Try.ntmps20
  go_wp2
  have h := HF.out
  have hL := h.lists
  have hB := h.f
  have hW := h.below
  replace hB := hB.setCell 5 (.int .i64 0)
  replace hW := below_setCells hW h.low 5 [.int .i64 0]
  replace hB := hB.setCell 6 (.int .i64 0)
  replace hW := below_setCells hW h.low 6 [.int .i64 0]
  exact ret0 rfl rfl ⟨rfl, ta, tc, la, lc, ⟨hB, ⟨hL.t, hL.l, hL.mt, hL.ml⟩, h.low, hW⟩⟩
set_option maxRecDepth 20000 in
theorem clear6 {w0 : World} (B : Nat) (s : Sp) (ta : Option Addr) (tc : Nat) (la : Option Addr) (lc : Nat) (w : World) (h : BoxAt w0 B s ta tc la lc w) : Calls Try.prog 20 #[.pointer (some ⟨B, 0, none⟩), .int .i64 6] w (Cleared w0 B (s.clear 6)) := by
  have HF := hid h
  have hf := h.f
  have c5 := hf.cell 5
  have f5 := hf.frozen 5
  have c14 := hf.cell 14
  have f14 := hf.frozen 14
  clear hf h
  go_enter Try.func20, Try.ntmps20
  go_wp2
  have h := HF.out
  have hL := h.lists
  have hB := h.f
  have hW := h.below
  replace hB := hB.setCell 5 (.int .i64 0)
  replace hW := below_setCells hW h.low 5 [.int .i64 0]
  replace hB := hB.setCell 14 (.slice none 0 0)
  replace hW := below_setCells hW h.low 14 [.slice none 0 0]
  exact ret0 rfl rfl ⟨rfl, none, 0, la, lc, ⟨hB, ⟨.inl rfl, hL.l, Nat.zero_le _, hL.ml⟩, h.low, hW⟩⟩
set_option maxRecDepth 20000 in
theorem clear7 {w0 : World} (B : Nat) (s : Sp) (ta : Option Addr) (tc : Nat) (la : Option Addr) (lc : Nat) (w : World) (h : BoxAt w0 B s ta tc la lc w) : Calls Try.prog 20 #[.pointer (some ⟨B, 0, none⟩), .int .i64 7] w (Cleared w0 B (s.clear 7)) := by
  have HF := hid h
  have hf := h.f
  have c14 := hf.cell 14
  have f14 := hf.frozen 14
  clear hf h
  go_enter Try.func20, Try.ntmps20
  go_wp2
  have h := HF.out
  have hL := h.lists
  have hB := h.f
  have hW := h.below
  replace hB := hB.setCell 14 (.slice none 0 0)
  replace hW := below_setCells hW h.low 14 [.slice none 0 0]
  exact ret0 rfl rfl ⟨rfl, none, 0, la, lc, ⟨hB, ⟨.inl rfl, hL.l, Nat.zero_le _, hL.ml⟩, h.low, hW⟩⟩
set_option maxRecDepth 20000 in
theorem clear8 {w0 : World} (B : Nat) (s : Sp) (ta : Option Addr) (tc : Nat) (la : Option Addr) (lc : Nat) (w : World) (h : BoxAt w0 B s ta tc la lc w) : Calls Try.prog 20 #[.pointer (some ⟨B, 0, none⟩), .int .i64 8] w (Cleared w0 B (s.clear 8)) := by
  have HF := hid h
  have hf := h.f
  have c7 := hf.cell 7
  have f7 := hf.frozen 7
  have c8 := hf.cell 8
  have f8 := hf.frozen 8
  have c9 := hf.cell 9
  have f9 := hf.frozen 9
  have c10 := hf.cell 10
  have f10 := hf.frozen 10
  have c11 := hf.cell 11
  have f11 := hf.frozen 11
  clear hf h
  go_enter Try.func20, Try.ntmps20
  go_wp2
  have h := HF.out
  have hL := h.lists
  have hB := h.f
  have hW := h.below
  replace hB := hB.setCell 7 (.int .i64 0)
  replace hW := below_setCells hW h.low 7 [.int .i64 0]
  replace hB := hB.setCell 8 (.int .i64 0)
  replace hW := below_setCells hW h.low 8 [.int .i64 0]
  replace hB := hB.setCell 9 (.int .i64 0)
  replace hW := below_setCells hW h.low 9 [.int .i64 0]
  replace hB := hB.setCell 10 (.int .i64 0)
  replace hW := below_setCells hW h.low 10 [.int .i64 0]
  replace hB := hB.setCell 11 (.int .i64 0)
  replace hW := below_setCells hW h.low 11 [.int .i64 0]
  exact ret0 rfl rfl ⟨rfl, ta, tc, la, lc, ⟨hB, ⟨hL.t, hL.l, hL.mt, hL.ml⟩, h.low, hW⟩⟩
set_option maxRecDepth 20000 in
theorem clear9 {w0 : World} (B : Nat) (s : Sp) (ta : Option Addr) (tc : Nat) (la : Option Addr) (lc : Nat) (w : World) (h : BoxAt w0 B s ta tc la lc w) : Calls Try.prog 20 #[.pointer (some ⟨B, 0, none⟩), .int .i64 9] w (Cleared w0 B (s.clear 9)) := by
  have HF := hid h
  have hf := h.f
  have c7 := hf.cell 7
  have f7 := hf.frozen 7
  have c8 := hf.cell 8
  have f8 := hf.frozen 8
  have c9 := hf.cell 9
  have f9 := hf.frozen 9
  have c10 := hf.cell 10
  have f10 := hf.frozen 10
  have c11 := hf.cell 11
  have f11 := hf.frozen 11
  have c12 := hf.cell 12
  have f12 := hf.frozen 12
  have c13 := hf.cell 13
  have f13 := hf.frozen 13
  clear hf h
  go_enter Try.func20, Try.ntmps20
  go_wp2
  have h := HF.out
  have hL := h.lists
  have hB := h.f
  have hW := h.below
  replace hB := hB.setCell 7 (.int .i64 0)
  replace hW := below_setCells hW h.low 7 [.int .i64 0]
  replace hB := hB.setCell 8 (.int .i64 0)
  replace hW := below_setCells hW h.low 8 [.int .i64 0]
  replace hB := hB.setCell 9 (.int .i64 0)
  replace hW := below_setCells hW h.low 9 [.int .i64 0]
  replace hB := hB.setCell 10 (.int .i64 0)
  replace hW := below_setCells hW h.low 10 [.int .i64 0]
  replace hB := hB.setCell 11 (.int .i64 0)
  replace hW := below_setCells hW h.low 11 [.int .i64 0]
  replace hB := hB.setCell 12 (.int .i64 0)
  replace hW := below_setCells hW h.low 12 [.int .i64 0]
  replace hB := hB.setCell 13 (.string ⟨#[]⟩)
  replace hW := below_setCells hW h.low 13 [.string ⟨#[]⟩]
  exact ret0 rfl rfl ⟨rfl, ta, tc, la, lc, ⟨hB, ⟨hL.t, hL.l, hL.mt, hL.ml⟩, h.low, hW⟩⟩
set_option maxRecDepth 20000 in
theorem clear10 {w0 : World} (B : Nat) (s : Sp) (ta : Option Addr) (tc : Nat) (la : Option Addr) (lc : Nat) (w : World) (h : BoxAt w0 B s ta tc la lc w) : Calls Try.prog 20 #[.pointer (some ⟨B, 0, none⟩), .int .i64 10] w (Cleared w0 B (s.clear 10)) := by
  have HF := hid h
  have hf := h.f
  have c12 := hf.cell 12
  have f12 := hf.frozen 12
  have c13 := hf.cell 13
  have f13 := hf.frozen 13
  clear hf h
  go_enter Try.func20, Try.ntmps20
  go_wp2
  have h := HF.out
  have hL := h.lists
  have hB := h.f
  have hW := h.below
  replace hB := hB.setCell 12 (.int .i64 0)
  replace hW := below_setCells hW h.low 12 [.int .i64 0]
  replace hB := hB.setCell 13 (.string ⟨#[]⟩)
  replace hW := below_setCells hW h.low 13 [.string ⟨#[]⟩]
  exact ret0 rfl rfl ⟨rfl, ta, tc, la, lc, ⟨hB, ⟨hL.t, hL.l, hL.mt, hL.ml⟩, h.low, hW⟩⟩
set_option maxRecDepth 20000 in
theorem clear11 {w0 : World} (B : Nat) (s : Sp) (ta : Option Addr) (tc : Nat) (la : Option Addr) (lc : Nat) (w : World) (h : BoxAt w0 B s ta tc la lc w) : Calls Try.prog 20 #[.pointer (some ⟨B, 0, none⟩), .int .i64 11] w (Cleared w0 B (s.clear 11)) := by
  have HF := hid h
  have hf := h.f
  have c15 := hf.cell 15
  have f15 := hf.frozen 15
  clear hf h
  go_enter Try.func20, Try.ntmps20
  go_wp2
  have h := HF.out
  have hL := h.lists
  have hB := h.f
  have hW := h.below
  replace hB := hB.setCell 15 (.slice none 0 0)
  replace hW := below_setCells hW h.low 15 [.slice none 0 0]
  exact ret0 rfl rfl ⟨rfl, ta, tc, none, 0, ⟨hB, ⟨hL.t, .inl rfl, hL.mt, Nat.zero_le _⟩, h.low, hW⟩⟩
theorem clear_any {w0 : World} (B : Nat) (s : Sp) (ta : Option Addr) (tc : Nat) (la : Option Addr) (lc : Nat) (m : Nat) (hm : m < 12) (w : World) (h : BoxAt w0 B s ta tc la lc w) : Calls Try.prog 20 #[.pointer (some ⟨B, 0, none⟩), .int .i64 (m : Int)] w (Cleared w0 B (s.clear m)) := by
  match m, hm with
  | 0, _ => exact clear0 B s ta tc la lc w h
  | 1, _ => exact clear1 B s ta tc la lc w h
  | 2, _ => exact clear2 B s ta tc la lc w h
  | 3, _ => exact clear3 B s ta tc la lc w h
  | 4, _ => exact clear4 B s ta tc la lc w h
  | 5, _ => exact clear5 B s ta tc la lc w h
  | 6, _ => exact clear6 B s ta tc la lc w h
  | 7, _ => exact clear7 B s ta tc la lc w h
  | 8, _ => exact clear8 B s ta tc la lc w h
  | 9, _ => exact clear9 B s ta tc la lc w h
  | 10, _ => exact clear10 B s ta tc la lc w h
  | 11, _ => exact clear11 B s ta tc la lc w h
end Go.Proofs.Ytpdnfiofjkbeiaa.step
/- Lists of fields held against each other (slices.Equal). No condition. -/
namespace Go.Proofs.Ytpdnfiofjkbeiaa.schema
open Go.RowKit
open Go.Proofs.Ytpdnfiofjkbeiaa.field (Gives newB gives_from)
set_option linter.unusedVariables false

theorem neq_fd (p q : field.Fd) (w : World) : (binOp .neq 23 (.agg #[.int .i64 p.id, .int .i64 p.kind, .int .i64 p.lo, .int .i64 p.hi, .int .i64 p.most]) (.agg #[.int .i64 q.id, .int .i64 q.kind, .int .i64 q.lo, .int .i64 q.hi, .int .i64 q.most])).run Try.prog w = .ok (.bool (!decide (p = q))) w := by
  rw [run_neq_struct, show (10000 : Nat) = 9999 + 1 from rfl, run_equalIn_struct w 9999 23 _ _ (by kernel_rfl) Try.stoodInHeld23]
  go_simp
  obtain ⟨i, k, lo, hi, m⟩ := p
  obtain ⟨i', k', lo', hi', m'⟩ := q
  simp only [field.Fd.mk.injEq]
  by_cases h1 : i = i'
  · by_cases h2 : k = k'
    · by_cases h3 : lo = lo'
      · by_cases h4 : hi = hi'
        · by_cases h5 : m = m' <;> simp [h1, h2, h3, h4, h5]
        · simp [h1, h2, h3, h4]
      · simp [h1, h2, h3]
    · simp [h1, h2]
  · simp [h1]
theorem eq_take_succ {α : Type} {L M : List α} {k : Nat} {p q : α} (hp : L[k]? = some p) (hq : M[k]? = some q) : L.take (k + 1) = M.take (k + 1) ↔ L.take k = M.take k ∧ p = q := by
  rw [take_succ_at hp, take_succ_at hq]
  have h1 := (List.getElem?_eq_some_iff.1 hp).1
  have h2 := (List.getElem?_eq_some_iff.1 hq).1
  constructor
  · intro h
    have := List.append_inj' h rfl
    exact ⟨this.1, by simpa using this.2⟩
  · rintro ⟨h, rfl⟩; rw [h]
theorem equalF_any (a : Option Addr) (ca : Nat) (L : List field.Fd) (b : Option Addr) (cb : Nat) (M : List field.Fd) (w : World) (h : field.Fds w a L) (h' : field.Fds w b M) (hL : L.length ≤ maxLen) (hM : M.length ≤ maxLen) :
    Calls Try.prog 31 #[.slice a L.length ca, .slice b M.length cb] w (Gives (.bool (decide (L = M))) w) := by
  have hml : (L.length : Int) ≤ 9223372036854775807 := by unfold maxLen at hL; omega
  have hmm : (M.length : Int) ≤ 9223372036854775807 := by unfold maxLen at hM; omega
  have HF := hid h
  have HG := hid h'
  obtain ⟨r, hr⟩ : ∃ r : Bool, Hid (decide (L = M) = r) := ⟨_, rfl⟩
  rw [hr.out]
  unfold Gives
  clear h h' hL hM
  by_cases hlen : L.length = M.length
  · have HLEN := hid hlen
    rw [← hlen]
    clear hlen hmm
    go_enter Try.func31, Try.ntmps31
    go_wp2
    go_loopw [13] (fun n wr => ∃ k : Nat, k ≤ L.length ∧ n = .int .i64 (k : Int) ∧ Hid (L.take k = M.take k) ∧ Hid (Below w.heap.size w wr)) (fun n _ => L.length - (intOf n).toNat)
    case atStart => exact ⟨0, Nat.zero_le _, rfl, hid rfl, hid (Below.refl _ _)⟩
    case round =>
      obtain ⟨k, hk, rfl, HEQ, HB⟩ := hrel
      by_cases hlt : k < L.length
      · obtain ⟨g, off, p, rfl, hbl, hp, c0, c1, c2, c3, c4⟩ := field_at HF.out HB.out hlt
        obtain ⟨g', off', q, rfl, hbl', hq, d0, d1, d2, d3, d4⟩ := field_at HG.out HB.out (k := k) (by rw [← HLEN.out]; exact hlt)
        have i1 : (k : Int) < L.length := by omega
        have HS := hid (eq_take_succ hp hq)
        have hne := fun W => neq_fd p q W
        have HNE := hid (fun (hpq : ¬ p = q) => show ¬ L = M from fun e => by rw [e] at hp; exact hpq (Option.some.inj (hp.symm.trans hq)))
        clear hp hq
        by_cases hpq : p = q
        · rw [decide_eq_true hpq] at hne
          have HPQ := hid hpq
          clear hpq
          go_wp2
          go_quiet (fail)
          go_wp2
          exact ⟨⟨k + 1, by omega, by go_num, hid (HS.out.2 ⟨HEQ.out, HPQ.out⟩), hid (below_drewN HB.out _)⟩, by simp [intOf]; omega⟩
        · rw [decide_eq_false hpq] at hne
          obtain rfl : false = r := by rw [← hr.out]; exact (decide_eq_false (HNE.out hpq)).symm
          clear hpq
          go_wp2
          go_quiet (fail)
          go_wp2
          go_ret
          exact ⟨rfl, below_drewN HB.out _⟩
      · obtain rfl : k = L.length := by omega
        obtain rfl : true = r := by
          rw [← hr.out]
          have := HEQ.out
          rw [List.take_of_length_le (Nat.le_refl _), List.take_of_length_le (by rw [HLEN.out]; exact Nat.le_refl _)] at this
          exact (decide_eq_true this).symm
        go_wp2
        go_ret
        exact ⟨rfl, HB.out⟩
  · obtain rfl : false = r := by rw [← hr.out]; exact (decide_eq_false (fun e => hlen (by rw [e]))).symm
    have hd : ((L.length : Int) == (M.length : Int)) = false := by rw [beq_eq_false_iff_ne]; omega
    clear hlen
    go_enter Try.func31, Try.ntmps31
    go_wp2
    go_ret
    exact ⟨rfl, Below.refl _ _⟩
end Go.Proofs.Ytpdnfiofjkbeiaa.schema
/- The first place of a number in a list of numbers. No condition. -/
namespace Go.Proofs.Ytpdnfiofjkbeiaa.schema
open Go.RowKit
open Go.Proofs.Ytpdnfiofjkbeiaa.field (Gives newB gives_from)
set_option linter.unusedVariables false
theorem below_drew {B : Nat} {a w : World} (h : Below B a w) : Below B a w.drew := below_drewN h 1

/-- the place of the first x, or -1 -/
def firstAt (l : List Int) (x : Int) : Int := if x ∈ l then (l.idxOf x : Int) else -1
theorem idxOf_hit : ∀ (l : List Int) (k : Nat) (x : Int), x ∉ l.take k → l[k]? = some x → l.idxOf x = k := by
  intro l
  induction l with
  | nil => intro k x _ h; simp at h
  | cons y l ih =>
    intro k x hn h
    cases k with
    | zero => simp at h; subst h; simp
    | succ k =>
      simp only [List.take_succ_cons, List.mem_cons, not_or] at hn
      have hb : (y == x) = false := beq_eq_false_iff_ne.2 (Ne.symm hn.1)
      rw [List.idxOf_cons, hb, ih k x hn.2 (by simpa using h)]
      rfl
theorem first_hit {l : List Int} {k : Nat} {x : Int} (hn : x ∉ l.take k) (h : l[k]? = some x) : firstAt l x = k := by
  unfold firstAt
  rw [if_pos (List.mem_of_getElem? h), idxOf_hit l k x hn h]
theorem first_none {l : List Int} {x : Int} (hn : x ∉ l) : firstAt l x = -1 := if_neg hn
theorem not_take_succ {l : List Int} {k : Nat} {x y : Int} (hn : x ∉ l.take k) (h : l[k]? = some y) (hy : y ≠ x) : x ∉ l.take (k + 1) := by
  rw [take_succ_at h]; simp [hn]; omega
theorem ids_at {L : List field.Fd} {k : Nat} {p : field.Fd} (h : L[k]? = some p) : (ids L)[k]? = some p.id := by simp [ids, h]
theorem ids_length (L : List field.Fd) : (ids L).length = L.length := List.length_map _
end Go.Proofs.Ytpdnfiofjkbeiaa.schema
/- Contracts of the reference of layer 13 (schema): At, Long. No condition. -/
namespace Go.Proofs.Ytpdnfiofjkbeiaa.schema
open Go.RowKit
open Go.Proofs.Ytpdnfiofjkbeiaa.field (Gives newB gives_from refSize_any)
set_option linter.unusedVariables false

theorem refAt_any (i : Int) (a : Option Addr) (cap : Nat) (L : List field.Fd) (x : Int) (w : World) (h : field.Fds w a L) (hL : L.length ≤ maxLen) :
    Calls Try.prog 53 #[.agg #[.int .i64 i, .slice a L.length cap], .int .i64 x] w (Gives (.int .i64 (firstAt (ids L) x)) w) := by
  have hml : (L.length : Int) ≤ 9223372036854775807 := by unfold maxLen at hL; omega
  have HX := hid (boxM i a L cap w)
  have HF := hid (h.below (newB w (.cells #[.int .i64 i, .slice a L.length cap] 60)))
  obtain ⟨r, hr⟩ : ∃ r : Int, Hid (firstAt (ids L) x = r) := ⟨_, rfl⟩
  rw [hr.out]
  unfold Gives
  clear h hL
  go_enter Try.func53, Try.ntmps53
  go_wp2
  go_loopw [5] (fun n wr => ∃ k : Nat, k ≤ L.length ∧ n = .int .i64 (k : Int) ∧ Hid (x ∉ (ids L).take k) ∧ Hid (Below (w.alloc (.cells #[.int .i64 i, .slice a L.length cap] 60)).heap.size (w.alloc (.cells #[.int .i64 i, .slice a L.length cap] 60)) wr)) (fun n _ => L.length - (intOf n).toNat)
  case atStart => exact ⟨0, Nat.zero_le _, rfl, hid (by simp), hid (Below.refl _ _)⟩
  case round =>
    obtain ⟨k, hk, rfl, HNO, HB⟩ := hrel
    obtain ⟨z0, z1, hbo⟩ := HX.out _ HB.out
    by_cases hlt : k < L.length
    · obtain ⟨b, off, p, rfl, hbl, hp, c0, c1, c2, c3, c4⟩ := field_at HF.out HB.out hlt
      have i1 : (k : Int) < L.length := by omega
      have HHIT := hid (fun e => first_hit HNO.out ((ids_at hp).trans (congrArg some e)))
      have HNX := hid (fun e => not_take_succ HNO.out (ids_at hp) e)
      clear hp
      by_cases hx : p.id = x
      · have hd : (p.id == x) = true := beq_iff_eq.2 hx
        obtain rfl : (k : Int) = r := by rw [← hr.out]; exact (HHIT.out hx).symm
        clear hx
        go_wp2
        go_ret
        exact ⟨rfl, hbo⟩
      · have hd : (p.id == x) = false := beq_eq_false_iff_ne.2 hx
        have HXX := hid hx
        clear hx
        go_wp2
        exact ⟨⟨k + 1, by omega, by go_num, hid (HNX.out HXX.out), HB⟩, by simp [intOf]; omega⟩
    · obtain rfl : k = L.length := by omega
      obtain rfl : -1 = r := by rw [← hr.out]; have := HNO.out; rw [List.take_of_length_le (by rw [ids_length]; exact Nat.le_refl _)] at this; exact (first_none this).symm
      go_wp2
      go_ret
      exact ⟨rfl, hbo⟩
theorem refLong_any (i : Int) (a : Option Addr) (cap : Nat) (L : List field.Fd) (w : World) (h : field.Fds w a L) (hL : L.length ≤ 40) :
    Calls Try.prog 54 #[.agg #[.int .i64 i, .slice a L.length cap]] w (Gives (.int .i64 (size L : Int)) w) := by
  have HX := hid (boxM i a L cap w)
  have HF := hid (h.below (newB w (.cells #[.int .i64 i, .slice a L.length cap] 60)))
  obtain ⟨S, hS⟩ : ∃ S : Nat, Hid (size L = S) := ⟨_, rfl⟩
  rw [hS.out]
  unfold Gives
  clear h
  go_enter Try.func54, Try.ntmps54
  go_wp2
  go_loopw [3, 4] (fun s n wr => ∃ k : Nat, k ≤ L.length ∧ s = .int .i64 (size (L.take k) : Int) ∧ n = .int .i64 (k : Int) ∧ Hid (Below (w.alloc (.cells #[.int .i64 i, .slice a L.length cap] 60)).heap.size (w.alloc (.cells #[.int .i64 i, .slice a L.length cap] 60)) wr)) (fun _ n _ => L.length - (intOf n).toNat)
  case atStart => exact ⟨0, Nat.zero_le _, rfl, rfl, hid (Below.refl _ _)⟩
  case round =>
    obtain ⟨k, hk, rfl, rfl, HB⟩ := hrel
    obtain ⟨z0, z1, hbo⟩ := HX.out _ HB.out
    by_cases hlt : k < L.length
    · obtain ⟨b, off, p, rfl, hbl, hp, c0, c1, c2, c3, c4⟩ := field_at HF.out HB.out hlt
      have i1 : (k : Int) < L.length := by omega
      have HSZ := hid (size_succ hp)
      have hst := size_take L k
      have cs := fun w' => refSize_any p w'
      have hps := fd_size_le p
      clear hp
      generalize size (L.take k) = s at *
      go_wp2_with (go_at_call 79; ((with_reducible refine (cs _).mono ?_); rintro e w2 ⟨rfl, hb2⟩))
      exact ⟨⟨k + 1, by omega, by rw [HSZ.out]; go_num, by go_num, hid (HB.out.trans (hb2.mono HB.out.size))⟩, by simp [intOf]; omega⟩
    · obtain rfl : k = L.length := by omega
      go_wp2
      go_ret
      exact ⟨ret_int (by rw [← hS.out, List.take_of_length_le (Nat.le_refl _)]), hbo⟩
end Go.Proofs.Ytpdnfiofjkbeiaa.schema
/- Single operations of the references of layer 13, run by themselves. No condition. -/
namespace Go.Proofs.Ytpdnfiofjkbeiaa.schema
open Go.RowKit
set_option linter.unusedVariables false
section
variable {o : Oper} {a : Act} {w : World}
theorem exec_two {op : BinOp} {t t' : TypeId} {x y : Operand} {vx vy u : Value} (ho : o.op = .binOp op t x y t') (hx : a.eval x = vx) (hy : a.eval y = vy)
    (hg : (eqGuard op t x y vx vy).run Try.prog w = .ok () w) (hr : (binOp op t vx vy).run Try.prog w = .ok u w) : (execOp a.eval o).run Try.prog w = .ok (.value u) w := by
  unfold execOp
  simp [ho, hx, hy, Sem.run_bind, hg, hr]
theorem exec_neq_int {x y : Operand} {t' : TypeId} {n m : Int} {r : Bool} (ho : o.op = .binOp .neq 3 x y t') (hx : a.eval x = .int .i64 n) (hy : a.eval y = .int .i64 m) (h : Hid ((n != m) = r)) : (execOp a.eval o).run Try.prog w = .ok (.value (.bool r)) w :=
  exec_two ho hx hy (by simp [go_sem]) (by rw [← h.out]; simp [go_sem])
theorem exec_gtr_int {x y : Operand} {t' : TypeId} {n m : Int} {r : Bool} (ho : o.op = .binOp .gtr 3 x y t') (hx : a.eval x = .int .i64 n) (hy : a.eval y = .int .i64 m) (h : Hid (decide (n > m) = r)) : (execOp a.eval o).run Try.prog w = .ok (.value (.bool r)) w :=
  exec_two ho hx hy (by simp [go_sem]) (by rw [← h.out]; simp [go_sem])
theorem exec_geq_int {x y : Operand} {t' : TypeId} {n m : Int} {r : Bool} (ho : o.op = .binOp .geq 3 x y t') (hx : a.eval x = .int .i64 n) (hy : a.eval y = .int .i64 m) (h : Hid (decide (n ≥ m) = r)) : (execOp a.eval o).run Try.prog w = .ok (.value (.bool r)) w :=
  exec_two ho hx hy (by simp [go_sem]) (by rw [← h.out]; simp [go_sem])
theorem exec_pred {x y : Operand} {t' : TypeId} {k : Nat} (ho : o.op = .binOp .sub 3 x y t') (hx : a.eval x = .int .i64 ((k + 1 : Nat) : Int)) (hy : a.eval y = .int .i64 1) (h : k < 1000000) : (execOp a.eval o).run Try.prog w = .ok (.value (.int .i64 (k : Int))) w :=
  exec_two ho hx hy (by simp [go_sem]) (by
    have : IntKind.i64.wrap (((k + 1 : Nat) : Int) - 1) = (k : Int) := by rw [show ((k + 1 : Nat) : Int) - 1 = (k : Int) by omega]; exact IntWalk.i64_in _ (by omega)
    simp only [go_sem]
    rw [this]
    simp [go_sem])
theorem exec_indexF {x y : Operand} {b off len cap i : Nat} (ho : o.op = .indexAddr 27 x y) (hx : a.eval x = .slice (some ⟨b, off, none⟩) len cap) (hy : a.eval y = .int .i64 (i : Int)) (hi : i < len) :
    (execOp a.eval o).run Try.prog w = .ok (.value (.pointer (some ⟨b, off + i * 5, none⟩))) w := by
  unfold execOp
  rw [ho]
  simp only [hx, hy]
  go_simp
theorem exec_cell_int {ty : TypeId} {x : Operand} {ad : Addr} {k : IntKind} {n : Int} (ho : o.op = .load ty x) (hx : a.eval x = .pointer (some ad)) (hc : w.cell? ad = some (.int k n)) (hu : ∀ w', (isAgg ty).run Try.prog w' = .ok false w') :
    (execOp a.eval o).run Try.prog w = .ok (.value (.int k n)) w := by
  unfold execOp
  rw [ho]
  simp only [hx]
  go_simp
theorem exec_cell_slice {ty : TypeId} {x : Operand} {ad : Addr} {q : Option Addr} {n c : Nat} (ho : o.op = .load ty x) (hx : a.eval x = .pointer (some ad)) (hc : w.cell? ad = some (.slice q n c)) (hu : ∀ w', (isAgg ty).run Try.prog w' = .ok false w') :
    (execOp a.eval o).run Try.prog w = .ok (.value (.slice q n c)) w := by
  unfold execOp
  rw [ho]
  simp only [hx]
  go_simp
theorem exec_load_at {ty : TypeId} {x : Operand} {b off : Nat} {cs : List Value} {d : TypeDesc} (ho : o.op = .load ty x) (hx : a.eval x = .pointer (some ⟨b, off, none⟩)) (hc : w.rangeAt b off cs)
    (hu : Try.prog.underlying ty = some d) (hd : d.isRow = true) (hi : (Try.prog.info? ty).map (·.size) = some cs.length) : (execOp a.eval o).run Try.prog w = .ok (.value (.agg cs.toArray)) w := by
  unfold execOp
  simp [ho, hx, run_loadAt_mid w b off ty cs d hc hu hd hi]
end
theorem info_fd : Hid ((Try.prog.info? 23).map (·.size) = some 5) := by show _ = _; kernel_rfl
theorem info_fm : Hid ((Try.prog.info? 60).map (·.size) = some 2) := by show _ = _; kernel_rfl
theorem range_later {w w' : World} {b o : Nat} {cs : List Value} (h : w.rangeAt b o cs) (hb : Below w.heap.size w w') (hlt : b < w.heap.size) : w'.rangeAt b o cs := fun j v hj => (hb.cell (p := ⟨b, o + j, none⟩) hlt).trans (h j v hj)
theorem range5 {w : World} {b o : Nat} {v0 v1 v2 v3 v4 : Value} (h0 : w.cell? ⟨b, o, none⟩ = some v0) (h1 : w.cell? ⟨b, o + 1, none⟩ = some v1) (h2 : w.cell? ⟨b, o + 2, none⟩ = some v2) (h3 : w.cell? ⟨b, o + 3, none⟩ = some v3) (h4 : w.cell? ⟨b, o + 4, none⟩ = some v4) : w.rangeAt b o [v0, v1, v2, v3, v4]
  | 0, v, hj => by cases hj; exact h0
  | 1, v, hj => by cases hj; exact h1
  | 2, v, hj => by cases hj; exact h2
  | 3, v, hj => by cases hj; exact h3
  | 4, v, hj => by cases hj; exact h4
  | n + 5, v, hj => by simp at hj
theorem range2 {w : World} {b o : Nat} {v0 v1 : Value} (h0 : w.cell? ⟨b, o, none⟩ = some v0) (h1 : w.cell? ⟨b, o + 1, none⟩ = some v1) : w.rangeAt b o [v0, v1]
  | 0, v, hj => by cases hj; exact h0
  | 1, v, hj => by cases hj; exact h1
  | n + 2, v, hj => by simp at hj
theorem idxOf_lt_of_take : ∀ (l : List Int) (k : Nat) (x : Int), x ∈ l.take k → l.idxOf x < k
  | l, 0, x, h => by simp at h
  | [], k + 1, x, h => by simp at h
  | y :: l, k + 1, x, h => by
    by_cases hy : y = x
    · subst hy; simp
    · have hb : (y == x) = false := beq_eq_false_iff_ne.2 hy
      rw [List.take_succ_cons, List.mem_cons] at h
      have := idxOf_lt_of_take l k x (h.resolve_left (Ne.symm hy))
      rw [List.idxOf_cons, hb]
      show l.idxOf x + 1 < k + 1
      omega
/-- the first place of what stands at k is k where it does not stand ahead -/
theorem at_iff {l : List Int} {k : Nat} {x : Int} (h : l[k]? = some x) : firstAt l x = k ↔ x ∉ l.take k := by
  constructor
  · intro he hm
    have := idxOf_lt_of_take l k x hm
    unfold firstAt at he
    rw [if_pos (List.mem_of_getElem? h)] at he
    omega
  · intro hn; exact first_hit hn h
theorem ids_take (L : List field.Fd) (k : Nat) : ids (L.take k) = (ids L).take k := by unfold ids; rw [List.map_take]
end Go.Proofs.Ytpdnfiofjkbeiaa.schema
