/- Contracts and lemmas that the claims of this seat share: StepFine, PenHold, StepClear, FieldsSame. Each says its own conditions. -/
import Derived.Test.YtiajpjkkopdmgaaCmG
import Derived.Test.YtiajpjkkopdmgaaCmN
import Derived.Test.YtiajpjkkopdmgaaCmE
import Derived.Test.YtiajpjkkopdmgaaCmD
import Derived.Test.YtiajpjkkopdmgaaCmA
import Derived.Maps.AppendAt
import Derived.Laws.StructEq

namespace Go.Proofs.Ytiajpjkkopdmgaa.step
open Go.RowKit
open Go.Proofs.Ytiajpjkkopdmgaa.field (Gives newB gives_from)
open Go.Proofs.Ytiajpjkkopdmgaa.schema (below_out)
set_option linter.unusedVariables false

set_option maxRecDepth 20000 in
theorem fine0 (s : Sp) (ta : Option Addr) (tc : Nat) (la : Option Addr) (lc : Nat) (w : World) (h : Lists w s ta la) : Calls Try.prog 70 #[.agg #[.int .i64 s.op, .int .i64 s.fm, .int .i64 s.fd, .int .i64 s.pl, .int .i64 s.tt, .int .i64 s.a, .int .i64 s.b, .int .i64 s.f.id, .int .i64 s.f.kind, .int .i64 s.f.lo, .int .i64 s.f.hi, .int .i64 s.f.most, .int .i64 s.v.n, .string s.v.s, .slice ta s.t.length tc, .slice la s.l.length lc], .int .i64 0] w (Gives (.bool (decide (s.Fine 0))) w) := by
  have HX := hid (boxP s ta tc la lc w)
  have HL := hid (h.below (newB w (.cells #[.int .i64 s.op, .int .i64 s.fm, .int .i64 s.fd, .int .i64 s.pl, .int .i64 s.tt, .int .i64 s.a, .int .i64 s.b, .int .i64 s.f.id, .int .i64 s.f.kind, .int .i64 s.f.lo, .int .i64 s.f.hi, .int .i64 s.f.most, .int .i64 s.v.n, .string s.v.s, .slice ta s.t.length tc, .slice la s.l.length lc] 32)))
  obtain ⟨r, hr⟩ : ∃ r : Bool, Hid (decide (s.Fine 0) = r) := ⟨_, rfl⟩
  rw [hr.out]
  unfold Gives
  clear h
  have cW : From 95 #[.int .i64 s.fm, .int .i64 0, .int .i64 200] (.bool r) (w.alloc (.cells #[.int .i64 s.op, .int .i64 s.fm, .int .i64 s.fd, .int .i64 s.pl, .int .i64 s.tt, .int .i64 s.a, .int .i64 s.b, .int .i64 s.f.id, .int .i64 s.f.kind, .int .i64 s.f.lo, .int .i64 s.f.hi, .int .i64 s.f.most, .int .i64 s.v.n, .string s.v.s, .slice ta s.t.length tc, .slice la s.l.length lc] 32)) := from_all _ (fun w' => hr.out ▸ within_any s.fm 0 200 w')
  go_enter Try.func70, Try.ntmps70
  go_wp2_with (first
    | (go_at_call 95; ((with_reducible refine (cW _ (by first | exact Below.refl _ _ | assumption)).mono ?_); rintro e w2 ⟨rfl, hb2⟩; obtain ⟨⟨z0, z1, z2, z3, z4, z5, z6, z7, z8, z9, z10, z11, z12, z13, z14, z15⟩, hbo⟩ := HX.out _ hb2)))
  go_ret
  exact ⟨rfl, hbo⟩
set_option maxRecDepth 20000 in
theorem fine1 (s : Sp) (ta : Option Addr) (tc : Nat) (la : Option Addr) (lc : Nat) (w : World) (h : Lists w s ta la) : Calls Try.prog 70 #[.agg #[.int .i64 s.op, .int .i64 s.fm, .int .i64 s.fd, .int .i64 s.pl, .int .i64 s.tt, .int .i64 s.a, .int .i64 s.b, .int .i64 s.f.id, .int .i64 s.f.kind, .int .i64 s.f.lo, .int .i64 s.f.hi, .int .i64 s.f.most, .int .i64 s.v.n, .string s.v.s, .slice ta s.t.length tc, .slice la s.l.length lc], .int .i64 1] w (Gives (.bool (decide (s.Fine 1))) w) := by
  have HX := hid (boxP s ta tc la lc w)
  have HL := hid (h.below (newB w (.cells #[.int .i64 s.op, .int .i64 s.fm, .int .i64 s.fd, .int .i64 s.pl, .int .i64 s.tt, .int .i64 s.a, .int .i64 s.b, .int .i64 s.f.id, .int .i64 s.f.kind, .int .i64 s.f.lo, .int .i64 s.f.hi, .int .i64 s.f.most, .int .i64 s.v.n, .string s.v.s, .slice ta s.t.length tc, .slice la s.l.length lc] 32)))
  obtain ⟨r, hr⟩ : ∃ r : Bool, Hid (decide (s.Fine 1) = r) := ⟨_, rfl⟩
  rw [hr.out]
  unfold Gives
  clear h
  have cW : From 95 #[.int .i64 s.fd, .int .i64 0, .int .i64 255] (.bool r) (w.alloc (.cells #[.int .i64 s.op, .int .i64 s.fm, .int .i64 s.fd, .int .i64 s.pl, .int .i64 s.tt, .int .i64 s.a, .int .i64 s.b, .int .i64 s.f.id, .int .i64 s.f.kind, .int .i64 s.f.lo, .int .i64 s.f.hi, .int .i64 s.f.most, .int .i64 s.v.n, .string s.v.s, .slice ta s.t.length tc, .slice la s.l.length lc] 32)) := from_all _ (fun w' => hr.out ▸ within_any s.fd 0 255 w')
  go_enter Try.func70, Try.ntmps70
  go_wp2_with (first
    | (go_at_call 95; ((with_reducible refine (cW _ (by first | exact Below.refl _ _ | assumption)).mono ?_); rintro e w2 ⟨rfl, hb2⟩; obtain ⟨⟨z0, z1, z2, z3, z4, z5, z6, z7, z8, z9, z10, z11, z12, z13, z14, z15⟩, hbo⟩ := HX.out _ hb2)))
  go_ret
  exact ⟨rfl, hbo⟩
set_option maxRecDepth 20000 in
theorem fine2 (s : Sp) (ta : Option Addr) (tc : Nat) (la : Option Addr) (lc : Nat) (w : World) (h : Lists w s ta la) : Calls Try.prog 70 #[.agg #[.int .i64 s.op, .int .i64 s.fm, .int .i64 s.fd, .int .i64 s.pl, .int .i64 s.tt, .int .i64 s.a, .int .i64 s.b, .int .i64 s.f.id, .int .i64 s.f.kind, .int .i64 s.f.lo, .int .i64 s.f.hi, .int .i64 s.f.most, .int .i64 s.v.n, .string s.v.s, .slice ta s.t.length tc, .slice la s.l.length lc], .int .i64 2] w (Gives (.bool (decide (s.Fine 2))) w) := by
  have HX := hid (boxP s ta tc la lc w)
  have HL := hid (h.below (newB w (.cells #[.int .i64 s.op, .int .i64 s.fm, .int .i64 s.fd, .int .i64 s.pl, .int .i64 s.tt, .int .i64 s.a, .int .i64 s.b, .int .i64 s.f.id, .int .i64 s.f.kind, .int .i64 s.f.lo, .int .i64 s.f.hi, .int .i64 s.f.most, .int .i64 s.v.n, .string s.v.s, .slice ta s.t.length tc, .slice la s.l.length lc] 32)))
  obtain ⟨r, hr⟩ : ∃ r : Bool, Hid (decide (s.Fine 2) = r) := ⟨_, rfl⟩
  rw [hr.out]
  unfold Gives
  clear h
  have cW : From 95 #[.int .i64 s.pl, .int .i64 0, .int .i64 8] (.bool r) (w.alloc (.cells #[.int .i64 s.op, .int .i64 s.fm, .int .i64 s.fd, .int .i64 s.pl, .int .i64 s.tt, .int .i64 s.a, .int .i64 s.b, .int .i64 s.f.id, .int .i64 s.f.kind, .int .i64 s.f.lo, .int .i64 s.f.hi, .int .i64 s.f.most, .int .i64 s.v.n, .string s.v.s, .slice ta s.t.length tc, .slice la s.l.length lc] 32)) := from_all _ (fun w' => hr.out ▸ within_any s.pl 0 8 w')
  go_enter Try.func70, Try.ntmps70
  go_wp2_with (first
    | (go_at_call 95; ((with_reducible refine (cW _ (by first | exact Below.refl _ _ | assumption)).mono ?_); rintro e w2 ⟨rfl, hb2⟩; obtain ⟨⟨z0, z1, z2, z3, z4, z5, z6, z7, z8, z9, z10, z11, z12, z13, z14, z15⟩, hbo⟩ := HX.out _ hb2)))
  go_ret
  exact ⟨rfl, hbo⟩
set_option maxRecDepth 20000 in
theorem fine4 (s : Sp) (ta : Option Addr) (tc : Nat) (la : Option Addr) (lc : Nat) (w : World) (h : Lists w s ta la) : Calls Try.prog 70 #[.agg #[.int .i64 s.op, .int .i64 s.fm, .int .i64 s.fd, .int .i64 s.pl, .int .i64 s.tt, .int .i64 s.a, .int .i64 s.b, .int .i64 s.f.id, .int .i64 s.f.kind, .int .i64 s.f.lo, .int .i64 s.f.hi, .int .i64 s.f.most, .int .i64 s.v.n, .string s.v.s, .slice ta s.t.length tc, .slice la s.l.length lc], .int .i64 4] w (Gives (.bool (decide (s.Fine 4))) w) := by
  have HX := hid (boxP s ta tc la lc w)
  have HL := hid (h.below (newB w (.cells #[.int .i64 s.op, .int .i64 s.fm, .int .i64 s.fd, .int .i64 s.pl, .int .i64 s.tt, .int .i64 s.a, .int .i64 s.b, .int .i64 s.f.id, .int .i64 s.f.kind, .int .i64 s.f.lo, .int .i64 s.f.hi, .int .i64 s.f.most, .int .i64 s.v.n, .string s.v.s, .slice ta s.t.length tc, .slice la s.l.length lc] 32)))
  obtain ⟨r, hr⟩ : ∃ r : Bool, Hid (decide (s.Fine 4) = r) := ⟨_, rfl⟩
  rw [hr.out]
  unfold Gives
  clear h
  have cW : From 95 #[.int .i64 s.a, .int .i64 2, .int .i64 1048576] (.bool r) (w.alloc (.cells #[.int .i64 s.op, .int .i64 s.fm, .int .i64 s.fd, .int .i64 s.pl, .int .i64 s.tt, .int .i64 s.a, .int .i64 s.b, .int .i64 s.f.id, .int .i64 s.f.kind, .int .i64 s.f.lo, .int .i64 s.f.hi, .int .i64 s.f.most, .int .i64 s.v.n, .string s.v.s, .slice ta s.t.length tc, .slice la s.l.length lc] 32)) := from_all _ (fun w' => hr.out ▸ within_any s.a 2 1048576 w')
  go_enter Try.func70, Try.ntmps70
  go_wp2_with (first
    | (go_at_call 95; ((with_reducible refine (cW _ (by first | exact Below.refl _ _ | assumption)).mono ?_); rintro e w2 ⟨rfl, hb2⟩; obtain ⟨⟨z0, z1, z2, z3, z4, z5, z6, z7, z8, z9, z10, z11, z12, z13, z14, z15⟩, hbo⟩ := HX.out _ hb2)))
  go_ret
  exact ⟨rfl, hbo⟩
set_option maxRecDepth 20000 in
theorem fine3 (s : Sp) (ta : Option Addr) (tc : Nat) (la : Option Addr) (lc : Nat) (w : World) (h : Lists w s ta la) : Calls Try.prog 70 #[.agg #[.int .i64 s.op, .int .i64 s.fm, .int .i64 s.fd, .int .i64 s.pl, .int .i64 s.tt, .int .i64 s.a, .int .i64 s.b, .int .i64 s.f.id, .int .i64 s.f.kind, .int .i64 s.f.lo, .int .i64 s.f.hi, .int .i64 s.f.most, .int .i64 s.v.n, .string s.v.s, .slice ta s.t.length tc, .slice la s.l.length lc], .int .i64 3] w (Gives (.bool (decide (s.Fine 3))) w) := by
  have HX := hid (boxP s ta tc la lc w)
  have HL := hid (h.below (newB w (.cells #[.int .i64 s.op, .int .i64 s.fm, .int .i64 s.fd, .int .i64 s.pl, .int .i64 s.tt, .int .i64 s.a, .int .i64 s.b, .int .i64 s.f.id, .int .i64 s.f.kind, .int .i64 s.f.lo, .int .i64 s.f.hi, .int .i64 s.f.most, .int .i64 s.v.n, .string s.v.s, .slice ta s.t.length tc, .slice la s.l.length lc] 32)))
  obtain ⟨r, hr⟩ : ∃ r : Bool, Hid (decide (s.Fine 3) = r) := ⟨_, rfl⟩
  rw [hr.out]
  unfold Gives
  clear h
  have cW := fun v (hv : decide (0 ≤ s.tt ∧ s.tt ≤ 255) = v) => from_all (w.alloc (.cells #[.int .i64 s.op, .int .i64 s.fm, .int .i64 s.fd, .int .i64 s.pl, .int .i64 s.tt, .int .i64 s.a, .int .i64 s.b, .int .i64 s.f.id, .int .i64 s.f.kind, .int .i64 s.f.lo, .int .i64 s.f.hi, .int .i64 s.f.most, .int .i64 s.v.n, .string s.v.s, .slice ta s.t.length tc, .slice la s.l.length lc] 32)) (fun w' => hv ▸ within_any s.tt 0 255 w')
  by_cases h1 : 0 ≤ s.tt ∧ s.tt ≤ 255
  · replace cW := cW true (decide_eq_true h1)
    by_cases h2 : s.tt = s.fd
    · obtain rfl : false = r := by rw [← hr.out]; exact (decide_eq_false (fun h => h.2 h2)).symm
      have d2 : (s.tt != s.fd) = false := by simp [h2]
      have d3 : (s.tt == s.fd) = true := by simp [h2]
      clear h1 h2
      go_enter Try.func70, Try.ntmps70
      go_wp2_with (first
        | (go_at_call 95; ((with_reducible refine (cW _ (by first | exact Below.refl _ _ | assumption)).mono ?_); rintro e w2 ⟨rfl, hb2⟩; obtain ⟨⟨z0, z1, z2, z3, z4, z5, z6, z7, z8, z9, z10, z11, z12, z13, z14, z15⟩, hbo⟩ := HX.out _ hb2)))
      go_ret
      exact ⟨rfl, hbo⟩
    · obtain rfl : true = r := by rw [← hr.out]; exact (decide_eq_true ⟨h1, h2⟩).symm
      have d2 : (s.tt != s.fd) = true := by simp [h2]
      have d3 : (s.tt == s.fd) = false := by simp [h2]
      clear h1 h2
      go_enter Try.func70, Try.ntmps70
      go_wp2_with (first
        | (go_at_call 95; ((with_reducible refine (cW _ (by first | exact Below.refl _ _ | assumption)).mono ?_); rintro e w2 ⟨rfl, hb2⟩; obtain ⟨⟨z0, z1, z2, z3, z4, z5, z6, z7, z8, z9, z10, z11, z12, z13, z14, z15⟩, hbo⟩ := HX.out _ hb2)))
      go_ret
      exact ⟨rfl, hbo⟩
  · replace cW := cW false (decide_eq_false h1)
    obtain rfl : false = r := by rw [← hr.out]; exact (decide_eq_false (fun h => h1 h.1)).symm
    clear h1
    go_enter Try.func70, Try.ntmps70
    go_wp2_with (first
      | (go_at_call 95; ((with_reducible refine (cW _ (by first | exact Below.refl _ _ | assumption)).mono ?_); rintro e w2 ⟨rfl, hb2⟩; obtain ⟨⟨z0, z1, z2, z3, z4, z5, z6, z7, z8, z9, z10, z11, z12, z13, z14, z15⟩, hbo⟩ := HX.out _ hb2)))
    go_ret
    exact ⟨rfl, hbo⟩
set_option maxRecDepth 20000 in
theorem fine5 (s : Sp) (ta : Option Addr) (tc : Nat) (la : Option Addr) (lc : Nat) (w : World) (h : Lists w s ta la) : Calls Try.prog 70 #[.agg #[.int .i64 s.op, .int .i64 s.fm, .int .i64 s.fd, .int .i64 s.pl, .int .i64 s.tt, .int .i64 s.a, .int .i64 s.b, .int .i64 s.f.id, .int .i64 s.f.kind, .int .i64 s.f.lo, .int .i64 s.f.hi, .int .i64 s.f.most, .int .i64 s.v.n, .string s.v.s, .slice ta s.t.length tc, .slice la s.l.length lc], .int .i64 5] w (Gives (.bool (decide (s.Fine 5))) w) := by
  have HX := hid (boxP s ta tc la lc w)
  have HL := hid (h.below (newB w (.cells #[.int .i64 s.op, .int .i64 s.fm, .int .i64 s.fd, .int .i64 s.pl, .int .i64 s.tt, .int .i64 s.a, .int .i64 s.b, .int .i64 s.f.id, .int .i64 s.f.kind, .int .i64 s.f.lo, .int .i64 s.f.hi, .int .i64 s.f.most, .int .i64 s.v.n, .string s.v.s, .slice ta s.t.length tc, .slice la s.l.length lc] 32)))
  obtain ⟨r, hr⟩ : ∃ r : Bool, Hid (decide (s.Fine 5) = r) := ⟨_, rfl⟩
  rw [hr.out]
  unfold Gives
  clear h
  have cW := fun v (hv : decide (-1048576 ≤ s.a ∧ s.a ≤ 1048576) = v) => from_all (w.alloc (.cells #[.int .i64 s.op, .int .i64 s.fm, .int .i64 s.fd, .int .i64 s.pl, .int .i64 s.tt, .int .i64 s.a, .int .i64 s.b, .int .i64 s.f.id, .int .i64 s.f.kind, .int .i64 s.f.lo, .int .i64 s.f.hi, .int .i64 s.f.most, .int .i64 s.v.n, .string s.v.s, .slice ta s.t.length tc, .slice la s.l.length lc] 32)) (fun w' => hv ▸ within_any s.a (-1048576) 1048576 w')
  have cV := fun v (hv : decide (-1099511627776 ≤ s.b ∧ s.b ≤ 1099511627776) = v) => from_all (w.alloc (.cells #[.int .i64 s.op, .int .i64 s.fm, .int .i64 s.fd, .int .i64 s.pl, .int .i64 s.tt, .int .i64 s.a, .int .i64 s.b, .int .i64 s.f.id, .int .i64 s.f.kind, .int .i64 s.f.lo, .int .i64 s.f.hi, .int .i64 s.f.most, .int .i64 s.v.n, .string s.v.s, .slice ta s.t.length tc, .slice la s.l.length lc] 32)) (fun w' => hv ▸ within_any s.b (-1099511627776) 1099511627776 w')
  by_cases h1 : -1048576 ≤ s.a ∧ s.a ≤ 1048576
  · replace cW := cW true (decide_eq_true h1)
    by_cases h2 : s.a = 0
    · obtain rfl : false = r := by rw [← hr.out]; exact (decide_eq_false (fun h => h.1.2 h2)).symm
      have d2 : (s.a != 0) = false := by simp [h2]
      have d3 : (s.a == 0) = true := by simp [h2]
      clear h1 h2
      go_enter Try.func70, Try.ntmps70
      go_wp2_with (first
        | (go_at_call 95; ((with_reducible refine (cW _ (by first | exact Below.refl _ _ | assumption)).mono ?_); rintro e w2 ⟨rfl, hb2⟩; obtain ⟨⟨z0, z1, z2, z3, z4, z5, z6, z7, z8, z9, z10, z11, z12, z13, z14, z15⟩, hbo⟩ := HX.out _ hb2)))
      go_ret
      exact ⟨rfl, hbo⟩
    · have d2 : (s.a != 0) = true := by simp [h2]
      have d3 : (s.a == 0) = false := by simp [h2]
      replace cV := cV r (by rw [← hr.out]; exact decide_eq_decide.2 ⟨fun h => ⟨⟨h1, h2⟩, h⟩, fun h => h.2⟩)
      clear h1 h2
      go_enter Try.func70, Try.ntmps70
      go_wp2_with (first
        | (go_at_call 95; ((with_reducible refine (cW _ (by first | exact Below.refl _ _ | assumption)).mono ?_); rintro e w2 ⟨rfl, hb2⟩; obtain ⟨⟨z0, z1, z2, z3, z4, z5, z6, z7, z8, z9, z10, z11, z12, z13, z14, z15⟩, hbo⟩ := HX.out _ hb2))
        | (go_at_call 95; ((with_reducible refine (cV _ (by first | exact Below.refl _ _ | assumption)).mono ?_); rintro e w2 ⟨rfl, hb2⟩; obtain ⟨⟨z0, z1, z2, z3, z4, z5, z6, z7, z8, z9, z10, z11, z12, z13, z14, z15⟩, hbo⟩ := HX.out _ hb2)))
      go_ret
      exact ⟨rfl, hbo⟩
  · replace cW := cW false (decide_eq_false h1)
    obtain rfl : false = r := by rw [← hr.out]; exact (decide_eq_false (fun h => h1 h.1.1)).symm
    clear h1
    go_enter Try.func70, Try.ntmps70
    go_wp2_with (first
      | (go_at_call 95; ((with_reducible refine (cW _ (by first | exact Below.refl _ _ | assumption)).mono ?_); rintro e w2 ⟨rfl, hb2⟩; obtain ⟨⟨z0, z1, z2, z3, z4, z5, z6, z7, z8, z9, z10, z11, z12, z13, z14, z15⟩, hbo⟩ := HX.out _ hb2)))
    go_ret
    exact ⟨rfl, hbo⟩
set_option maxRecDepth 20000 in
theorem fine6 (s : Sp) (ta : Option Addr) (tc : Nat) (la : Option Addr) (lc : Nat) (w : World) (h : Lists w s ta la) : Calls Try.prog 70 #[.agg #[.int .i64 s.op, .int .i64 s.fm, .int .i64 s.fd, .int .i64 s.pl, .int .i64 s.tt, .int .i64 s.a, .int .i64 s.b, .int .i64 s.f.id, .int .i64 s.f.kind, .int .i64 s.f.lo, .int .i64 s.f.hi, .int .i64 s.f.most, .int .i64 s.v.n, .string s.v.s, .slice ta s.t.length tc, .slice la s.l.length lc], .int .i64 6] w (Gives (.bool (decide (s.Fine 6))) w) := by
  have HX := hid (boxP s ta tc la lc w)
  have HL := hid (h.below (newB w (.cells #[.int .i64 s.op, .int .i64 s.fm, .int .i64 s.fd, .int .i64 s.pl, .int .i64 s.tt, .int .i64 s.a, .int .i64 s.b, .int .i64 s.f.id, .int .i64 s.f.kind, .int .i64 s.f.lo, .int .i64 s.f.hi, .int .i64 s.f.most, .int .i64 s.v.n, .string s.v.s, .slice ta s.t.length tc, .slice la s.l.length lc] 32)))
  obtain ⟨r, hr⟩ : ∃ r : Bool, Hid (decide (s.Fine 6) = r) := ⟨_, rfl⟩
  rw [hr.out]
  unfold Gives
  clear h
  have cW := fun v (hv : decide (1 ≤ s.a ∧ s.a ≤ 1000) = v) => from_all (w.alloc (.cells #[.int .i64 s.op, .int .i64 s.fm, .int .i64 s.fd, .int .i64 s.pl, .int .i64 s.tt, .int .i64 s.a, .int .i64 s.b, .int .i64 s.f.id, .int .i64 s.f.kind, .int .i64 s.f.lo, .int .i64 s.f.hi, .int .i64 s.f.most, .int .i64 s.v.n, .string s.v.s, .slice ta s.t.length tc, .slice la s.l.length lc] 32)) (fun w' => hv ▸ within_any s.a 1 1000 w')
  by_cases h1 : 1 ≤ s.a ∧ s.a ≤ 1000
  · replace cW := cW true (decide_eq_true h1)
    have cT : From 96 #[.slice ta s.t.length tc, .int .i64 s.a] (.bool r) (w.alloc (.cells #[.int .i64 s.op, .int .i64 s.fm, .int .i64 s.fd, .int .i64 s.pl, .int .i64 s.tt, .int .i64 s.a, .int .i64 s.b, .int .i64 s.f.id, .int .i64 s.f.kind, .int .i64 s.f.lo, .int .i64 s.f.hi, .int .i64 s.f.most, .int .i64 s.v.n, .string s.v.s, .slice ta s.t.length tc, .slice la s.l.length lc] 32)) := from_in _ (fun w' hb => by
      have e : decide (Table s.t s.a) = r := by rw [← hr.out]; exact decide_eq_decide.2 ⟨fun h => ⟨h1, h⟩, fun h => h.2⟩
      exact e ▸ fineTable_any ta tc s.t s.a h1.1 h1.2 w' ((HL.out.below hb).t) HL.out.mt)
    clear h1
    go_enter Try.func70, Try.ntmps70
    go_wp2_with (first
      | (go_at_call 95; ((with_reducible refine (cW _ (by first | exact Below.refl _ _ | assumption)).mono ?_); rintro e w2 ⟨rfl, hb2⟩; obtain ⟨⟨z0, z1, z2, z3, z4, z5, z6, z7, z8, z9, z10, z11, z12, z13, z14, z15⟩, hbo⟩ := HX.out _ hb2))
      | (go_at_call 96; ((with_reducible refine (cT _ (by first | exact Below.refl _ _ | assumption)).mono ?_); rintro e w2 ⟨rfl, hb2⟩; obtain ⟨⟨z0, z1, z2, z3, z4, z5, z6, z7, z8, z9, z10, z11, z12, z13, z14, z15⟩, hbo⟩ := HX.out _ hb2)))
    go_ret
    exact ⟨rfl, hbo⟩
  · replace cW := cW false (decide_eq_false h1)
    obtain rfl : false = r := by rw [← hr.out]; exact (decide_eq_false (fun h => h1 h.1)).symm
    clear h1
    go_enter Try.func70, Try.ntmps70
    go_wp2_with (first
      | (go_at_call 95; ((with_reducible refine (cW _ (by first | exact Below.refl _ _ | assumption)).mono ?_); rintro e w2 ⟨rfl, hb2⟩; obtain ⟨⟨z0, z1, z2, z3, z4, z5, z6, z7, z8, z9, z10, z11, z12, z13, z14, z15⟩, hbo⟩ := HX.out _ hb2)))
    go_ret
    exact ⟨rfl, hbo⟩
set_option maxRecDepth 20000 in
theorem fine7 (s : Sp) (ta : Option Addr) (tc : Nat) (la : Option Addr) (lc : Nat) (w : World) (h : Lists w s ta la) : Calls Try.prog 70 #[.agg #[.int .i64 s.op, .int .i64 s.fm, .int .i64 s.fd, .int .i64 s.pl, .int .i64 s.tt, .int .i64 s.a, .int .i64 s.b, .int .i64 s.f.id, .int .i64 s.f.kind, .int .i64 s.f.lo, .int .i64 s.f.hi, .int .i64 s.f.most, .int .i64 s.v.n, .string s.v.s, .slice ta s.t.length tc, .slice la s.l.length lc], .int .i64 7] w (Gives (.bool (decide (s.Fine 7))) w) := by
  have HX := hid (boxP s ta tc la lc w)
  have HL := hid (h.below (newB w (.cells #[.int .i64 s.op, .int .i64 s.fm, .int .i64 s.fd, .int .i64 s.pl, .int .i64 s.tt, .int .i64 s.a, .int .i64 s.b, .int .i64 s.f.id, .int .i64 s.f.kind, .int .i64 s.f.lo, .int .i64 s.f.hi, .int .i64 s.f.most, .int .i64 s.v.n, .string s.v.s, .slice ta s.t.length tc, .slice la s.l.length lc] 32)))
  obtain ⟨r, hr⟩ : ∃ r : Bool, Hid (decide (s.Fine 7) = r) := ⟨_, rfl⟩
  rw [hr.out]
  unfold Gives
  clear h
  have cT : From 96 #[.slice ta s.t.length tc, .int .i64 1000] (.bool r) (w.alloc (.cells #[.int .i64 s.op, .int .i64 s.fm, .int .i64 s.fd, .int .i64 s.pl, .int .i64 s.tt, .int .i64 s.a, .int .i64 s.b, .int .i64 s.f.id, .int .i64 s.f.kind, .int .i64 s.f.lo, .int .i64 s.f.hi, .int .i64 s.f.most, .int .i64 s.v.n, .string s.v.s, .slice ta s.t.length tc, .slice la s.l.length lc] 32)) := from_in _ (fun w' hb => hr.out ▸ fineTable_any ta tc s.t 1000 (by omega) (by omega) w' ((HL.out.below hb).t) HL.out.mt)
  go_enter Try.func70, Try.ntmps70
  go_wp2_with (first
    | (go_at_call 96; ((with_reducible refine (cT _ (by first | exact Below.refl _ _ | assumption)).mono ?_); rintro e w2 ⟨rfl, hb2⟩; obtain ⟨⟨z0, z1, z2, z3, z4, z5, z6, z7, z8, z9, z10, z11, z12, z13, z14, z15⟩, hbo⟩ := HX.out _ hb2)))
  go_ret
  exact ⟨rfl, hbo⟩
set_option maxRecDepth 20000 in
theorem fine8 (s : Sp) (ta : Option Addr) (tc : Nat) (la : Option Addr) (lc : Nat) (w : World) (h : Lists w s ta la) : Calls Try.prog 70 #[.agg #[.int .i64 s.op, .int .i64 s.fm, .int .i64 s.fd, .int .i64 s.pl, .int .i64 s.tt, .int .i64 s.a, .int .i64 s.b, .int .i64 s.f.id, .int .i64 s.f.kind, .int .i64 s.f.lo, .int .i64 s.f.hi, .int .i64 s.f.most, .int .i64 s.v.n, .string s.v.s, .slice ta s.t.length tc, .slice la s.l.length lc], .int .i64 8] w (Gives (.bool (decide (s.Fine 8))) w) := by
  have HX := hid (boxP s ta tc la lc w)
  have HL := hid (h.below (newB w (.cells #[.int .i64 s.op, .int .i64 s.fm, .int .i64 s.fd, .int .i64 s.pl, .int .i64 s.tt, .int .i64 s.a, .int .i64 s.b, .int .i64 s.f.id, .int .i64 s.f.kind, .int .i64 s.f.lo, .int .i64 s.f.hi, .int .i64 s.f.most, .int .i64 s.v.n, .string s.v.s, .slice ta s.t.length tc, .slice la s.l.length lc] 32)))
  obtain ⟨r, hr⟩ : ∃ r : Bool, Hid (decide (s.Fine 8) = r) := ⟨_, rfl⟩
  rw [hr.out]
  unfold Gives
  clear h
  have cW := fun v (hv : decide s.f.Right = v) => from_all (w.alloc (.cells #[.int .i64 s.op, .int .i64 s.fm, .int .i64 s.fd, .int .i64 s.pl, .int .i64 s.tt, .int .i64 s.a, .int .i64 s.b, .int .i64 s.f.id, .int .i64 s.f.kind, .int .i64 s.f.lo, .int .i64 s.f.hi, .int .i64 s.f.most, .int .i64 s.v.n, .string s.v.s, .slice ta s.t.length tc, .slice la s.l.length lc] 32)) (fun w' => hv ▸ field.right_any s.f w')
  by_cases h1 : s.f.Right
  · replace cW := cW true (decide_eq_true h1)
    by_cases h2 : s.f.id = s.fd
    · obtain rfl : true = r := by rw [← hr.out]; exact (decide_eq_true ⟨h1, h2⟩).symm
      have d3 : (s.f.id == s.fd) = true := by simp [h2]
      clear h1 h2
      go_enter Try.func70, Try.ntmps70
      go_wp2_with (first
        | (go_at_call 93; ((with_reducible refine (cW _ (by first | exact Below.refl _ _ | assumption)).mono ?_); rintro e w2 ⟨rfl, hb2⟩; obtain ⟨⟨z0, z1, z2, z3, z4, z5, z6, z7, z8, z9, z10, z11, z12, z13, z14, z15⟩, hbo⟩ := HX.out _ hb2)))
      go_ret
      exact ⟨rfl, hbo⟩
    · obtain rfl : false = r := by rw [← hr.out]; exact (decide_eq_false (fun h => h2 h.2)).symm
      have d3 : (s.f.id == s.fd) = false := by simp [h2]
      clear h1 h2
      go_enter Try.func70, Try.ntmps70
      go_wp2_with (first
        | (go_at_call 93; ((with_reducible refine (cW _ (by first | exact Below.refl _ _ | assumption)).mono ?_); rintro e w2 ⟨rfl, hb2⟩; obtain ⟨⟨z0, z1, z2, z3, z4, z5, z6, z7, z8, z9, z10, z11, z12, z13, z14, z15⟩, hbo⟩ := HX.out _ hb2)))
      go_ret
      exact ⟨rfl, hbo⟩
  · replace cW := cW false (decide_eq_false h1)
    obtain rfl : false = r := by rw [← hr.out]; exact (decide_eq_false (fun h => h1 h.1)).symm
    clear h1
    go_enter Try.func70, Try.ntmps70
    go_wp2_with (first
      | (go_at_call 93; ((with_reducible refine (cW _ (by first | exact Below.refl _ _ | assumption)).mono ?_); rintro e w2 ⟨rfl, hb2⟩; obtain ⟨⟨z0, z1, z2, z3, z4, z5, z6, z7, z8, z9, z10, z11, z12, z13, z14, z15⟩, hbo⟩ := HX.out _ hb2)))
    go_ret
    exact ⟨rfl, hbo⟩
set_option maxRecDepth 20000 in
theorem fine9 (s : Sp) (ta : Option Addr) (tc : Nat) (la : Option Addr) (lc : Nat) (w : World) (h : Lists w s ta la) : Calls Try.prog 70 #[.agg #[.int .i64 s.op, .int .i64 s.fm, .int .i64 s.fd, .int .i64 s.pl, .int .i64 s.tt, .int .i64 s.a, .int .i64 s.b, .int .i64 s.f.id, .int .i64 s.f.kind, .int .i64 s.f.lo, .int .i64 s.f.hi, .int .i64 s.f.most, .int .i64 s.v.n, .string s.v.s, .slice ta s.t.length tc, .slice la s.l.length lc], .int .i64 9] w (Gives (.bool (decide (s.Fine 9))) w) := by
  have HX := hid (boxP s ta tc la lc w)
  have HL := hid (h.below (newB w (.cells #[.int .i64 s.op, .int .i64 s.fm, .int .i64 s.fd, .int .i64 s.pl, .int .i64 s.tt, .int .i64 s.a, .int .i64 s.b, .int .i64 s.f.id, .int .i64 s.f.kind, .int .i64 s.f.lo, .int .i64 s.f.hi, .int .i64 s.f.most, .int .i64 s.v.n, .string s.v.s, .slice ta s.t.length tc, .slice la s.l.length lc] 32)))
  obtain ⟨r, hr⟩ : ∃ r : Bool, Hid (decide (s.Fine 9) = r) := ⟨_, rfl⟩
  rw [hr.out]
  unfold Gives
  clear h
  have cH : From 78 #[.agg #[.int .i64 s.f.id, .int .i64 s.f.kind, .int .i64 s.f.lo, .int .i64 s.f.hi, .int .i64 s.f.most], .agg #[.int .i64 s.v.n, .string s.v.s]] (.bool r) (w.alloc (.cells #[.int .i64 s.op, .int .i64 s.fm, .int .i64 s.fd, .int .i64 s.pl, .int .i64 s.tt, .int .i64 s.a, .int .i64 s.b, .int .i64 s.f.id, .int .i64 s.f.kind, .int .i64 s.f.lo, .int .i64 s.f.hi, .int .i64 s.f.most, .int .i64 s.v.n, .string s.v.s, .slice ta s.t.length tc, .slice la s.l.length lc] 32)) := from_all _ (fun w' => hr.out ▸ field.has_any s.f s.v w')
  go_enter Try.func70, Try.ntmps70
  go_wp2_with (first
    | (go_at_call 78; ((with_reducible refine (cH _ (by first | exact Below.refl _ _ | assumption)).mono ?_); rintro e w2 ⟨rfl, hb2⟩; obtain ⟨⟨z0, z1, z2, z3, z4, z5, z6, z7, z8, z9, z10, z11, z12, z13, z14, z15⟩, hbo⟩ := HX.out _ hb2)))
  go_ret
  exact ⟨rfl, hbo⟩
set_option maxRecDepth 20000 in
theorem fine10 (s : Sp) (ta : Option Addr) (tc : Nat) (la : Option Addr) (lc : Nat) (w : World) (h : Lists w s ta la) : Calls Try.prog 70 #[.agg #[.int .i64 s.op, .int .i64 s.fm, .int .i64 s.fd, .int .i64 s.pl, .int .i64 s.tt, .int .i64 s.a, .int .i64 s.b, .int .i64 s.f.id, .int .i64 s.f.kind, .int .i64 s.f.lo, .int .i64 s.f.hi, .int .i64 s.f.most, .int .i64 s.v.n, .string s.v.s, .slice ta s.t.length tc, .slice la s.l.length lc], .int .i64 10] w (Gives (.bool (decide (s.Fine 10))) w) := by
  have HX := hid (boxP s ta tc la lc w)
  have HL := hid (h.below (newB w (.cells #[.int .i64 s.op, .int .i64 s.fm, .int .i64 s.fd, .int .i64 s.pl, .int .i64 s.tt, .int .i64 s.a, .int .i64 s.b, .int .i64 s.f.id, .int .i64 s.f.kind, .int .i64 s.f.lo, .int .i64 s.f.hi, .int .i64 s.f.most, .int .i64 s.v.n, .string s.v.s, .slice ta s.t.length tc, .slice la s.l.length lc] 32)))
  obtain ⟨r, hr⟩ : ∃ r : Bool, Hid (decide (s.Fine 10) = r) := ⟨_, rfl⟩
  rw [hr.out]
  unfold Gives
  clear h
  have cW := fun v (hv : decide (-1099511627776 ≤ s.v.n ∧ s.v.n ≤ 1099511627776) = v) => from_all (w.alloc (.cells #[.int .i64 s.op, .int .i64 s.fm, .int .i64 s.fd, .int .i64 s.pl, .int .i64 s.tt, .int .i64 s.a, .int .i64 s.b, .int .i64 s.f.id, .int .i64 s.f.kind, .int .i64 s.f.lo, .int .i64 s.f.hi, .int .i64 s.f.most, .int .i64 s.v.n, .string s.v.s, .slice ta s.t.length tc, .slice la s.l.length lc] 32)) (fun w' => hv ▸ within_any s.v.n (-1099511627776) 1099511627776 w')
  by_cases h1 : -1099511627776 ≤ s.v.n ∧ s.v.n ≤ 1099511627776
  · replace cW := cW true (decide_eq_true h1)
    by_cases h2 : s.v.s.size ≤ 32
    · obtain rfl : true = r := by rw [← hr.out]; exact (decide_eq_true ⟨h1, h2⟩).symm
      have d3 : decide ((s.v.s.size : Int) ≤ 32) = true := decide_eq_true (by omega)
      clear h1 h2
      go_enter Try.func70, Try.ntmps70
      go_wp2_with (first
        | (go_at_call 95; ((with_reducible refine (cW _ (by first | exact Below.refl _ _ | assumption)).mono ?_); rintro e w2 ⟨rfl, hb2⟩; obtain ⟨⟨z0, z1, z2, z3, z4, z5, z6, z7, z8, z9, z10, z11, z12, z13, z14, z15⟩, hbo⟩ := HX.out _ hb2)))
      go_ret
      exact ⟨rfl, hbo⟩
    · obtain rfl : false = r := by rw [← hr.out]; exact (decide_eq_false (fun h => h2 h.2)).symm
      have d3 : decide ((s.v.s.size : Int) ≤ 32) = false := decide_eq_false (by omega)
      clear h1 h2
      go_enter Try.func70, Try.ntmps70
      go_wp2_with (first
        | (go_at_call 95; ((with_reducible refine (cW _ (by first | exact Below.refl _ _ | assumption)).mono ?_); rintro e w2 ⟨rfl, hb2⟩; obtain ⟨⟨z0, z1, z2, z3, z4, z5, z6, z7, z8, z9, z10, z11, z12, z13, z14, z15⟩, hbo⟩ := HX.out _ hb2)))
      go_ret
      exact ⟨rfl, hbo⟩
  · replace cW := cW false (decide_eq_false h1)
    obtain rfl : false = r := by rw [← hr.out]; exact (decide_eq_false (fun h => h1 h.1)).symm
    clear h1
    go_enter Try.func70, Try.ntmps70
    go_wp2_with (first
      | (go_at_call 95; ((with_reducible refine (cW _ (by first | exact Below.refl _ _ | assumption)).mono ?_); rintro e w2 ⟨rfl, hb2⟩; obtain ⟨⟨z0, z1, z2, z3, z4, z5, z6, z7, z8, z9, z10, z11, z12, z13, z14, z15⟩, hbo⟩ := HX.out _ hb2)))
    go_ret
    exact ⟨rfl, hbo⟩
set_option maxRecDepth 20000 in
theorem fine11 (s : Sp) (ta : Option Addr) (tc : Nat) (la : Option Addr) (lc : Nat) (w : World) (h : Lists w s ta la) : Calls Try.prog 70 #[.agg #[.int .i64 s.op, .int .i64 s.fm, .int .i64 s.fd, .int .i64 s.pl, .int .i64 s.tt, .int .i64 s.a, .int .i64 s.b, .int .i64 s.f.id, .int .i64 s.f.kind, .int .i64 s.f.lo, .int .i64 s.f.hi, .int .i64 s.f.most, .int .i64 s.v.n, .string s.v.s, .slice ta s.t.length tc, .slice la s.l.length lc], .int .i64 11] w (Gives (.bool (decide (s.Fine 11))) w) := by
  have HX := hid (boxP s ta tc la lc w)
  have HL := hid (h.below (newB w (.cells #[.int .i64 s.op, .int .i64 s.fm, .int .i64 s.fd, .int .i64 s.pl, .int .i64 s.tt, .int .i64 s.a, .int .i64 s.b, .int .i64 s.f.id, .int .i64 s.f.kind, .int .i64 s.f.lo, .int .i64 s.f.hi, .int .i64 s.f.most, .int .i64 s.v.n, .string s.v.s, .slice ta s.t.length tc, .slice la s.l.length lc] 32)))
  obtain ⟨r, hr⟩ : ∃ r : Bool, Hid (decide (s.Fine 11) = r) := ⟨_, rfl⟩
  rw [hr.out]
  unfold Gives
  clear h
  have cS : From 37 #[.agg #[.int .i64 s.fm, .slice la s.l.length lc]] (.bool r) (w.alloc (.cells #[.int .i64 s.op, .int .i64 s.fm, .int .i64 s.fd, .int .i64 s.pl, .int .i64 s.tt, .int .i64 s.a, .int .i64 s.b, .int .i64 s.f.id, .int .i64 s.f.kind, .int .i64 s.f.lo, .int .i64 s.f.hi, .int .i64 s.f.most, .int .i64 s.v.n, .string s.v.s, .slice ta s.t.length tc, .slice la s.l.length lc] 32)) := from_in _ (fun w' hb => hr.out ▸ schema.fine_any s.fm la lc s.l w' ((HL.out.below hb).l) HL.out.ml)
  go_enter Try.func70, Try.ntmps70
  go_wp2_with (first
    | (go_at_call 37; ((with_reducible refine (cS _ (by first | exact Below.refl _ _ | assumption)).mono ?_); rintro e w2 ⟨rfl, hb2⟩; obtain ⟨⟨z0, z1, z2, z3, z4, z5, z6, z7, z8, z9, z10, z11, z12, z13, z14, z15⟩, hbo⟩ := HX.out _ hb2)))
  go_ret
  exact ⟨rfl, hbo⟩
theorem fine_any (s : Sp) (ta : Option Addr) (tc : Nat) (la : Option Addr) (lc : Nat) (m : Nat) (hm : m < 12) (w : World) (h : Lists w s ta la) : Calls Try.prog 70 #[.agg #[.int .i64 s.op, .int .i64 s.fm, .int .i64 s.fd, .int .i64 s.pl, .int .i64 s.tt, .int .i64 s.a, .int .i64 s.b, .int .i64 s.f.id, .int .i64 s.f.kind, .int .i64 s.f.lo, .int .i64 s.f.hi, .int .i64 s.f.most, .int .i64 s.v.n, .string s.v.s, .slice ta s.t.length tc, .slice la s.l.length lc], .int .i64 (m : Int)] w (Gives (.bool (decide (s.Fine m))) w) := by
  match m, hm with
  | 0, _ => exact fine0 s ta tc la lc w h
  | 1, _ => exact fine1 s ta tc la lc w h
  | 2, _ => exact fine2 s ta tc la lc w h
  | 3, _ => exact fine3 s ta tc la lc w h
  | 4, _ => exact fine4 s ta tc la lc w h
  | 5, _ => exact fine5 s ta tc la lc w h
  | 6, _ => exact fine6 s ta tc la lc w h
  | 7, _ => exact fine7 s ta tc la lc w h
  | 8, _ => exact fine8 s ta tc la lc w h
  | 9, _ => exact fine9 s ta tc la lc w h
  | 10, _ => exact fine10 s ta tc la lc w h
  | 11, _ => exact fine11 s ta tc la lc w h
end Go.Proofs.Ytiajpjkkopdmgaa.step

namespace Go.Proofs.Ytiajpjkkopdmgaa.pen
open Go.RowKit
set_option linter.unusedVariables false

def u8v (xs : List Nat) : List Value := xs.map fun x : Nat => Value.int .u8 (x : Int)
theorem u8v_length (xs : List Nat) : (u8v xs).length = xs.length := by simp [u8v]
theorem u8v_append (xs ys : List Nat) : u8v (xs ++ ys) = u8v xs ++ u8v ys := by simp [u8v]
theorem u8v_get (xs : List Nat) (i : Nat) (h : i < xs.length) : (u8v xs)[i]? = some (.int .u8 ((xs.getD i 0 : Nat) : Int)) := by
  simp only [u8v, List.getElem?_map, List.getD_eq_getElem?_getD, List.getElem?_eq_getElem h]; rfl

theorem Reads.news {w : World} {a : Option Addr} {len : Nat} {xs : List Nat} (h : Reads .u8 w a len xs) : len = 0 ∨ ∃ ad, a = some ad ∧ ∀ j u, (u8v xs)[j]? = some u → w.cell? (ad.add j) = some u := by
  rcases h.2 with h0 | ⟨b, off, ha, _, hc⟩
  · exact .inl h0
  · refine .inr ⟨_, ha, fun j u hu => ?_⟩
    have hj : j < xs.length := by have := (List.getElem?_eq_some_iff.1 hu).1; rwa [u8v_length] at this
    rw [u8v_get xs j hj] at hu
    cases hu
    rw [Addr.add_lit]
    exact hc j (by rw [← h.1]; exact hj)

/-- but for block b and the row v, which may have moved, what there was stands -/
structure Turns (w : World) (b : Nat) (v : Value) (w' : World) (v' : Value) : Prop where
  os : w'.os = w.os
  tape : w'.tape = w.tape
  output : w'.output = w.output
  size : w.heap.size ≤ w'.heap.size
  block : ∀ k, k < w.heap.size → k ≠ b → some k ≠ v.ownBlock → w'.heap[k]? = w.heap[k]?
  moved : v'.ownBlock = v.ownBlock ∨ ∃ g, v'.ownBlock = some g ∧ w.heap.size ≤ g
theorem Turns.trans {w w1 w2 : World} {b : Nat} {v v1 v2 : Value} (h : Turns w b v w1 v1) (k : Turns w1 b v1 w2 v2) : Turns w b v w2 v2 := by
  refine ⟨k.os.trans h.os, k.tape.trans h.tape, k.output.trans h.output, Nat.le_trans h.size k.size, fun j h1 h2 h3 => ?_, ?_⟩
  · refine (k.block j (Nat.lt_of_lt_of_le h1 h.size) h2 ?_).trans (h.block j h1 h2 h3)
    rcases h.moved with e | ⟨g, e, hg⟩
    · rw [e]; exact h3
    · rw [e]; intro he; cases he; omega
  · rcases k.moved with e | ⟨g, e, hg⟩
    · rw [e]; exact h.moved
    · exact .inr ⟨g, e, Nat.le_trans h.size hg⟩
theorem Turns.below {w w' : World} {b B : Nat} {v v' : Value} (h : Turns w b v w' v') (hB : B ≤ w.heap.size) (hb : B ≤ b) (hv : ∀ g, v.ownBlock = some g → B ≤ g) : Below B w w' :=
  ⟨h.os, h.tape, h.output, h.size, fun k hk => h.block k (by omega) (by omega) (fun e => by have := hv k e.symm; omega)⟩
/-- the pen at block b: its row v holds the bytes xs; its error is bad -/
def PenAt (lo b : Nat) (v : Value) (xs : List Nat) (bad : Int) (w : World) : Prop :=
  Block w b 93 [v, .int .i64 bad] ∧ v.ownBlock ≠ some b ∧ w.ownsRow lo 5 1 v xs.length (u8v xs)
theorem PenAt.row {lo b : Nat} {v : Value} {xs : List Nat} {bad : Int} {w : World} (h : PenAt lo b v xs bad w) : w.cell? ⟨b, 0, none⟩ = some v := by rw [h.1.cell]; rfl
theorem PenAt.err {lo b : Nat} {v : Value} {xs : List Nat} {bad : Int} {w : World} (h : PenAt lo b v xs bad w) : w.cell? ⟨b, 1, none⟩ = some (.int .i64 bad) := by rw [h.1.cell]; rfl
theorem PenAt.lo {lo b : Nat} {v : Value} {xs : List Nat} {bad : Int} {w : World} (h : PenAt lo b v xs bad w) : ∀ g, v.ownBlock = some g → lo ≤ g ∧ g < w.heap.size := World.ownsRow.lt h.2.2
theorem PenAt.later {lo b : Nat} {v : Value} {xs : List Nat} {bad : Int} {w w' : World} (h : PenAt lo b v xs bad w) (hb : Below w.heap.size w w') : PenAt lo b v xs bad w' :=
  ⟨h.1.later hb, h.2.1, ownsRow_heap h.2.2 fun g hg => hb.block g (h.lo g hg).2⟩
theorem PenAt.drewN {lo b : Nat} {v : Value} {xs : List Nat} {bad : Int} {w : World} (h : PenAt lo b v xs bad w) (n : Nat) : PenAt lo b v xs bad (w.drewN n) := h
/-- behind an append and the store of the new row -/
theorem PenAt.stored {lo b : Nat} {v v' : Value} {xs ys : List Nat} {bad : Int} {w w1 : World} (h : PenAt lo b v xs bad w) (hg : w.grownBy w1 v.ownBlock) (ha : v'.ownBlock = v.ownBlock ∨ v'.ownBlock = some w.heap.size)
    (ho : w1.ownsRow lo 5 1 v' (xs.length + ys.length) (u8v xs ++ u8v ys)) :
    PenAt lo b v' (xs ++ ys) bad (w1.setCell ⟨b, 0, none⟩ v') ∧ Turns w b v (w1.setCell ⟨b, 0, none⟩ v') v' := by
  have hb : Block w1 b 93 [v, .int .i64 bad] := (hg.block b h.1.lt (fun e => h.2.1 e.symm)).trans h.1
  have hne : v'.ownBlock ≠ some b := by
    rcases ha with e | e
    · rw [e]; exact h.2.1
    · rw [e]; intro he; cases he; exact absurd h.1.lt (Nat.lt_irrefl _)
  refine ⟨⟨hb.setCell 0 v', hne, ?_⟩, hg.os, hg.tape, hg.output, by simpa using hg.size, fun k h1 h2 h3 => ?_, ?_⟩
  · rw [List.length_append, u8v_append]
    exact ownsRow_heap ho fun g hg' => Below.heap_setCell w1 ⟨b, 0, none⟩ v' g (by rintro rfl; exact hne hg')
  · exact (Below.heap_setCell w1 ⟨b, 0, none⟩ v' k h2).trans (hg.block k h1 h3)
  · rcases ha with e | e
    · exact .inl e
    · exact .inr ⟨_, e, Nat.le_refl _⟩
theorem PenAt.fail {lo b : Nat} {v : Value} {xs : List Nat} {bad : Int} {w : World} (h : PenAt lo b v xs bad w) (z : Int) :
    PenAt lo b v xs z (w.setCell ⟨b, 1, none⟩ (.int .i64 z)) ∧ Turns w b v (w.setCell ⟨b, 1, none⟩ (.int .i64 z)) v := by
  refine ⟨⟨h.1.setCell 1 _, h.2.1, ownsRow_heap h.2.2 fun g hg' => Below.heap_setCell w ⟨b, 1, none⟩ _ g (by rintro rfl; exact h.2.1 hg')⟩, rfl, rfl, rfl, by simp, fun k h1 h2 h3 => Below.heap_setCell w ⟨b, 1, none⟩ _ k h2, .inl rfl⟩
/-- a function without results ends -/
theorem ret0 {P : Program} {fn : Func} {R : Ending → World → Prop} {a : Act} {w : World} (h : fn.results = #[]) (hd : a.defers = []) (hR : R (.returned (.tuple #[])) w) : bodyPost P fn R .normal a w :=
  ⟨hd, .tuple #[], by simp [results, h], hR⟩
theorem Reads.new (w : World) (t : TypeId) (xs : List Nat) : Reads .u8 (w.alloc (.cells (u8v xs).toArray t)) (some ⟨w.heap.size, 0, none⟩) xs.length xs :=
  (Block.new w t (u8v xs)).reads 0 xs (fun i hi => by rw [Nat.zero_add]; exact u8v_get xs i hi) _ rfl

end Go.Proofs.Ytiajpjkkopdmgaa.pen

namespace Go.Proofs.Ytiajpjkkopdmgaa.step
open Go.RowKit
open Go.Proofs.Ytiajpjkkopdmgaa.field (Gives newB gives_from)
open Go.Proofs.Ytiajpjkkopdmgaa.schema (below_out)
open Go.Proofs.Ytiajpjkkopdmgaa.pen (ret0)
set_option linter.unusedVariables false

/-- the variable at B holds s, its lists lie where they lay in w0, whose blocks lie below B -/
structure BoxAt (w0 : World) (B : Nat) (s : Sp) (ta : Option Addr) (tc : Nat) (la : Option Addr) (lc : Nat) (w : World) : Prop where
  f : Block w B 32 [.int .i64 s.op, .int .i64 s.fm, .int .i64 s.fd, .int .i64 s.pl, .int .i64 s.tt, .int .i64 s.a, .int .i64 s.b, .int .i64 s.f.id, .int .i64 s.f.kind, .int .i64 s.f.lo, .int .i64 s.f.hi, .int .i64 s.f.most, .int .i64 s.v.n, .string s.v.s, .slice ta s.t.length tc, .slice la s.l.length lc]
  lists : Lists w0 s ta la
  low : w0.heap.size ≤ B
  below : Below w0.heap.size w0 w
theorem BoxAt.later {w0 w w' : World} {B : Nat} {s : Sp} {ta la : Option Addr} {tc lc : Nat} (h : BoxAt w0 B s ta tc la lc w) (hb : Below w.heap.size w w') : BoxAt w0 B s ta tc la lc w' :=
  ⟨h.f.later hb, h.lists, h.low, h.below.trans (hb.mono h.below.size)⟩
def Cleared (w0 : World) (B : Nat) (s : Sp) (e : Ending) (w' : World) : Prop := e = .returned (.tuple #[]) ∧ ∃ ta tc la lc, BoxAt w0 B s ta tc la lc w'
set_option maxRecDepth 20000 in
theorem clear0 {w0 : World} (B : Nat) (s : Sp) (ta : Option Addr) (tc : Nat) (la : Option Addr) (lc : Nat) (w : World) (h : BoxAt w0 B s ta tc la lc w) : Calls Try.prog 71 #[.pointer (some ⟨B, 0, none⟩), .int .i64 0] w (Cleared w0 B (s.clear 0)) := by
  have HF := hid h
  have hf := h.f
  have c1 := hf.cell 1
  have f1 := hf.frozen 1
  clear hf h
  go_enter Try.func71, Try.ntmps71
  go_wp2
  have h := HF.out
  have hL := h.lists
  have hB := h.f
  have hW := h.below
  replace hB := hB.setCell 1 (.int .i64 0)
  replace hW := below_setCells hW h.low 1 [.int .i64 0]
  exact ret0 rfl rfl ⟨rfl, ta, tc, la, lc, ⟨hB, ⟨hL.t, hL.l, hL.mt, hL.ml⟩, h.low, hW⟩⟩
set_option maxRecDepth 20000 in
theorem clear1 {w0 : World} (B : Nat) (s : Sp) (ta : Option Addr) (tc : Nat) (la : Option Addr) (lc : Nat) (w : World) (h : BoxAt w0 B s ta tc la lc w) : Calls Try.prog 71 #[.pointer (some ⟨B, 0, none⟩), .int .i64 1] w (Cleared w0 B (s.clear 1)) := by
  have HF := hid h
  have hf := h.f
  have c2 := hf.cell 2
  have f2 := hf.frozen 2
  clear hf h
  go_enter Try.func71, Try.ntmps71
  go_wp2
  have h := HF.out
  have hL := h.lists
  have hB := h.f
  have hW := h.below
  replace hB := hB.setCell 2 (.int .i64 0)
  replace hW := below_setCells hW h.low 2 [.int .i64 0]
  exact ret0 rfl rfl ⟨rfl, ta, tc, la, lc, ⟨hB, ⟨hL.t, hL.l, hL.mt, hL.ml⟩, h.low, hW⟩⟩
set_option maxRecDepth 20000 in
theorem clear2 {w0 : World} (B : Nat) (s : Sp) (ta : Option Addr) (tc : Nat) (la : Option Addr) (lc : Nat) (w : World) (h : BoxAt w0 B s ta tc la lc w) : Calls Try.prog 71 #[.pointer (some ⟨B, 0, none⟩), .int .i64 2] w (Cleared w0 B (s.clear 2)) := by
  have HF := hid h
  have hf := h.f
  have c3 := hf.cell 3
  have f3 := hf.frozen 3
  clear hf h
  go_enter Try.func71, Try.ntmps71
  go_wp2
  have h := HF.out
  have hL := h.lists
  have hB := h.f
  have hW := h.below
  replace hB := hB.setCell 3 (.int .i64 0)
  replace hW := below_setCells hW h.low 3 [.int .i64 0]
  exact ret0 rfl rfl ⟨rfl, ta, tc, la, lc, ⟨hB, ⟨hL.t, hL.l, hL.mt, hL.ml⟩, h.low, hW⟩⟩
set_option maxRecDepth 20000 in
theorem clear3 {w0 : World} (B : Nat) (s : Sp) (ta : Option Addr) (tc : Nat) (la : Option Addr) (lc : Nat) (w : World) (h : BoxAt w0 B s ta tc la lc w) : Calls Try.prog 71 #[.pointer (some ⟨B, 0, none⟩), .int .i64 3] w (Cleared w0 B (s.clear 3)) := by
  have HF := hid h
  have hf := h.f
  have c4 := hf.cell 4
  have f4 := hf.frozen 4
  clear hf h
  go_enter Try.func71, Try.ntmps71
  go_wp2
  have h := HF.out
  have hL := h.lists
  have hB := h.f
  have hW := h.below
  replace hB := hB.setCell 4 (.int .i64 0)
  replace hW := below_setCells hW h.low 4 [.int .i64 0]
  exact ret0 rfl rfl ⟨rfl, ta, tc, la, lc, ⟨hB, ⟨hL.t, hL.l, hL.mt, hL.ml⟩, h.low, hW⟩⟩
set_option maxRecDepth 20000 in
theorem clear4 {w0 : World} (B : Nat) (s : Sp) (ta : Option Addr) (tc : Nat) (la : Option Addr) (lc : Nat) (w : World) (h : BoxAt w0 B s ta tc la lc w) : Calls Try.prog 71 #[.pointer (some ⟨B, 0, none⟩), .int .i64 4] w (Cleared w0 B (s.clear 4)) := by
  have HF := hid h
  have hf := h.f
  have c5 := hf.cell 5
  have f5 := hf.frozen 5
  clear hf h
  go_enter Try.func71, Try.ntmps71
  go_wp2
  have h := HF.out
  have hL := h.lists
  have hB := h.f
  have hW := h.below
  replace hB := hB.setCell 5 (.int .i64 0)
  replace hW := below_setCells hW h.low 5 [.int .i64 0]
  exact ret0 rfl rfl ⟨rfl, ta, tc, la, lc, ⟨hB, ⟨hL.t, hL.l, hL.mt, hL.ml⟩, h.low, hW⟩⟩
set_option maxRecDepth 20000 in
theorem clear5 {w0 : World} (B : Nat) (s : Sp) (ta : Option Addr) (tc : Nat) (la : Option Addr) (lc : Nat) (w : World) (h : BoxAt w0 B s ta tc la lc w) : Calls Try.prog 71 #[.pointer (some ⟨B, 0, none⟩), .int .i64 5] w (Cleared w0 B (s.clear 5)) := by
  have HF := hid h
  have hf := h.f
  have c5 := hf.cell 5
  have f5 := hf.frozen 5
  have c6 := hf.cell 6
  have f6 := hf.frozen 6
  clear hf h
  go_enter Try.func71, Try.ntmps71
  go_wp2
  have h := HF.out
  have hL := h.lists
  have hB := h.f
  have hW := h.below
  replace hB := hB.setCell 5 (.int .i64 0)
  replace hW := below_setCells hW h.low 5 [.int .i64 0]
  replace hB := hB.setCell 6 (.int .i64 0)
  replace hW := below_setCells hW h.low 6 [.int .i64 0]
  exact ret0 rfl rfl ⟨rfl, ta, tc, la, lc, ⟨hB, ⟨hL.t, hL.l, hL.mt, hL.ml⟩, h.low, hW⟩⟩
set_option maxRecDepth 20000 in
theorem clear6 {w0 : World} (B : Nat) (s : Sp) (ta : Option Addr) (tc : Nat) (la : Option Addr) (lc : Nat) (w : World) (h : BoxAt w0 B s ta tc la lc w) : Calls Try.prog 71 #[.pointer (some ⟨B, 0, none⟩), .int .i64 6] w (Cleared w0 B (s.clear 6)) := by
  have HF := hid h
  have hf := h.f
  have c5 := hf.cell 5
  have f5 := hf.frozen 5
  have c14 := hf.cell 14
  have f14 := hf.frozen 14
  clear hf h
  go_enter Try.func71, Try.ntmps71
  go_wp2
  have h := HF.out
  have hL := h.lists
  have hB := h.f
  have hW := h.below
  replace hB := hB.setCell 5 (.int .i64 0)
  replace hW := below_setCells hW h.low 5 [.int .i64 0]
  replace hB := hB.setCell 14 (.slice none 0 0)
  replace hW := below_setCells hW h.low 14 [.slice none 0 0]
  exact ret0 rfl rfl ⟨rfl, none, 0, la, lc, ⟨hB, ⟨.inl rfl, hL.l, Nat.zero_le _, hL.ml⟩, h.low, hW⟩⟩
set_option maxRecDepth 20000 in
theorem clear7 {w0 : World} (B : Nat) (s : Sp) (ta : Option Addr) (tc : Nat) (la : Option Addr) (lc : Nat) (w : World) (h : BoxAt w0 B s ta tc la lc w) : Calls Try.prog 71 #[.pointer (some ⟨B, 0, none⟩), .int .i64 7] w (Cleared w0 B (s.clear 7)) := by
  have HF := hid h
  have hf := h.f
  have c14 := hf.cell 14
  have f14 := hf.frozen 14
  clear hf h
  go_enter Try.func71, Try.ntmps71
  go_wp2
  have h := HF.out
  have hL := h.lists
  have hB := h.f
  have hW := h.below
  replace hB := hB.setCell 14 (.slice none 0 0)
  replace hW := below_setCells hW h.low 14 [.slice none 0 0]
  exact ret0 rfl rfl ⟨rfl, none, 0, la, lc, ⟨hB, ⟨.inl rfl, hL.l, Nat.zero_le _, hL.ml⟩, h.low, hW⟩⟩
set_option maxRecDepth 20000 in
theorem clear8 {w0 : World} (B : Nat) (s : Sp) (ta : Option Addr) (tc : Nat) (la : Option Addr) (lc : Nat) (w : World) (h : BoxAt w0 B s ta tc la lc w) : Calls Try.prog 71 #[.pointer (some ⟨B, 0, none⟩), .int .i64 8] w (Cleared w0 B (s.clear 8)) := by
  have HF := hid h
  have hf := h.f
  have c7 := hf.cell 7
  have f7 := hf.frozen 7
  have c8 := hf.cell 8
  have f8 := hf.frozen 8
  have c9 := hf.cell 9
  have f9 := hf.frozen 9
  have c10 := hf.cell 10
  have f10 := hf.frozen 10
  have c11 := hf.cell 11
  have f11 := hf.frozen 11
  clear hf h
  go_enter Try.func71, Try.ntmps71
  go_wp2
  have h := HF.out
  have hL := h.lists
  have hB := h.f
  have hW := h.below
  replace hB := hB.setCell 7 (.int .i64 0)
  replace hW := below_setCells hW h.low 7 [.int .i64 0]
  replace hB := hB.setCell 8 (.int .i64 0)
  replace hW := below_setCells hW h.low 8 [.int .i64 0]
  replace hB := hB.setCell 9 (.int .i64 0)
  replace hW := below_setCells hW h.low 9 [.int .i64 0]
  replace hB := hB.setCell 10 (.int .i64 0)
  replace hW := below_setCells hW h.low 10 [.int .i64 0]
  replace hB := hB.setCell 11 (.int .i64 0)
  replace hW := below_setCells hW h.low 11 [.int .i64 0]
  exact ret0 rfl rfl ⟨rfl, ta, tc, la, lc, ⟨hB, ⟨hL.t, hL.l, hL.mt, hL.ml⟩, h.low, hW⟩⟩
set_option maxRecDepth 20000 in
theorem clear9 {w0 : World} (B : Nat) (s : Sp) (ta : Option Addr) (tc : Nat) (la : Option Addr) (lc : Nat) (w : World) (h : BoxAt w0 B s ta tc la lc w) : Calls Try.prog 71 #[.pointer (some ⟨B, 0, none⟩), .int .i64 9] w (Cleared w0 B (s.clear 9)) := by
  have HF := hid h
  have hf := h.f
  have c7 := hf.cell 7
  have f7 := hf.frozen 7
  have c8 := hf.cell 8
  have f8 := hf.frozen 8
  have c9 := hf.cell 9
  have f9 := hf.frozen 9
  have c10 := hf.cell 10
  have f10 := hf.frozen 10
  have c11 := hf.cell 11
  have f11 := hf.frozen 11
  have c12 := hf.cell 12
  have f12 := hf.frozen 12
  have c13 := hf.cell 13
  have f13 := hf.frozen 13
  clear hf h
  go_enter Try.func71, Try.ntmps71
  go_wp2
  have h := HF.out
  have hL := h.lists
  have hB := h.f
  have hW := h.below
  replace hB := hB.setCell 7 (.int .i64 0)
  replace hW := below_setCells hW h.low 7 [.int .i64 0]
  replace hB := hB.setCell 8 (.int .i64 0)
  replace hW := below_setCells hW h.low 8 [.int .i64 0]
  replace hB := hB.setCell 9 (.int .i64 0)
  replace hW := below_setCells hW h.low 9 [.int .i64 0]
  replace hB := hB.setCell 10 (.int .i64 0)
  replace hW := below_setCells hW h.low 10 [.int .i64 0]
  replace hB := hB.setCell 11 (.int .i64 0)
  replace hW := below_setCells hW h.low 11 [.int .i64 0]
  replace hB := hB.setCell 12 (.int .i64 0)
  replace hW := below_setCells hW h.low 12 [.int .i64 0]
  replace hB := hB.setCell 13 (.string ⟨#[]⟩)
  replace hW := below_setCells hW h.low 13 [.string ⟨#[]⟩]
  exact ret0 rfl rfl ⟨rfl, ta, tc, la, lc, ⟨hB, ⟨hL.t, hL.l, hL.mt, hL.ml⟩, h.low, hW⟩⟩
set_option maxRecDepth 20000 in
theorem clear10 {w0 : World} (B : Nat) (s : Sp) (ta : Option Addr) (tc : Nat) (la : Option Addr) (lc : Nat) (w : World) (h : BoxAt w0 B s ta tc la lc w) : Calls Try.prog 71 #[.pointer (some ⟨B, 0, none⟩), .int .i64 10] w (Cleared w0 B (s.clear 10)) := by
  have HF := hid h
  have hf := h.f
  have c12 := hf.cell 12
  have f12 := hf.frozen 12
  have c13 := hf.cell 13
  have f13 := hf.frozen 13
  clear hf h
  go_enter Try.func71, Try.ntmps71
  go_wp2
  have h := HF.out
  have hL := h.lists
  have hB := h.f
  have hW := h.below
  replace hB := hB.setCell 12 (.int .i64 0)
  replace hW := below_setCells hW h.low 12 [.int .i64 0]
  replace hB := hB.setCell 13 (.string ⟨#[]⟩)
  replace hW := below_setCells hW h.low 13 [.string ⟨#[]⟩]
  exact ret0 rfl rfl ⟨rfl, ta, tc, la, lc, ⟨hB, ⟨hL.t, hL.l, hL.mt, hL.ml⟩, h.low, hW⟩⟩
set_option maxRecDepth 20000 in
theorem clear11 {w0 : World} (B : Nat) (s : Sp) (ta : Option Addr) (tc : Nat) (la : Option Addr) (lc : Nat) (w : World) (h : BoxAt w0 B s ta tc la lc w) : Calls Try.prog 71 #[.pointer (some ⟨B, 0, none⟩), .int .i64 11] w (Cleared w0 B (s.clear 11)) := by
  have HF := hid h
  have hf := h.f
  have c15 := hf.cell 15
  have f15 := hf.frozen 15
  clear hf h
  go_enter Try.func71, Try.ntmps71
  go_wp2
  have h := HF.out
  have hL := h.lists
  have hB := h.f
  have hW := h.below
  replace hB := hB.setCell 15 (.slice none 0 0)
  replace hW := below_setCells hW h.low 15 [.slice none 0 0]
  exact ret0 rfl rfl ⟨rfl, ta, tc, none, 0, ⟨hB, ⟨hL.t, .inl rfl, hL.mt, Nat.zero_le _⟩, h.low, hW⟩⟩
theorem clear_any {w0 : World} (B : Nat) (s : Sp) (ta : Option Addr) (tc : Nat) (la : Option Addr) (lc : Nat) (m : Nat) (hm : m < 12) (w : World) (h : BoxAt w0 B s ta tc la lc w) : Calls Try.prog 71 #[.pointer (some ⟨B, 0, none⟩), .int .i64 (m : Int)] w (Cleared w0 B (s.clear m)) := by
  match m, hm with
  | 0, _ => exact clear0 B s ta tc la lc w h
  | 1, _ => exact clear1 B s ta tc la lc w h
  | 2, _ => exact clear2 B s ta tc la lc w h
  | 3, _ => exact clear3 B s ta tc la lc w h
  | 4, _ => exact clear4 B s ta tc la lc w h
  | 5, _ => exact clear5 B s ta tc la lc w h
  | 6, _ => exact clear6 B s ta tc la lc w h
  | 7, _ => exact clear7 B s ta tc la lc w h
  | 8, _ => exact clear8 B s ta tc la lc w h
  | 9, _ => exact clear9 B s ta tc la lc w h
  | 10, _ => exact clear10 B s ta tc la lc w h
  | 11, _ => exact clear11 B s ta tc la lc w h
end Go.Proofs.Ytiajpjkkopdmgaa.step

namespace Go.Proofs.Ytiajpjkkopdmgaa.schema
open Go.RowKit
open Go.Proofs.Ytiajpjkkopdmgaa.field (Gives newB gives_from)
set_option linter.unusedVariables false

theorem neq_fd (p q : field.Fd) (w : World) : (binOp .neq 26 (.agg #[.int .i64 p.id, .int .i64 p.kind, .int .i64 p.lo, .int .i64 p.hi, .int .i64 p.most]) (.agg #[.int .i64 q.id, .int .i64 q.kind, .int .i64 q.lo, .int .i64 q.hi, .int .i64 q.most])).run Try.prog w = .ok (.bool (!decide (p = q))) w := by
  rw [run_neq_struct, show (10000 : Nat) = 9999 + 1 from rfl, run_equalIn_struct w 9999 26 _ _ (by kernel_rfl) Try.stoodInHeld26]
  go_simp
  obtain ⟨i, k, lo, hi, m⟩ := p
  obtain ⟨i', k', lo', hi', m'⟩ := q
  simp only [field.Fd.mk.injEq]
  by_cases h1 : i = i'
  · by_cases h2 : k = k'
    · by_cases h3 : lo = lo'
      · by_cases h4 : hi = hi'
        · by_cases h5 : m = m' <;> simp [h1, h2, h3, h4, h5]
        · simp [h1, h2, h3, h4]
      · simp [h1, h2, h3]
    · simp [h1, h2]
  · simp [h1]
theorem eq_take_succ {α : Type} {L M : List α} {k : Nat} {p q : α} (hp : L[k]? = some p) (hq : M[k]? = some q) : L.take (k + 1) = M.take (k + 1) ↔ L.take k = M.take k ∧ p = q := by
  rw [take_succ_at hp, take_succ_at hq]
  have h1 := (List.getElem?_eq_some_iff.1 hp).1
  have h2 := (List.getElem?_eq_some_iff.1 hq).1
  constructor
  · intro h
    have := List.append_inj' h rfl
    exact ⟨this.1, by simpa using this.2⟩
  · rintro ⟨h, rfl⟩; rw [h]
theorem equalF_any (a : Option Addr) (ca : Nat) (L : List field.Fd) (b : Option Addr) (cb : Nat) (M : List field.Fd) (w : World) (h : field.Fds w a L) (h' : field.Fds w b M) (hL : L.length ≤ maxLen) (hM : M.length ≤ maxLen) :
    Calls Try.prog 99 #[.slice a L.length ca, .slice b M.length cb] w (Gives (.bool (decide (L = M))) w) := by
  have hml : (L.length : Int) ≤ 9223372036854775807 := by unfold maxLen at hL; omega
  have hmm : (M.length : Int) ≤ 9223372036854775807 := by unfold maxLen at hM; omega
  have HF := hid h
  have HG := hid h'
  obtain ⟨r, hr⟩ : ∃ r : Bool, Hid (decide (L = M) = r) := ⟨_, rfl⟩
  rw [hr.out]
  unfold Gives
  clear h h' hL hM
  by_cases hlen : L.length = M.length
  · have HLEN := hid hlen
    rw [← hlen]
    clear hlen hmm
    go_enter Try.func99, Try.ntmps99
    go_wp2
    go_loopw [13] (fun n wr => ∃ k : Nat, k ≤ L.length ∧ n = .int .i64 (k : Int) ∧ Hid (L.take k = M.take k) ∧ Hid (Below w.heap.size w wr)) (fun n _ => L.length - (intOf n).toNat)
    case atStart => exact ⟨0, Nat.zero_le _, rfl, hid rfl, hid (Below.refl _ _)⟩
    case round =>
      obtain ⟨k, hk, rfl, HEQ, HB⟩ := hrel
      by_cases hlt : k < L.length
      · obtain ⟨g, off, p, rfl, hbl, hp, c0, c1, c2, c3, c4⟩ := field_at HF.out HB.out hlt
        obtain ⟨g', off', q, rfl, hbl', hq, d0, d1, d2, d3, d4⟩ := field_at HG.out HB.out (k := k) (by rw [← HLEN.out]; exact hlt)
        have i1 : (k : Int) < L.length := by omega
        have HS := hid (eq_take_succ hp hq)
        have hne := fun W => neq_fd p q W
        have HNE := hid (fun (hpq : ¬ p = q) => show ¬ L = M from fun e => by rw [e] at hp; exact hpq (Option.some.inj (hp.symm.trans hq)))
        clear hp hq
        by_cases hpq : p = q
        · rw [decide_eq_true hpq] at hne
          have HPQ := hid hpq
          clear hpq
          go_wp2
          go_quiet (fail)
          go_wp2
          exact ⟨⟨k + 1, by omega, by go_num, hid (HS.out.2 ⟨HEQ.out, HPQ.out⟩), hid (below_drewN HB.out _)⟩, by simp [intOf]; omega⟩
        · rw [decide_eq_false hpq] at hne
          obtain rfl : false = r := by rw [← hr.out]; exact (decide_eq_false (HNE.out hpq)).symm
          clear hpq
          go_wp2
          go_quiet (fail)
          go_wp2
          go_ret
          exact ⟨rfl, below_drewN HB.out _⟩
      · obtain rfl : k = L.length := by omega
        obtain rfl : true = r := by
          rw [← hr.out]
          have := HEQ.out
          rw [List.take_of_length_le (Nat.le_refl _), List.take_of_length_le (by rw [HLEN.out]; exact Nat.le_refl _)] at this
          exact (decide_eq_true this).symm
        go_wp2
        go_ret
        exact ⟨rfl, HB.out⟩
  · obtain rfl : false = r := by rw [← hr.out]; exact (decide_eq_false (fun e => hlen (by rw [e]))).symm
    have hd : ((L.length : Int) == (M.length : Int)) = false := by rw [beq_eq_false_iff_ne]; omega
    clear hlen
    go_enter Try.func99, Try.ntmps99
    go_wp2
    go_ret
    exact ⟨rfl, Below.refl _ _⟩
end Go.Proofs.Ytiajpjkkopdmgaa.schema
