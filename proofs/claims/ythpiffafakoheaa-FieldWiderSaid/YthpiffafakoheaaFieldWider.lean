/- Contract of Wider of layer 12 (field), of the program and of the reference. No condition. -/
import Derived.Test.YthpiffafakoheaaFieldSmall
import Derived.Test.YthpiffafakoheaaFieldSpan
namespace Go.Proofs.Ythpiffafakoheaa.field
open Go.RowKit
set_option linter.unusedVariables false

/-- the world in which two fields have been boxed -/
def WW (f g : Fd) (w : World) : World := (w.alloc (.cells #[.int .i64 f.id, .int .i64 f.kind, .int .i64 f.lo, .int .i64 f.hi, .int .i64 f.most] 23)).alloc (.cells #[.int .i64 g.id, .int .i64 g.kind, .int .i64 g.lo, .int .i64 g.hi, .int .i64 g.most] 23)
theorem WW.all (f g : Fd) (w w' : World) (hb : Below (WW f g w).heap.size (WW f g w) w') : (w'.cell? ⟨w.heap.size, 0, none⟩ = some (.int .i64 f.id) ∧ w'.cell? ⟨w.heap.size, 1, none⟩ = some (.int .i64 f.kind) ∧ w'.cell? ⟨w.heap.size, 2, none⟩ = some (.int .i64 f.lo) ∧ w'.cell? ⟨w.heap.size, 3, none⟩ = some (.int .i64 f.hi) ∧ w'.cell? ⟨w.heap.size, 4, none⟩ = some (.int .i64 f.most)) ∧ (w'.cell? ⟨w.heap.size + 1, 0, none⟩ = some (.int .i64 g.id) ∧ w'.cell? ⟨w.heap.size + 1, 1, none⟩ = some (.int .i64 g.kind) ∧ w'.cell? ⟨w.heap.size + 1, 2, none⟩ = some (.int .i64 g.lo) ∧ w'.cell? ⟨w.heap.size + 1, 3, none⟩ = some (.int .i64 g.hi) ∧ w'.cell? ⟨w.heap.size + 1, 4, none⟩ = some (.int .i64 g.most)) ∧ Below w.heap.size w w' := by
  have h1 : Below (w.alloc (.cells #[.int .i64 f.id, .int .i64 f.kind, .int .i64 f.lo, .int .i64 f.hi, .int .i64 f.most] 23)).heap.size (w.alloc (.cells #[.int .i64 f.id, .int .i64 f.kind, .int .i64 f.lo, .int .i64 f.hi, .int .i64 f.most] 23)) w' := (newB _ _).trans (hb.mono (by unfold WW; simp))
  refine ⟨five f w w' h1, ?_, belowF f w w' h1⟩
  have h2 := five g (w.alloc (.cells #[.int .i64 f.id, .int .i64 f.kind, .int .i64 f.lo, .int .i64 f.hi, .int .i64 f.most] 23)) w' hb
  simpa using h2
theorem span_from (f : Fd) (h : f.Right) {w0 w : World} (hb : Below w0.heap.size w0 w) : Calls Try.prog 24 #[.agg #[.int .i64 f.id, .int .i64 f.kind, .int .i64 f.lo, .int .i64 f.hi, .int .i64 f.most]] w fun e w' => e = .returned (.tuple #[.int .i64 f.lo, .int .i64 f.great, .int .i64 f.long, .bool true]) ∧ Below w0.heap.size w0 w' :=
  (span_yes f h w).mono fun _ _ ⟨he, hw⟩ => ⟨he, hb.trans (hw.mono hb.size)⟩
theorem span_from_no (f : Fd) (h : ¬ f.Right) {w0 w : World} (hb : Below w0.heap.size w0 w) : Calls Try.prog 24 #[.agg #[.int .i64 f.id, .int .i64 f.kind, .int .i64 f.lo, .int .i64 f.hi, .int .i64 f.most]] w fun e w' => (∃ a b c : Int, e = .returned (.tuple #[.int .i64 a, .int .i64 b, .int .i64 c, .bool false])) ∧ Below w0.heap.size w0 w' :=
  (span_no f h w).mono fun _ _ ⟨he, hw⟩ => ⟨he, hb.trans (hw.mono hb.size)⟩
/-- Wider by the spans -/
theorem Fd.wider_span {f g : Fd} (hf : f.Right) (hg : g.Right) : f.Wider g ↔ f.kind = g.kind ∧ g.lo ≤ f.lo ∧ f.great ≤ g.great ∧ f.long ≤ g.long := by
  have h1 := hf
  have h2 := hg
  unfold Fd.Right at h1 h2
  unfold Fd.Wider Fd.great Fd.long
  constructor
  · rintro ⟨_, _, hk, h3, h4, h5⟩
    rw [← hk]
    rcases kinds hf with k | k | k | k <;> rw [k] <;> simp <;> omega
  · rintro ⟨hk, h3, h4, h5⟩
    rw [← hk] at h4 h5 h2
    refine ⟨hf, hg, hk, h3, ?_⟩
    rcases kinds hf with k | k | k | k <;> rw [k] at h4 h5 h1 h2 <;> simp at h4 h5 <;> omega
set_option maxHeartbeats 4000000 in
theorem wider_any (f g : Fd) (w : World) : Calls Try.prog 15 #[.agg #[.int .i64 f.id, .int .i64 f.kind, .int .i64 f.lo, .int .i64 f.hi, .int .i64 f.most], .agg #[.int .i64 g.id, .int .i64 g.kind, .int .i64 g.lo, .int .i64 g.hi, .int .i64 g.most]] w (Gives (.bool (decide (f.Wider g))) w) := by
  have HW := hid (WW.all f g w)
  obtain ⟨V, hV⟩ : ∃ V, Hid (decide (f.Wider g) = V) := ⟨_, rfl⟩
  rw [hV.out]
  unfold Gives
  by_cases hf : f.Right
  · by_cases hg : g.Right
    · have cr1 := gives_from (right_any f (WW f g w)) (w0 := WW f g w) (Below.refl _ _)
      have cr2 := fun w1 (hb : Below (WW f g w).heap.size (WW f g w) w1) => gives_from (right_any g w1) hb
      rw [decide_eq_true hf] at cr1
      rw [decide_eq_true hg] at cr2
      have HQ : Hid (f.Wider g ↔ (f.kind = g.kind ∧ g.lo ≤ f.lo ∧ f.hi ≤ g.hi ∧ f.most ≤ g.most)) := hid ⟨fun h => h.2.2, fun h => ⟨hf, hg, h⟩⟩
      unfold WW at cr1 cr2 HW
      clear hf hg
      by_cases a1 : f.kind = g.kind
      · by_cases a2 : g.lo ≤ f.lo
        · by_cases a3 : f.hi ≤ g.hi
          · by_cases a4 : f.most ≤ g.most
            · have HY : Hid (true = V) := hid (by rw [← hV.out]; symm; exact decide_eq_true (by rw [HQ.out]; omega))
              clear HQ hV
              have e1 : (f.kind == g.kind) = true := by rw [beq_iff_eq]; exact a1
              clear a1
              go_enter Try.func15, Try.ntmps15
              go_wp2_with (first
                | (go_at_call 7; (with_reducible refine cr1.mono ?_); rintro e w1 ⟨rfl, hb1⟩; obtain ⟨hf1, hg1, hbw1⟩ := HW.out _ hb1; clear cr1)
                | (go_at_call 7; (with_reducible refine (cr2 _ hb1).mono ?_); rintro e w2 ⟨rfl, hb2⟩; obtain ⟨hf2, hg2, hbw2⟩ := HW.out _ hb2))
              go_ret
              exact ⟨ret_bool (HY.out), hbw2⟩
            · have HY : Hid (false = V) := hid (by rw [← hV.out]; symm; exact decide_eq_false (by rw [HQ.out]; omega))
              clear HQ hV
              have e1 : (f.kind == g.kind) = true := by rw [beq_iff_eq]; exact a1
              have d4 : decide (f.most ≤ g.most) = false := decide_eq_false a4
              clear a1 a4
              go_enter Try.func15, Try.ntmps15
              go_wp2_with (first
                | (go_at_call 7; (with_reducible refine cr1.mono ?_); rintro e w1 ⟨rfl, hb1⟩; obtain ⟨hf1, hg1, hbw1⟩ := HW.out _ hb1; clear cr1)
                | (go_at_call 7; (with_reducible refine (cr2 _ hb1).mono ?_); rintro e w2 ⟨rfl, hb2⟩; obtain ⟨hf2, hg2, hbw2⟩ := HW.out _ hb2))
              go_ret
              exact ⟨ret_bool (HY.out), hbw2⟩
          · have HY : Hid (false = V) := hid (by rw [← hV.out]; symm; exact decide_eq_false (by rw [HQ.out]; omega))
            clear HQ hV
            have e1 : (f.kind == g.kind) = true := by rw [beq_iff_eq]; exact a1
            have d4 : decide (f.hi ≤ g.hi) = false := decide_eq_false a3
            clear a1 a3
            go_enter Try.func15, Try.ntmps15
            go_wp2_with (first
              | (go_at_call 7; (with_reducible refine cr1.mono ?_); rintro e w1 ⟨rfl, hb1⟩; obtain ⟨hf1, hg1, hbw1⟩ := HW.out _ hb1; clear cr1)
              | (go_at_call 7; (with_reducible refine (cr2 _ hb1).mono ?_); rintro e w2 ⟨rfl, hb2⟩; obtain ⟨hf2, hg2, hbw2⟩ := HW.out _ hb2))
            go_ret
            exact ⟨ret_bool (HY.out), hbw2⟩
        · have HY : Hid (false = V) := hid (by rw [← hV.out]; symm; exact decide_eq_false (by rw [HQ.out]; omega))
          clear HQ hV
          have e1 : (f.kind == g.kind) = true := by rw [beq_iff_eq]; exact a1
          have d4 : decide (g.lo ≤ f.lo) = false := decide_eq_false a2
          clear a1 a2
          go_enter Try.func15, Try.ntmps15
          go_wp2_with (first
            | (go_at_call 7; (with_reducible refine cr1.mono ?_); rintro e w1 ⟨rfl, hb1⟩; obtain ⟨hf1, hg1, hbw1⟩ := HW.out _ hb1; clear cr1)
            | (go_at_call 7; (with_reducible refine (cr2 _ hb1).mono ?_); rintro e w2 ⟨rfl, hb2⟩; obtain ⟨hf2, hg2, hbw2⟩ := HW.out _ hb2))
          go_ret
          exact ⟨ret_bool (HY.out), hbw2⟩
      · have HY : Hid (false = V) := hid (by rw [← hV.out]; symm; exact decide_eq_false (by rw [HQ.out]; omega))
        clear HQ hV
        have e1 : (f.kind == g.kind) = false := by rw [beq_eq_false_iff_ne]; exact a1
        clear a1
        go_enter Try.func15, Try.ntmps15
        go_wp2_with (first
          | (go_at_call 7; (with_reducible refine cr1.mono ?_); rintro e w1 ⟨rfl, hb1⟩; obtain ⟨hf1, hg1, hbw1⟩ := HW.out _ hb1; clear cr1)
          | (go_at_call 7; (with_reducible refine (cr2 _ hb1).mono ?_); rintro e w2 ⟨rfl, hb2⟩; obtain ⟨hf2, hg2, hbw2⟩ := HW.out _ hb2))
        go_ret
        exact ⟨ret_bool (HY.out), hbw2⟩
    · have cr1 := gives_from (right_any f (WW f g w)) (w0 := WW f g w) (Below.refl _ _)
      have cr2 := fun w1 (hb : Below (WW f g w).heap.size (WW f g w) w1) => gives_from (right_any g w1) hb
      rw [decide_eq_true hf] at cr1
      rw [decide_eq_false hg] at cr2
      have HY : Hid (false = V) := hid (by rw [← hV.out]; symm; exact decide_eq_false (fun h => hg h.2.1))
      unfold WW at cr1 cr2 HW
      clear hf hg hV
      go_enter Try.func15, Try.ntmps15
      go_wp2_with (first
        | (go_at_call 7; (with_reducible refine cr1.mono ?_); rintro e w1 ⟨rfl, hb1⟩; obtain ⟨hf1, hg1, hbw1⟩ := HW.out _ hb1; clear cr1)
        | (go_at_call 7; (with_reducible refine (cr2 _ hb1).mono ?_); rintro e w2 ⟨rfl, hb2⟩; obtain ⟨hf2, hg2, hbw2⟩ := HW.out _ hb2))
      go_ret
      exact ⟨ret_bool (HY.out), hbw2⟩
  · have cr1 := gives_from (right_any f (WW f g w)) (w0 := WW f g w) (Below.refl _ _)
    rw [decide_eq_false hf] at cr1
    have HY : Hid (false = V) := hid (by rw [← hV.out]; symm; exact decide_eq_false (fun h => hf h.1))
    unfold WW at cr1 HW
    clear hf hV
    go_enter Try.func15, Try.ntmps15
    go_wp2_with (first
      | (go_at_call 7; (with_reducible refine cr1.mono ?_); rintro e w1 ⟨rfl, hb1⟩; obtain ⟨hf1, hg1, hbw1⟩ := HW.out _ hb1; clear cr1))
    go_ret
    exact ⟨ret_bool (HY.out), hbw1⟩
set_option maxHeartbeats 4000000 in
theorem refWider_any (f g : Fd) (w : World) : Calls Try.prog 16 #[.agg #[.int .i64 f.id, .int .i64 f.kind, .int .i64 f.lo, .int .i64 f.hi, .int .i64 f.most], .agg #[.int .i64 g.id, .int .i64 g.kind, .int .i64 g.lo, .int .i64 g.hi, .int .i64 g.most]] w (Gives (.bool (decide (f.Wider g))) w) := by
  have HW := hid (WW.all f g w)
  obtain ⟨V, hV⟩ : ∃ V, Hid (decide (f.Wider g) = V) := ⟨_, rfl⟩
  rw [hV.out]
  unfold Gives
  by_cases hf : f.Right
  · by_cases hg : g.Right
    · have cs1 := span_from f hf (w0 := WW f g w) (Below.refl _ _)
      have cs2 := fun w1 (hb : Below (WW f g w).heap.size (WW f g w) w1) => span_from g hg hb
      have HQ := hid (Fd.wider_span hf hg)
      unfold WW at cs1 cs2 HW
      clear hf hg
      generalize f.great = G1 at *
      generalize g.great = G2 at *
      generalize f.long = L1 at *
      generalize g.long = L2 at *
      by_cases a1 : f.kind = g.kind
      · by_cases a2 : g.lo ≤ f.lo
        · by_cases a3 : G1 ≤ G2
          · by_cases a4 : L1 ≤ L2
            · have HY : Hid (true = V) := hid (by rw [← hV.out]; symm; exact decide_eq_true (by rw [HQ.out]; omega))
              clear HQ hV
              have e1 : (f.kind == g.kind) = true := by rw [beq_iff_eq]; exact a1
              clear a1
              go_enter Try.func16, Try.ntmps16
              go_wp2_with (first
                | (go_at_call 24; (with_reducible refine cs1.mono ?_); rintro e w1 ⟨rfl, hb1⟩; obtain ⟨hf1, hg1, hbw1⟩ := HW.out _ hb1; clear cs1)
                | (go_at_call 24; (with_reducible refine (cs2 _ hb1).mono ?_); rintro e w2 ⟨rfl, hb2⟩; obtain ⟨hf2, hg2, hbw2⟩ := HW.out _ hb2))
              go_ret
              exact ⟨ret_bool (HY.out), hbw2⟩
            · have HY : Hid (false = V) := hid (by rw [← hV.out]; symm; exact decide_eq_false (by rw [HQ.out]; omega))
              clear HQ hV
              have e1 : (f.kind == g.kind) = true := by rw [beq_iff_eq]; exact a1
              have d4 : decide (L1 ≤ L2) = false := decide_eq_false a4
              clear a1 a4
              go_enter Try.func16, Try.ntmps16
              go_wp2_with (first
                | (go_at_call 24; (with_reducible refine cs1.mono ?_); rintro e w1 ⟨rfl, hb1⟩; obtain ⟨hf1, hg1, hbw1⟩ := HW.out _ hb1; clear cs1)
                | (go_at_call 24; (with_reducible refine (cs2 _ hb1).mono ?_); rintro e w2 ⟨rfl, hb2⟩; obtain ⟨hf2, hg2, hbw2⟩ := HW.out _ hb2))
              go_ret
              exact ⟨ret_bool (HY.out), hbw2⟩
          · have HY : Hid (false = V) := hid (by rw [← hV.out]; symm; exact decide_eq_false (by rw [HQ.out]; omega))
            clear HQ hV
            have e1 : (f.kind == g.kind) = true := by rw [beq_iff_eq]; exact a1
            have d4 : decide (G1 ≤ G2) = false := decide_eq_false a3
            clear a1 a3
            go_enter Try.func16, Try.ntmps16
            go_wp2_with (first
              | (go_at_call 24; (with_reducible refine cs1.mono ?_); rintro e w1 ⟨rfl, hb1⟩; obtain ⟨hf1, hg1, hbw1⟩ := HW.out _ hb1; clear cs1)
              | (go_at_call 24; (with_reducible refine (cs2 _ hb1).mono ?_); rintro e w2 ⟨rfl, hb2⟩; obtain ⟨hf2, hg2, hbw2⟩ := HW.out _ hb2))
            go_ret
            exact ⟨ret_bool (HY.out), hbw2⟩
        · have HY : Hid (false = V) := hid (by rw [← hV.out]; symm; exact decide_eq_false (by rw [HQ.out]; omega))
          clear HQ hV
          have e1 : (f.kind == g.kind) = true := by rw [beq_iff_eq]; exact a1
          have d4 : decide (g.lo ≤ f.lo) = false := decide_eq_false a2
          clear a1 a2
          go_enter Try.func16, Try.ntmps16
          go_wp2_with (first
            | (go_at_call 24; (with_reducible refine cs1.mono ?_); rintro e w1 ⟨rfl, hb1⟩; obtain ⟨hf1, hg1, hbw1⟩ := HW.out _ hb1; clear cs1)
            | (go_at_call 24; (with_reducible refine (cs2 _ hb1).mono ?_); rintro e w2 ⟨rfl, hb2⟩; obtain ⟨hf2, hg2, hbw2⟩ := HW.out _ hb2))
          go_ret
          exact ⟨ret_bool (HY.out), hbw2⟩
      · have HY : Hid (false = V) := hid (by rw [← hV.out]; symm; exact decide_eq_false (by rw [HQ.out]; omega))
        clear HQ hV
        have e1 : (f.kind == g.kind) = false := by rw [beq_eq_false_iff_ne]; exact a1
        clear a1
        go_enter Try.func16, Try.ntmps16
        go_wp2_with (first
          | (go_at_call 24; (with_reducible refine cs1.mono ?_); rintro e w1 ⟨rfl, hb1⟩; obtain ⟨hf1, hg1, hbw1⟩ := HW.out _ hb1; clear cs1)
          | (go_at_call 24; (with_reducible refine (cs2 _ hb1).mono ?_); rintro e w2 ⟨rfl, hb2⟩; obtain ⟨hf2, hg2, hbw2⟩ := HW.out _ hb2))
        go_ret
        exact ⟨ret_bool (HY.out), hbw2⟩
    · have cs1 := span_from f hf (w0 := WW f g w) (Below.refl _ _)
      have cs2 := fun w1 (hb : Below (WW f g w).heap.size (WW f g w) w1) => span_from_no g hg hb
      have HY : Hid (false = V) := hid (by rw [← hV.out]; symm; exact decide_eq_false (fun h => hg h.2.1))
      unfold WW at cs1 cs2 HW
      clear hf hg hV
      go_enter Try.func16, Try.ntmps16
      go_wp2_with (first
        | (go_at_call 24; (with_reducible refine cs1.mono ?_); rintro e w1 ⟨rfl, hb1⟩; obtain ⟨hf1, hg1, hbw1⟩ := HW.out _ hb1; clear cs1)
        | (go_at_call 24; (with_reducible refine (cs2 _ hb1).mono ?_); rintro e w2 ⟨⟨a2, b2, c2, rfl⟩, hb2⟩; obtain ⟨hf2, hg2, hbw2⟩ := HW.out _ hb2))
      go_ret
      exact ⟨ret_bool (HY.out), hbw2⟩
  · have cs1 := span_from_no f hf (w0 := WW f g w) (Below.refl _ _)
    have HY : Hid (false = V) := hid (by rw [← hV.out]; symm; exact decide_eq_false (fun h => hf h.1))
    clear hf hV
    by_cases hg : g.Right
    · have cs2 := fun w1 (hb : Below (WW f g w).heap.size (WW f g w) w1) => span_from g hg hb
      unfold WW at cs1 cs2 HW
      clear hg
      go_enter Try.func16, Try.ntmps16
      go_wp2_with (first
        | (go_at_call 24; (with_reducible refine cs1.mono ?_); rintro e w1 ⟨⟨a1, b1, c1, rfl⟩, hb1⟩; obtain ⟨hf1, hg1, hbw1⟩ := HW.out _ hb1; clear cs1)
        | (go_at_call 24; (with_reducible refine (cs2 _ hb1).mono ?_); rintro e w2 ⟨rfl, hb2⟩; obtain ⟨hf2, hg2, hbw2⟩ := HW.out _ hb2))
      go_ret
      exact ⟨ret_bool (HY.out), hbw2⟩
    · have cs2 := fun w1 (hb : Below (WW f g w).heap.size (WW f g w) w1) => span_from_no g hg hb
      unfold WW at cs1 cs2 HW
      clear hg
      go_enter Try.func16, Try.ntmps16
      go_wp2_with (first
        | (go_at_call 24; (with_reducible refine cs1.mono ?_); rintro e w1 ⟨⟨a1, b1, c1, rfl⟩, hb1⟩; obtain ⟨hf1, hg1, hbw1⟩ := HW.out _ hb1; clear cs1)
        | (go_at_call 24; (with_reducible refine (cs2 _ hb1).mono ?_); rintro e w2 ⟨⟨a2, b2, c2, rfl⟩, hb2⟩; obtain ⟨hf2, hg2, hbw2⟩ := HW.out _ hb2))
      go_ret
      exact ⟨ret_bool (HY.out), hbw2⟩
end Go.Proofs.Ythpiffafakoheaa.field
