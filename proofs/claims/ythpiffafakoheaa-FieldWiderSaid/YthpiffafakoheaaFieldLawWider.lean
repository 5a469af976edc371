/- FieldWider: a value of a field belongs to each wider field, the first value of a right field belongs to it, and it is wider than itself. No condition. -/
import Derived.Test.YthpiffafakoheaaFieldEq
import Derived.Test.YthpiffafakoheaaPlanMore
namespace Go.Proofs.Ythpiffafakoheaa.fieldWider
open Go.RowKit Go.Proofs.Ythpiffafakoheaa.field
set_option linter.unusedVariables false

theorem least_has (f : field.Fd) (w : World) : Calls Try.prog 9 #[.agg #[.int .i64 f.id, .int .i64 f.kind, .int .i64 f.lo, .int .i64 f.hi, .int .i64 f.most], .agg #[.int .i64 f.least, .string ⟨#[]⟩]] w (Gives (.bool (decide f.Right)) w) := by
  rw [decide_eq_decide.2 f.least_has]; exact has_any f ⟨f.least, ⟨#[]⟩⟩ w
theorem wider_self (f : field.Fd) (w : World) : Calls Try.prog 15 #[.agg #[.int .i64 f.id, .int .i64 f.kind, .int .i64 f.lo, .int .i64 f.hi, .int .i64 f.most], .agg #[.int .i64 f.id, .int .i64 f.kind, .int .i64 f.lo, .int .i64 f.hi, .int .i64 f.most]] w (Gives (.bool (decide f.Right)) w) := by
  rw [decide_eq_decide.2 f.wider_self]; exact wider_any f f w
/-- what stands behind the two tests -/
theorem both (f g : field.Fd) (v : Va) : (decide (f.Wider g) = false) ∨ (decide (f.Wider g) = true ∧ decide (f.Has v) = false) ∨ (decide (f.Wider g) = true ∧ decide (f.Has v) = true ∧ decide (g.Has v) = true) := by
  by_cases h1 : f.Wider g
  · by_cases h2 : f.Has v
    · exact .inr (.inr ⟨decide_eq_true h1, decide_eq_true h2, decide_eq_true (h1.has h2)⟩)
    · exact .inr (.inl ⟨decide_eq_true h1, decide_eq_false h2⟩)
  · exact .inl (decide_eq_false h1)
set_option maxRecDepth 20000 in
theorem walk0 (f g : field.Fd) (v : Va) (w : World) : Calls Try.prog 6 #[.agg #[.int .i64 f.id, .int .i64 f.kind, .int .i64 f.lo, .int .i64 f.hi, .int .i64 f.most], .agg #[.int .i64 g.id, .int .i64 g.kind, .int .i64 g.lo, .int .i64 g.hi, .int .i64 g.most], .agg #[.int .i64 v.n, .string v.s]] w (Yes w) := by
  have HLF := info_field
  have HLV := info_val
  have hB1 := Block.new w 23 [.int .i64 f.id, .int .i64 f.kind, .int .i64 f.lo, .int .i64 f.hi, .int .i64 f.most]
  have hB2 := Block.new (w.alloc (.cells #[.int .i64 f.id, .int .i64 f.kind, .int .i64 f.lo, .int .i64 f.hi, .int .i64 f.most] 23)) 23 [.int .i64 g.id, .int .i64 g.kind, .int .i64 g.lo, .int .i64 g.hi, .int .i64 g.most]
  have hB3 := Block.new ((w.alloc (.cells #[.int .i64 f.id, .int .i64 f.kind, .int .i64 f.lo, .int .i64 f.hi, .int .i64 f.most] 23)).alloc (.cells #[.int .i64 g.id, .int .i64 g.kind, .int .i64 g.lo, .int .i64 g.hi, .int .i64 g.most] 23)) 25 [.int .i64 v.n, .string v.s]
  rw [World.size_alloc] at hB2
  rw [World.size_alloc, World.size_alloc] at hB3
  obtain ⟨w0, hw0⟩ : ∃ x, Hid (((w.alloc (.cells #[.int .i64 f.id, .int .i64 f.kind, .int .i64 f.lo, .int .i64 f.hi, .int .i64 f.most] 23)).alloc (.cells #[.int .i64 g.id, .int .i64 g.kind, .int .i64 g.lo, .int .i64 g.hi, .int .i64 g.most] 23)).alloc (.cells #[.int .i64 v.n, .string v.s] 25) = x) := ⟨_, rfl⟩
  have HB2 : Hid (∀ w', Below w0.heap.size w0 w' → Below w.heap.size w w') := hid (by
    rw [← hw0.out]
    exact fun w' h => ((((Below.refl _ w).alloc (Nat.le_refl _) _).alloc (by simp) _).alloc (by simp; omega) _).trans (h.mono (by simp; omega)))
  have HBF : Hid (Block w0 w.heap.size 23 [.int .i64 f.id, .int .i64 f.kind, .int .i64 f.lo, .int .i64 f.hi, .int .i64 f.most]) := hid (by rw [← hw0.out]; exact (hB1.alloc _).alloc _)
  have HBG : Hid (Block w0 (w.heap.size + 1) 23 [.int .i64 g.id, .int .i64 g.kind, .int .i64 g.lo, .int .i64 g.hi, .int .i64 g.most]) := hid (by rw [← hw0.out]; exact hB2.alloc _)
  have HBV : Hid (Block w0 (w.heap.size + 2) 25 [.int .i64 v.n, .string v.s]) := hid (by rw [← hw0.out]; exact hB3)
  clear hB1 hB2 hB3
  have cw := gives_from (wider_any f g w0) (w0 := w0) (Below.refl _ _)
  have chf := fun W (hb : Below w0.heap.size w0 W) => gives_from (has_any f v W) hb
  have chg := fun W (hb : Below w0.heap.size w0 W) => gives_from (has_any g v W) hb
  have HC : Hid (∀ w', Below w0.heap.size w0 w' → (w'.cell? ⟨w.heap.size, 0, none⟩ = some (.int .i64 f.id) ∧ w'.cell? ⟨w.heap.size, 1, none⟩ = some (.int .i64 f.kind) ∧ w'.cell? ⟨w.heap.size, 2, none⟩ = some (.int .i64 f.lo) ∧ w'.cell? ⟨w.heap.size, 3, none⟩ = some (.int .i64 f.hi) ∧ w'.cell? ⟨w.heap.size, 4, none⟩ = some (.int .i64 f.most)) ∧ (w'.cell? ⟨w.heap.size + 1, 0, none⟩ = some (.int .i64 g.id) ∧ w'.cell? ⟨w.heap.size + 1, 1, none⟩ = some (.int .i64 g.kind) ∧ w'.cell? ⟨w.heap.size + 1, 2, none⟩ = some (.int .i64 g.lo) ∧ w'.cell? ⟨w.heap.size + 1, 3, none⟩ = some (.int .i64 g.hi) ∧ w'.cell? ⟨w.heap.size + 1, 4, none⟩ = some (.int .i64 g.most)) ∧ (w'.cell? ⟨w.heap.size + 2, 0, none⟩ = some (.int .i64 v.n) ∧ w'.cell? ⟨w.heap.size + 2, 1, none⟩ = some (.string v.s))) := hid fun w' h => ⟨⟨(HBF.out.later h).cell 0, (HBF.out.later h).cell 1, (HBF.out.later h).cell 2, (HBF.out.later h).cell 3, (HBF.out.later h).cell 4⟩, ⟨(HBG.out.later h).cell 0, (HBG.out.later h).cell 1, (HBG.out.later h).cell 2, (HBG.out.later h).cell 3, (HBG.out.later h).cell 4⟩, ⟨(HBV.out.later h).cell 0, (HBV.out.later h).cell 1⟩⟩
  rw [← hw0.out] at cw
  have hk0 := HC.out w0 (Below.refl _ _)
  rw [← hw0.out] at hk0
  rcases both f g v with h1 | ⟨h1, h2⟩ | ⟨h1, h2, h3⟩
  · rw [h1] at cw
    go_enter Try.func6, Try.ntmps6
    go_wp2_with (first
      | (go_at_call 15; (with_reducible refine cw.mono ?_); rintro e w1 ⟨rfl, hb1⟩; rw [hw0.out] at hb1; obtain ⟨k1, k2, k3⟩ := HC.out _ hb1))
    have hb : Below w0.heap.size w0 w1.drew := below_drew hb1
    have hbf := HBF.out.later hb
    have hbg := HBG.out.later hb
    have hbv := HBV.out.later hb
    refine plan.region (by kernel_rfl) ?_
    refine plan.Rest.first 0 _ (.agg #[.int .i64 f.id, .int .i64 f.kind, .int .i64 f.lo, .int .i64 f.hi, .int .i64 f.most]) rfl (by kernel_rfl) (by kernel_rfl) (by kernel_rfl) (by kernel_rfl) (fun w' hb' => plan.exec_load rfl (by kernel_rfl) (hbf.later hb').whole Try.underlying23 rfl HLF.out) ?_
    refine plan.Rest.first 2 _ (.agg #[.int .i64 f.id, .int .i64 f.kind, .int .i64 f.lo, .int .i64 f.hi, .int .i64 f.most]) rfl (by kernel_rfl) (by kernel_rfl) (by kernel_rfl) (by kernel_rfl) (fun w' hb' => plan.exec_load rfl (by kernel_rfl) (hbf.later hb').whole Try.underlying23 rfl HLF.out) ?_
    refine plan.Rest.first 3 _ (.agg #[.int .i64 f.id, .int .i64 f.kind, .int .i64 f.lo, .int .i64 f.hi, .int .i64 f.most]) rfl (by kernel_rfl) (by kernel_rfl) (by kernel_rfl) (by kernel_rfl) (fun w' hb' => plan.exec_load rfl (by kernel_rfl) (hbf.later hb').whole Try.underlying23 rfl HLF.out) ?_
    refine plan.Rest.call 1 _ 7 #[.agg #[.int .i64 f.id, .int .i64 f.kind, .int .i64 f.lo, .int .i64 f.hi, .int .i64 f.most]] rfl (by kernel_rfl) (by kernel_rfl) (by kernel_rfl) ((right_any f w1.drew).mono ?_)
    rintro e W1 ⟨rfl, hn⟩
    have hb := hb.trans (hn.mono hb.size)
    have hbf := hbf.later hn
    have hbg := hbg.later hn
    have hbv := hbv.later hn
    refine ⟨_, rfl, hn, ?_⟩
    refine plan.Rest.call 4 _ 11 #[.agg #[.int .i64 f.id, .int .i64 f.kind, .int .i64 f.lo, .int .i64 f.hi, .int .i64 f.most]] rfl (by kernel_rfl) (by kernel_rfl) (by kernel_rfl) ((least_any f W1).mono ?_)
    rintro e W2 ⟨rfl, hn⟩
    have hb := hb.trans (hn.mono hb.size)
    have hbf := hbf.later hn
    have hbg := hbg.later hn
    have hbv := hbv.later hn
    refine ⟨_, rfl, hn, ?_⟩
    refine plan.Rest.call 5 _ 9 #[.agg #[.int .i64 f.id, .int .i64 f.kind, .int .i64 f.lo, .int .i64 f.hi, .int .i64 f.most], .agg #[.int .i64 f.least, .string ⟨#[]⟩]] rfl (by kernel_rfl) (by kernel_rfl) (by kernel_rfl) ((least_has f W2).mono ?_)
    rintro e W3 ⟨rfl, hn⟩
    have hb := hb.trans (hn.mono hb.size)
    have hbf := hbf.later hn
    have hbg := hbg.later hn
    have hbv := hbv.later hn
    refine ⟨_, rfl, hn, ?_⟩
    refine plan.Rest.first 6 _ (.bool true) rfl (by kernel_rfl) (by kernel_rfl) (by kernel_rfl) (by kernel_rfl) (fun w' hb' => (plan.exec_eql (vx := .bool (decide f.Right)) (vy := .bool (decide f.Right)) rfl (by kernel_rfl) (by kernel_rfl) (eqg_bool _ _ _ _ _) (eqs_bool _ _))) ?_
    refine plan.Rest.first 7 _ (.bool true) rfl (by kernel_rfl) (by kernel_rfl) (by kernel_rfl) (by kernel_rfl) (fun w' hb' => (by kernel_rfl)) ?_
    refine plan.Rest.first 8 _ (.agg #[.int .i64 f.id, .int .i64 f.kind, .int .i64 f.lo, .int .i64 f.hi, .int .i64 f.most]) rfl (by kernel_rfl) (by kernel_rfl) (by kernel_rfl) (by kernel_rfl) (fun w' hb' => plan.exec_load rfl (by kernel_rfl) (hbf.later hb').whole Try.underlying23 rfl HLF.out) ?_
    refine plan.Rest.first 10 _ (.agg #[.int .i64 f.id, .int .i64 f.kind, .int .i64 f.lo, .int .i64 f.hi, .int .i64 f.most]) rfl (by kernel_rfl) (by kernel_rfl) (by kernel_rfl) (by kernel_rfl) (fun w' hb' => plan.exec_load rfl (by kernel_rfl) (hbf.later hb').whole Try.underlying23 rfl HLF.out) ?_
    refine plan.Rest.first 11 _ (.agg #[.int .i64 f.id, .int .i64 f.kind, .int .i64 f.lo, .int .i64 f.hi, .int .i64 f.most]) rfl (by kernel_rfl) (by kernel_rfl) (by kernel_rfl) (by kernel_rfl) (fun w' hb' => plan.exec_load rfl (by kernel_rfl) (hbf.later hb').whole Try.underlying23 rfl HLF.out) ?_
    refine plan.Rest.call 9 _ 7 #[.agg #[.int .i64 f.id, .int .i64 f.kind, .int .i64 f.lo, .int .i64 f.hi, .int .i64 f.most]] rfl (by kernel_rfl) (by kernel_rfl) (by kernel_rfl) ((right_any f W3).mono ?_)
    rintro e W4 ⟨rfl, hn⟩
    have hb := hb.trans (hn.mono hb.size)
    have hbf := hbf.later hn
    have hbg := hbg.later hn
    have hbv := hbv.later hn
    refine ⟨_, rfl, hn, ?_⟩
    refine plan.Rest.call 12 _ 15 #[.agg #[.int .i64 f.id, .int .i64 f.kind, .int .i64 f.lo, .int .i64 f.hi, .int .i64 f.most], .agg #[.int .i64 f.id, .int .i64 f.kind, .int .i64 f.lo, .int .i64 f.hi, .int .i64 f.most]] rfl (by kernel_rfl) (by kernel_rfl) (by kernel_rfl) ((wider_self f W4).mono ?_)
    rintro e W5 ⟨rfl, hn⟩
    have hb := hb.trans (hn.mono hb.size)
    have hbf := hbf.later hn
    have hbg := hbg.later hn
    have hbv := hbv.later hn
    refine ⟨_, rfl, hn, ?_⟩
    refine plan.Rest.first 13 _ (.bool true) rfl (by kernel_rfl) (by kernel_rfl) (by kernel_rfl) (by kernel_rfl) (fun w' hb' => (plan.exec_eql (vx := .bool (decide f.Right)) (vy := .bool (decide f.Right)) rfl (by kernel_rfl) (by kernel_rfl) (eqg_bool _ _ _ _ _) (eqs_bool _ _))) ?_
    refine plan.Rest.first 14 _ (.bool true) rfl (by kernel_rfl) (by kernel_rfl) (by kernel_rfl) (by kernel_rfl) (fun w' hb' => (by kernel_rfl)) ?_
    refine plan.Rest.first 15 _ (.bool true) rfl (by kernel_rfl) (by kernel_rfl) (by kernel_rfl) (by kernel_rfl) (fun w' hb' => (by kernel_rfl)) ?_
    refine plan.Rest.call 16 _ 17 #[] rfl (by kernel_rfl) (by kernel_rfl) (by kernel_rfl) ((awake_any W5).mono ?_)
    rintro e W6 ⟨rfl, hn⟩
    have hb := hb.trans (hn.mono hb.size)
    have hbf := hbf.later hn
    have hbg := hbg.later hn
    have hbv := hbv.later hn
    refine ⟨_, rfl, hn, ?_⟩
    refine plan.Rest.first 17 _ (.bool true) rfl (by kernel_rfl) (by kernel_rfl) (by kernel_rfl) (by kernel_rfl) (fun w' hb' => (by kernel_rfl)) ?_
    refine plan.Rest.value 18 _ (.bool true) rfl (by kernel_rfl) (by kernel_rfl) (by kernel_rfl) ?_
    refine plan.Rest.done (by kernel_rfl) ?_
    go_wp2
    exact bodyPost_ret (v := .bool true) (by kernel_rfl) (by kernel_rfl) ⟨rfl, HB2.out _ hb⟩
  · rw [h1] at cw
    simp only [h2] at chf
    go_enter Try.func6, Try.ntmps6
    go_wp2_with (first
      | (go_at_call 15; (with_reducible refine cw.mono ?_); rintro e w1 ⟨rfl, hb1⟩; rw [hw0.out] at hb1; obtain ⟨k1, k2, k3⟩ := HC.out _ hb1)
      | (go_at_call 9; (with_reducible refine (chf _ hb1).mono ?_); rintro e w2 ⟨rfl, hb2⟩; obtain ⟨k4, k5, k6⟩ := HC.out _ hb2))
    have hb : Below w0.heap.size w0 w2.drew := below_drew hb2
    have hbf := HBF.out.later hb
    have hbg := HBG.out.later hb
    have hbv := HBV.out.later hb
    refine plan.region (by kernel_rfl) ?_
    refine plan.Rest.first 0 _ (.agg #[.int .i64 f.id, .int .i64 f.kind, .int .i64 f.lo, .int .i64 f.hi, .int .i64 f.most]) rfl (by kernel_rfl) (by kernel_rfl) (by kernel_rfl) (by kernel_rfl) (fun w' hb' => plan.exec_load rfl (by kernel_rfl) (hbf.later hb').whole Try.underlying23 rfl HLF.out) ?_
    refine plan.Rest.first 2 _ (.agg #[.int .i64 f.id, .int .i64 f.kind, .int .i64 f.lo, .int .i64 f.hi, .int .i64 f.most]) rfl (by kernel_rfl) (by kernel_rfl) (by kernel_rfl) (by kernel_rfl) (fun w' hb' => plan.exec_load rfl (by kernel_rfl) (hbf.later hb').whole Try.underlying23 rfl HLF.out) ?_
    refine plan.Rest.first 3 _ (.agg #[.int .i64 f.id, .int .i64 f.kind, .int .i64 f.lo, .int .i64 f.hi, .int .i64 f.most]) rfl (by kernel_rfl) (by kernel_rfl) (by kernel_rfl) (by kernel_rfl) (fun w' hb' => plan.exec_load rfl (by kernel_rfl) (hbf.later hb').whole Try.underlying23 rfl HLF.out) ?_
    refine plan.Rest.call 1 _ 7 #[.agg #[.int .i64 f.id, .int .i64 f.kind, .int .i64 f.lo, .int .i64 f.hi, .int .i64 f.most]] rfl (by kernel_rfl) (by kernel_rfl) (by kernel_rfl) ((right_any f w2.drew).mono ?_)
    rintro e W1 ⟨rfl, hn⟩
    have hb := hb.trans (hn.mono hb.size)
    have hbf := hbf.later hn
    have hbg := hbg.later hn
    have hbv := hbv.later hn
    refine ⟨_, rfl, hn, ?_⟩
    refine plan.Rest.call 4 _ 11 #[.agg #[.int .i64 f.id, .int .i64 f.kind, .int .i64 f.lo, .int .i64 f.hi, .int .i64 f.most]] rfl (by kernel_rfl) (by kernel_rfl) (by kernel_rfl) ((least_any f W1).mono ?_)
    rintro e W2 ⟨rfl, hn⟩
    have hb := hb.trans (hn.mono hb.size)
    have hbf := hbf.later hn
    have hbg := hbg.later hn
    have hbv := hbv.later hn
    refine ⟨_, rfl, hn, ?_⟩
    refine plan.Rest.call 5 _ 9 #[.agg #[.int .i64 f.id, .int .i64 f.kind, .int .i64 f.lo, .int .i64 f.hi, .int .i64 f.most], .agg #[.int .i64 f.least, .string ⟨#[]⟩]] rfl (by kernel_rfl) (by kernel_rfl) (by kernel_rfl) ((least_has f W2).mono ?_)
    rintro e W3 ⟨rfl, hn⟩
    have hb := hb.trans (hn.mono hb.size)
    have hbf := hbf.later hn
    have hbg := hbg.later hn
    have hbv := hbv.later hn
    refine ⟨_, rfl, hn, ?_⟩
    refine plan.Rest.first 6 _ (.bool true) rfl (by kernel_rfl) (by kernel_rfl) (by kernel_rfl) (by kernel_rfl) (fun w' hb' => (plan.exec_eql (vx := .bool (decide f.Right)) (vy := .bool (decide f.Right)) rfl (by kernel_rfl) (by kernel_rfl) (eqg_bool _ _ _ _ _) (eqs_bool _ _))) ?_
    refine plan.Rest.first 7 _ (.bool true) rfl (by kernel_rfl) (by kernel_rfl) (by kernel_rfl) (by kernel_rfl) (fun w' hb' => (by kernel_rfl)) ?_
    refine plan.Rest.first 8 _ (.agg #[.int .i64 f.id, .int .i64 f.kind, .int .i64 f.lo, .int .i64 f.hi, .int .i64 f.most]) rfl (by kernel_rfl) (by kernel_rfl) (by kernel_rfl) (by kernel_rfl) (fun w' hb' => plan.exec_load rfl (by kernel_rfl) (hbf.later hb').whole Try.underlying23 rfl HLF.out) ?_
    refine plan.Rest.first 10 _ (.agg #[.int .i64 f.id, .int .i64 f.kind, .int .i64 f.lo, .int .i64 f.hi, .int .i64 f.most]) rfl (by kernel_rfl) (by kernel_rfl) (by kernel_rfl) (by kernel_rfl) (fun w' hb' => plan.exec_load rfl (by kernel_rfl) (hbf.later hb').whole Try.underlying23 rfl HLF.out) ?_
    refine plan.Rest.first 11 _ (.agg #[.int .i64 f.id, .int .i64 f.kind, .int .i64 f.lo, .int .i64 f.hi, .int .i64 f.most]) rfl (by kernel_rfl) (by kernel_rfl) (by kernel_rfl) (by kernel_rfl) (fun w' hb' => plan.exec_load rfl (by kernel_rfl) (hbf.later hb').whole Try.underlying23 rfl HLF.out) ?_
    refine plan.Rest.call 9 _ 7 #[.agg #[.int .i64 f.id, .int .i64 f.kind, .int .i64 f.lo, .int .i64 f.hi, .int .i64 f.most]] rfl (by kernel_rfl) (by kernel_rfl) (by kernel_rfl) ((right_any f W3).mono ?_)
    rintro e W4 ⟨rfl, hn⟩
    have hb := hb.trans (hn.mono hb.size)
    have hbf := hbf.later hn
    have hbg := hbg.later hn
    have hbv := hbv.later hn
    refine ⟨_, rfl, hn, ?_⟩
    refine plan.Rest.call 12 _ 15 #[.agg #[.int .i64 f.id, .int .i64 f.kind, .int .i64 f.lo, .int .i64 f.hi, .int .i64 f.most], .agg #[.int .i64 f.id, .int .i64 f.kind, .int .i64 f.lo, .int .i64 f.hi, .int .i64 f.most]] rfl (by kernel_rfl) (by kernel_rfl) (by kernel_rfl) ((wider_self f W4).mono ?_)
    rintro e W5 ⟨rfl, hn⟩
    have hb := hb.trans (hn.mono hb.size)
    have hbf := hbf.later hn
    have hbg := hbg.later hn
    have hbv := hbv.later hn
    refine ⟨_, rfl, hn, ?_⟩
    refine plan.Rest.first 13 _ (.bool true) rfl (by kernel_rfl) (by kernel_rfl) (by kernel_rfl) (by kernel_rfl) (fun w' hb' => (plan.exec_eql (vx := .bool (decide f.Right)) (vy := .bool (decide f.Right)) rfl (by kernel_rfl) (by kernel_rfl) (eqg_bool _ _ _ _ _) (eqs_bool _ _))) ?_
    refine plan.Rest.first 14 _ (.bool true) rfl (by kernel_rfl) (by kernel_rfl) (by kernel_rfl) (by kernel_rfl) (fun w' hb' => (by kernel_rfl)) ?_
    refine plan.Rest.first 15 _ (.bool true) rfl (by kernel_rfl) (by kernel_rfl) (by kernel_rfl) (by kernel_rfl) (fun w' hb' => (by kernel_rfl)) ?_
    refine plan.Rest.call 16 _ 17 #[] rfl (by kernel_rfl) (by kernel_rfl) (by kernel_rfl) ((awake_any W5).mono ?_)
    rintro e W6 ⟨rfl, hn⟩
    have hb := hb.trans (hn.mono hb.size)
    have hbf := hbf.later hn
    have hbg := hbg.later hn
    have hbv := hbv.later hn
    refine ⟨_, rfl, hn, ?_⟩
    refine plan.Rest.first 17 _ (.bool true) rfl (by kernel_rfl) (by kernel_rfl) (by kernel_rfl) (by kernel_rfl) (fun w' hb' => (by kernel_rfl)) ?_
    refine plan.Rest.value 18 _ (.bool true) rfl (by kernel_rfl) (by kernel_rfl) (by kernel_rfl) ?_
    refine plan.Rest.done (by kernel_rfl) ?_
    go_wp2
    exact bodyPost_ret (v := .bool true) (by kernel_rfl) (by kernel_rfl) ⟨rfl, HB2.out _ hb⟩
  · rw [h1] at cw
    simp only [h2] at chf
    simp only [h3] at chg
    go_enter Try.func6, Try.ntmps6
    go_wp2_with (first
      | (go_at_call 15; (with_reducible refine cw.mono ?_); rintro e w1 ⟨rfl, hb1⟩; rw [hw0.out] at hb1; obtain ⟨k1, k2, k3⟩ := HC.out _ hb1)
      | (go_at_call 9; (with_reducible refine (chf _ hb1).mono ?_); rintro e w2 ⟨rfl, hb2⟩; obtain ⟨k4, k5, k6⟩ := HC.out _ hb2)
      | (go_at_call 9; (with_reducible refine (chg _ hb2).mono ?_); rintro e w3 ⟨rfl, hb3⟩))
    have hb : Below w0.heap.size w0 w3.drew := below_drew hb3
    have hbf := HBF.out.later hb
    have hbg := HBG.out.later hb
    have hbv := HBV.out.later hb
    refine plan.region (by kernel_rfl) ?_
    refine plan.Rest.first 0 _ (.agg #[.int .i64 f.id, .int .i64 f.kind, .int .i64 f.lo, .int .i64 f.hi, .int .i64 f.most]) rfl (by kernel_rfl) (by kernel_rfl) (by kernel_rfl) (by kernel_rfl) (fun w' hb' => plan.exec_load rfl (by kernel_rfl) (hbf.later hb').whole Try.underlying23 rfl HLF.out) ?_
    refine plan.Rest.first 2 _ (.agg #[.int .i64 f.id, .int .i64 f.kind, .int .i64 f.lo, .int .i64 f.hi, .int .i64 f.most]) rfl (by kernel_rfl) (by kernel_rfl) (by kernel_rfl) (by kernel_rfl) (fun w' hb' => plan.exec_load rfl (by kernel_rfl) (hbf.later hb').whole Try.underlying23 rfl HLF.out) ?_
    refine plan.Rest.first 3 _ (.agg #[.int .i64 f.id, .int .i64 f.kind, .int .i64 f.lo, .int .i64 f.hi, .int .i64 f.most]) rfl (by kernel_rfl) (by kernel_rfl) (by kernel_rfl) (by kernel_rfl) (fun w' hb' => plan.exec_load rfl (by kernel_rfl) (hbf.later hb').whole Try.underlying23 rfl HLF.out) ?_
    refine plan.Rest.call 1 _ 7 #[.agg #[.int .i64 f.id, .int .i64 f.kind, .int .i64 f.lo, .int .i64 f.hi, .int .i64 f.most]] rfl (by kernel_rfl) (by kernel_rfl) (by kernel_rfl) ((right_any f w3.drew).mono ?_)
    rintro e W1 ⟨rfl, hn⟩
    have hb := hb.trans (hn.mono hb.size)
    have hbf := hbf.later hn
    have hbg := hbg.later hn
    have hbv := hbv.later hn
    refine ⟨_, rfl, hn, ?_⟩
    refine plan.Rest.call 4 _ 11 #[.agg #[.int .i64 f.id, .int .i64 f.kind, .int .i64 f.lo, .int .i64 f.hi, .int .i64 f.most]] rfl (by kernel_rfl) (by kernel_rfl) (by kernel_rfl) ((least_any f W1).mono ?_)
    rintro e W2 ⟨rfl, hn⟩
    have hb := hb.trans (hn.mono hb.size)
    have hbf := hbf.later hn
    have hbg := hbg.later hn
    have hbv := hbv.later hn
    refine ⟨_, rfl, hn, ?_⟩
    refine plan.Rest.call 5 _ 9 #[.agg #[.int .i64 f.id, .int .i64 f.kind, .int .i64 f.lo, .int .i64 f.hi, .int .i64 f.most], .agg #[.int .i64 f.least, .string ⟨#[]⟩]] rfl (by kernel_rfl) (by kernel_rfl) (by kernel_rfl) ((least_has f W2).mono ?_)
    rintro e W3 ⟨rfl, hn⟩
    have hb := hb.trans (hn.mono hb.size)
    have hbf := hbf.later hn
    have hbg := hbg.later hn
    have hbv := hbv.later hn
    refine ⟨_, rfl, hn, ?_⟩
    refine plan.Rest.first 6 _ (.bool true) rfl (by kernel_rfl) (by kernel_rfl) (by kernel_rfl) (by kernel_rfl) (fun w' hb' => (plan.exec_eql (vx := .bool (decide f.Right)) (vy := .bool (decide f.Right)) rfl (by kernel_rfl) (by kernel_rfl) (eqg_bool _ _ _ _ _) (eqs_bool _ _))) ?_
    refine plan.Rest.first 7 _ (.bool true) rfl (by kernel_rfl) (by kernel_rfl) (by kernel_rfl) (by kernel_rfl) (fun w' hb' => (by kernel_rfl)) ?_
    refine plan.Rest.first 8 _ (.agg #[.int .i64 f.id, .int .i64 f.kind, .int .i64 f.lo, .int .i64 f.hi, .int .i64 f.most]) rfl (by kernel_rfl) (by kernel_rfl) (by kernel_rfl) (by kernel_rfl) (fun w' hb' => plan.exec_load rfl (by kernel_rfl) (hbf.later hb').whole Try.underlying23 rfl HLF.out) ?_
    refine plan.Rest.first 10 _ (.agg #[.int .i64 f.id, .int .i64 f.kind, .int .i64 f.lo, .int .i64 f.hi, .int .i64 f.most]) rfl (by kernel_rfl) (by kernel_rfl) (by kernel_rfl) (by kernel_rfl) (fun w' hb' => plan.exec_load rfl (by kernel_rfl) (hbf.later hb').whole Try.underlying23 rfl HLF.out) ?_
    refine plan.Rest.first 11 _ (.agg #[.int .i64 f.id, .int .i64 f.kind, .int .i64 f.lo, .int .i64 f.hi, .int .i64 f.most]) rfl (by kernel_rfl) (by kernel_rfl) (by kernel_rfl) (by kernel_rfl) (fun w' hb' => plan.exec_load rfl (by kernel_rfl) (hbf.later hb').whole Try.underlying23 rfl HLF.out) ?_
    refine plan.Rest.call 9 _ 7 #[.agg #[.int .i64 f.id, .int .i64 f.kind, .int .i64 f.lo, .int .i64 f.hi, .int .i64 f.most]] rfl (by kernel_rfl) (by kernel_rfl) (by kernel_rfl) ((right_any f W3).mono ?_)
    rintro e W4 ⟨rfl, hn⟩
    have hb := hb.trans (hn.mono hb.size)
    have hbf := hbf.later hn
    have hbg := hbg.later hn
    have hbv := hbv.later hn
    refine ⟨_, rfl, hn, ?_⟩
    refine plan.Rest.call 12 _ 15 #[.agg #[.int .i64 f.id, .int .i64 f.kind, .int .i64 f.lo, .int .i64 f.hi, .int .i64 f.most], .agg #[.int .i64 f.id, .int .i64 f.kind, .int .i64 f.lo, .int .i64 f.hi, .int .i64 f.most]] rfl (by kernel_rfl) (by kernel_rfl) (by kernel_rfl) ((wider_self f W4).mono ?_)
    rintro e W5 ⟨rfl, hn⟩
    have hb := hb.trans (hn.mono hb.size)
    have hbf := hbf.later hn
    have hbg := hbg.later hn
    have hbv := hbv.later hn
    refine ⟨_, rfl, hn, ?_⟩
    refine plan.Rest.first 13 _ (.bool true) rfl (by kernel_rfl) (by kernel_rfl) (by kernel_rfl) (by kernel_rfl) (fun w' hb' => (plan.exec_eql (vx := .bool (decide f.Right)) (vy := .bool (decide f.Right)) rfl (by kernel_rfl) (by kernel_rfl) (eqg_bool _ _ _ _ _) (eqs_bool _ _))) ?_
    refine plan.Rest.first 14 _ (.bool true) rfl (by kernel_rfl) (by kernel_rfl) (by kernel_rfl) (by kernel_rfl) (fun w' hb' => (by kernel_rfl)) ?_
    refine plan.Rest.first 15 _ (.bool true) rfl (by kernel_rfl) (by kernel_rfl) (by kernel_rfl) (by kernel_rfl) (fun w' hb' => (by kernel_rfl)) ?_
    refine plan.Rest.call 16 _ 17 #[] rfl (by kernel_rfl) (by kernel_rfl) (by kernel_rfl) ((awake_any W5).mono ?_)
    rintro e W6 ⟨rfl, hn⟩
    have hb := hb.trans (hn.mono hb.size)
    have hbf := hbf.later hn
    have hbg := hbg.later hn
    have hbv := hbv.later hn
    refine ⟨_, rfl, hn, ?_⟩
    refine plan.Rest.first 17 _ (.bool true) rfl (by kernel_rfl) (by kernel_rfl) (by kernel_rfl) (by kernel_rfl) (fun w' hb' => (by kernel_rfl)) ?_
    refine plan.Rest.value 18 _ (.bool true) rfl (by kernel_rfl) (by kernel_rfl) (by kernel_rfl) ?_
    refine plan.Rest.done (by kernel_rfl) ?_
    go_wp2
    exact bodyPost_ret (v := .bool true) (by kernel_rfl) (by kernel_rfl) ⟨rfl, HB2.out _ hb⟩
theorem walk (f g : field.Fd) (v : Va) (w : World) (hf : f.Good w) (hg : g.Good w) (hv : v.Good w) : Calls Try.prog 6 #[f.val, g.val, v.val] w (Yes w) := walk0 f g v w
end Go.Proofs.Ythpiffafakoheaa.fieldWider
