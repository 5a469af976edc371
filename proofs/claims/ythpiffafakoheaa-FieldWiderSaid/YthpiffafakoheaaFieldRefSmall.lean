/- Contracts of the reference's Right, Has, Least, wide, Size of layer 12 (field). No condition. -/
import Derived.Test.YthpiffafakoheaaFieldWider
import Derived.Test.YthpiffafakoheaaFieldStore
namespace Go.Proofs.Ythpiffafakoheaa.field
open Go.RowKit
set_option linter.unusedVariables false

theorem refRight_any (f : Fd) (w : World) : Calls Try.prog 8 #[.agg #[.int .i64 f.id, .int .i64 f.kind, .int .i64 f.lo, .int .i64 f.hi, .int .i64 f.most]] w (Gives (.bool (decide f.Right)) w) := by
  have HB := hid (belowF f w)
  unfold Gives
  by_cases h : f.Right
  · rw [decide_eq_true h]
    have cs := span_from f h (w0 := (w.alloc (.cells #[.int .i64 f.id, .int .i64 f.kind, .int .i64 f.lo, .int .i64 f.hi, .int .i64 f.most] 23))) (Below.refl _ _)
    clear h
    generalize f.great = G at *
    generalize f.long = L at *
    go_enter Try.func8, Try.ntmps8
    go_wp2_with (go_at_call 24; (with_reducible refine cs.mono ?_); rintro e w1 ⟨rfl, hb1⟩)
    go_ret
    exact ⟨rfl, HB.out _ hb1⟩
  · rw [decide_eq_false h]
    have cs := span_from_no f h (w0 := (w.alloc (.cells #[.int .i64 f.id, .int .i64 f.kind, .int .i64 f.lo, .int .i64 f.hi, .int .i64 f.most] 23))) (Below.refl _ _)
    clear h
    go_enter Try.func8, Try.ntmps8
    go_wp2_with (go_at_call 24; (with_reducible refine cs.mono ?_); rintro e w1 ⟨⟨a, b, c, rfl⟩, hb1⟩)
    go_ret
    exact ⟨rfl, HB.out _ hb1⟩
/-- the world in which a field and a value have been boxed -/
def WV (f : Fd) (v : Va) (w : World) : World := (w.alloc (.cells #[.int .i64 f.id, .int .i64 f.kind, .int .i64 f.lo, .int .i64 f.hi, .int .i64 f.most] 23)).alloc (.cells #[.int .i64 v.n, .string v.s] 25)
theorem WV.all (f : Fd) (v : Va) (w w' : World) (hb : Below (WV f v w).heap.size (WV f v w) w') : (w'.cell? ⟨w.heap.size, 0, none⟩ = some (.int .i64 f.id) ∧ w'.cell? ⟨w.heap.size, 1, none⟩ = some (.int .i64 f.kind) ∧ w'.cell? ⟨w.heap.size, 2, none⟩ = some (.int .i64 f.lo) ∧ w'.cell? ⟨w.heap.size, 3, none⟩ = some (.int .i64 f.hi) ∧ w'.cell? ⟨w.heap.size, 4, none⟩ = some (.int .i64 f.most)) ∧ (w'.cell? ⟨w.heap.size + 1, 0, none⟩ = some (.int .i64 v.n) ∧ w'.cell? ⟨w.heap.size + 1, 1, none⟩ = some (.string v.s)) ∧ Below w.heap.size w w' := by
  have h1 : Below (w.alloc (.cells #[.int .i64 f.id, .int .i64 f.kind, .int .i64 f.lo, .int .i64 f.hi, .int .i64 f.most] 23)).heap.size (w.alloc (.cells #[.int .i64 f.id, .int .i64 f.kind, .int .i64 f.lo, .int .i64 f.hi, .int .i64 f.most] 23)) w' := (newB _ _).trans (hb.mono (by unfold WV; simp))
  refine ⟨five f w w' h1, ?_, belowF f w w' h1⟩
  have h2 := two v (w.alloc (.cells #[.int .i64 f.id, .int .i64 f.kind, .int .i64 f.lo, .int .i64 f.hi, .int .i64 f.most] 23)) w' hb
  simpa using h2
theorem refHas_any (f : Fd) (v : Va) (w : World) : Calls Try.prog 10 #[.agg #[.int .i64 f.id, .int .i64 f.kind, .int .i64 f.lo, .int .i64 f.hi, .int .i64 f.most], .agg #[.int .i64 v.n, .string v.s]] w (Gives (.bool (decide (f.Has v))) w) := by
  have HW := hid (WV.all f v w)
  obtain ⟨V, hV⟩ : ∃ V, Hid (decide (f.Has v) = V) := ⟨_, rfl⟩
  rw [hV.out]
  unfold Gives
  by_cases h : f.Right
  · have cs := span_from f h (w0 := WV f v w) (Below.refl _ _)
    have HQ : Hid (f.Has v ↔ (v.n ≥ f.lo ∧ v.n ≤ f.great ∧ (v.s.size : Int) ≤ f.long)) := hid ⟨fun k => ⟨k.2.1.1, k.2.1.2, k.2.2⟩, fun k => ⟨h, ⟨k.1, k.2.1⟩, k.2.2⟩⟩
    unfold WV at cs HW
    clear h
    generalize f.great = G at *
    generalize f.long = L at *
    generalize hN : (v.s.size : Int) = N at *
    by_cases a1 : v.n ≥ f.lo
    · by_cases a2 : v.n ≤ G
      · by_cases a3 : N ≤ L
        · have HY : Hid (true = V) := hid (by rw [← hV.out]; symm; exact decide_eq_true (HQ.out.2 ⟨a1, a2, a3⟩))
          clear HQ hV
          go_enter Try.func10, Try.ntmps10
          go_wp2_with (go_at_call 24; (with_reducible refine cs.mono ?_); rintro e w1 ⟨rfl, hb1⟩; obtain ⟨hf1, hv1, hbw1⟩ := HW.out _ hb1; clear cs)
          go_ret
          exact ⟨ret_bool HY.out, hbw1⟩
        · have HY : Hid (false = V) := hid (by rw [← hV.out]; symm; exact decide_eq_false (fun k => a3 (HQ.out.1 k).2.2))
          have d3 : decide (N ≤ L) = false := decide_eq_false a3
          clear HQ hV a3
          go_enter Try.func10, Try.ntmps10
          go_wp2_with (go_at_call 24; (with_reducible refine cs.mono ?_); rintro e w1 ⟨rfl, hb1⟩; obtain ⟨hf1, hv1, hbw1⟩ := HW.out _ hb1; clear cs)
          go_ret
          exact ⟨ret_bool HY.out, hbw1⟩
      · have HY : Hid (false = V) := hid (by rw [← hV.out]; symm; exact decide_eq_false (fun k => a2 (HQ.out.1 k).2.1))
        have d3 : decide (v.n ≤ G) = false := decide_eq_false a2
        clear HQ hV a2
        go_enter Try.func10, Try.ntmps10
        go_wp2_with (go_at_call 24; (with_reducible refine cs.mono ?_); rintro e w1 ⟨rfl, hb1⟩; obtain ⟨hf1, hv1, hbw1⟩ := HW.out _ hb1; clear cs)
        go_ret
        exact ⟨ret_bool HY.out, hbw1⟩
    · have HY : Hid (false = V) := hid (by rw [← hV.out]; symm; exact decide_eq_false (fun k => a1 (HQ.out.1 k).1))
      have d3 : decide (v.n ≥ f.lo) = false := decide_eq_false a1
      clear HQ hV a1
      go_enter Try.func10, Try.ntmps10
      go_wp2_with (go_at_call 24; (with_reducible refine cs.mono ?_); rintro e w1 ⟨rfl, hb1⟩; obtain ⟨hf1, hv1, hbw1⟩ := HW.out _ hb1; clear cs)
      go_ret
      exact ⟨ret_bool HY.out, hbw1⟩
  · have cs := span_from_no f h (w0 := WV f v w) (Below.refl _ _)
    have HY : Hid (false = V) := hid (by rw [← hV.out]; symm; exact decide_eq_false (fun k => h k.1))
    unfold WV at cs HW
    clear h hV
    go_enter Try.func10, Try.ntmps10
    go_wp2_with (go_at_call 24; (with_reducible refine cs.mono ?_); rintro e w1 ⟨⟨a, b, c, rfl⟩, hb1⟩; obtain ⟨hf1, hv1, hbw1⟩ := HW.out _ hb1; clear cs)
    go_ret
    exact ⟨ret_bool HY.out, hbw1⟩
theorem refLeast_any (f : Fd) (w : World) : Calls Try.prog 12 #[.agg #[.int .i64 f.id, .int .i64 f.kind, .int .i64 f.lo, .int .i64 f.hi, .int .i64 f.most]] w (Gives (.agg #[.int .i64 f.least, .string ⟨#[]⟩]) w) := by
  have HW := hid (W2.all f w)
  unfold Fd.least Gives
  by_cases h : f.Right
  · rw [if_pos h]
    have cs := span_from f h (w0 := W2 f w) (Below.refl _ _)
    unfold W2 at HW cs
    clear h
    generalize f.great = G at *
    generalize f.long = L at *
    generalize hlo : f.lo = lo at *
    have HI := hid (val_info lo ⟨#[]⟩)
    have HO := hid (val_one lo ⟨#[]⟩)
    go_enter Try.func12, Try.ntmps12
    go_wp2_with (first
      | (go_at_call 24; (with_reducible refine cs.mono ?_); rintro e w1 ⟨rfl, hb1⟩; obtain ⟨hk1, hres, hbw⟩ := HW.out _ hb1; have hth := val_there hres lo ⟨#[]⟩)
      | (with_reducible refine wpList_store_named rfl 25 (.tmp 2) (.tmp 18) rfl (w.heap.size + 1) 0 #[.int .i64 lo, .string ⟨#[]⟩] rfl rfl hth HI.out HO.out ?_))
    intro w2 hw2
    obtain ⟨hB, hb⟩ := val_stored hres hw2 (by omega) hbw
    go_wp2
    refine bodyPost_ret (results_cell (b := w.heap.size + 1) (o := 0) rfl rfl hB.whole Try.underlying25 rfl (val_info2 _ _)) rfl ?_
    exact ⟨rfl, hb⟩
  · rw [if_neg h]
    have cs := span_from_no f h (w0 := W2 f w) (Below.refl _ _)
    unfold W2 at HW cs
    clear h
    have HI := hid (val_info 0 ⟨#[]⟩)
    have HO := hid (val_one 0 ⟨#[]⟩)
    go_enter Try.func12, Try.ntmps12
    go_wp2_with (first
      | (go_at_call 24; (with_reducible refine cs.mono ?_); rintro e w1 ⟨⟨a, b, c, rfl⟩, hb1⟩; obtain ⟨hk1, hres, hbw⟩ := HW.out _ hb1; have hth := val_there hres 0 ⟨#[]⟩)
      | (with_reducible refine wpList_store_named rfl 25 (.tmp 2) (.tmp 16) rfl (w.heap.size + 1) 0 #[.int .i64 0, .string ⟨#[]⟩] rfl rfl hth HI.out HO.out ?_))
    intro w2 hw2
    obtain ⟨hB, hb⟩ := val_stored hres hw2 (by omega) hbw
    go_wp2
    refine bodyPost_ret (results_cell (b := w.heap.size + 1) (o := 0) rfl rfl hB.whole Try.underlying25 rfl (val_info2 _ _)) rfl ?_
    exact ⟨rfl, hb⟩
theorem refWide_any (n : Nat) (hn : n < 281474976710656) (w : World) : Calls Try.prog 29 #[.int .i64 (n : Int)] w (Quiet (.int .i64 (wide n : Int)) w) := by
  go_enter Try.func29, Try.ntmps29
  go_wp2
  go_loopw [0, 3] (fun m k wr => ∃ (q j : Nat), m = .int .i64 (q : Int) ∧ k = .int .i64 (j : Int) ∧ q ≤ n ∧ j ≤ 100 ∧ Hid (j + wide q = wide n) ∧ w = wr) (fun m k wr => (intOf m).toNat)
  case atStart => exact ⟨n, 0, rfl, rfl, Nat.le_refl _, by omega, hid (by omega), rfl⟩
  case round =>
    obtain ⟨q, j, rfl, rfl, hq, hj, hw, rfl⟩ := hrel
    by_cases hlt : 0 < q
    · have hd := wide_div hlt (by omega)
      have hw6 := wide_le n
      have := hw.out
      have hj6 : j < 7 := by omega
      have HN : Hid (j + 1 + wide (q / 256) = wide n) := hid (by omega)
      clear hw hd this
      go_wp2
      go_round
      · exact ⟨q / 256, j + 1, by simp, by simp, by omega, by omega, HN, trivial⟩
      · simp [intOf]; omega
    · obtain rfl : q = 0 := by omega
      have hj2 := hw.out
      rw [show wide 0 = 0 from rfl] at hj2
      obtain rfl : j = wide n := by omega
      clear hw hj2 hlt
      generalize wide n = W at *
      go_wp2
      go_ret
      exact ⟨rfl, 0, rfl⟩
theorem refSize_any (f : Fd) (w : World) : Calls Try.prog 14 #[.agg #[.int .i64 f.id, .int .i64 f.kind, .int .i64 f.lo, .int .i64 f.hi, .int .i64 f.most]] w (Gives (.int .i64 (f.size : Int)) w) := by
  have HB := hid (belowF f w)
  have HS := hid (five f w)
  have hsz : f.size = if f.Right then (if f.kind = 4 then 1 + f.most.toNat else wide (f.great - f.lo).toNat) else 0 := rfl
  rw [hsz]
  unfold Gives
  by_cases hr : f.Right
  · rw [if_pos hr]
    have cs := span_from f hr (w0 := (w.alloc (.cells #[.int .i64 f.id, .int .i64 f.kind, .int .i64 f.lo, .int .i64 f.hi, .int .i64 f.most] 23))) (Below.refl _ _)
    have hsp := hr.span
    by_cases h4 : f.kind = 4
    · rw [if_pos h4]
      have hl : f.long = f.most := by unfold Fd.long; rw [if_pos h4]
      rw [hl] at cs
      have hm : 0 ≤ f.most ∧ f.most ≤ 32 := by unfold Fd.Right at hr; omega
      obtain ⟨M, hM⟩ := Int.eq_ofNat_of_zero_le hm.1
      rw [hM] at cs HB HS ⊢
      rw [show ((M : Int)).toNat = M from rfl]
      have m2 : M ≤ 32 := by omega
      have e4 : (f.kind == 4) = true := by rw [beq_iff_eq]; exact h4
      clear hl hm hsp hr hsz h4
      generalize f.great = G at *
      go_enter Try.func14, Try.ntmps14
      go_wp2_with (go_at_call 24; go_loud ((with_reducible refine cs.mono ?_); rintro e w1 ⟨rfl, hb1⟩; have hk1 := HS.out _ hb1))
      go_ret
      exact ⟨ret_int (by omega), HB.out _ hb1⟩
    · rw [if_neg h4]
      obtain ⟨T, hT⟩ : ∃ T : Nat, f.great - f.lo = (T : Int) := ⟨(f.great - f.lo).toNat, by omega⟩
      have hTb : T ≤ 2199023255552 := by omega
      rw [hT]
      rw [show ((T : Int)).toNat = T from rfl]
      have cw := refWide_any T (by omega)
      have e4 : (f.kind == 4) = false := by rw [beq_eq_false_iff_ne]; exact h4
      have s1 := hsp.2.2.1
      have s2 := hsp.2.2.2.1
      clear hsp hr hsz h4
      generalize f.great = G at *
      generalize f.long = L at *
      obtain rfl : G = f.lo + (T : Int) := by omega
      clear hT
      have hsub : f.lo + (T : Int) - f.lo = (T : Int) := by omega
      go_enter Try.func14, Try.ntmps14
      go_wp2_with (first
        | (go_at_call 24; (with_reducible refine cs.mono ?_); rintro e w1 ⟨rfl, hb1⟩; have hk1 := HS.out _ hb1)
        | (go_at_call 29; (try rw [hsub]); (with_reducible refine (cw _).mono ?_); rintro e w2 ⟨rfl, nd, rfl⟩))
      go_ret
      exact ⟨rfl, HB.out _ (below_drewN hb1 _)⟩
  · rw [if_neg hr]
    have cs := span_from_no f hr (w0 := (w.alloc (.cells #[.int .i64 f.id, .int .i64 f.kind, .int .i64 f.lo, .int .i64 f.hi, .int .i64 f.most] 23))) (Below.refl _ _)
    clear hr hsz
    go_enter Try.func14, Try.ntmps14
    go_wp2_with (go_at_call 24; (with_reducible refine cs.mono ?_); rintro e w1 ⟨⟨a, b, c, rfl⟩, hb1⟩; have hk1 := HS.out _ hb1)
    go_ret
    exact ⟨rfl, HB.out _ hb1⟩
end Go.Proofs.Ythpiffafakoheaa.field
