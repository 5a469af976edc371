/- Contracts of layer 8 (geom): Long, Cap, Chunks, Part, Where. No condition. -/
import Derived.Test.YtkkogoiboanepaaGeomPlaces
import Derived.BigQuiet
namespace Go.Proofs.Ytkkogoiboanepaa.geom
open Go.RowKit
set_option linter.unusedVariables false

theorem long_any (g : Geo) (w : World) : Calls Try.prog 17 #[.agg #[.int .i64 g.sector, .int .i64 g.slot, .int .i64 g.data, .int .i64 g.quota, .int .i64 g.tries, .int .i64 g.life]] w fun e w' => e = .returned (.int .i64 g.long) ∧ Below w.heap.size w w' := by
  have HS := hid (six g w)
  have HB := hid (belowNew g w)
  have hb0 : Below (w.alloc (.cells #[.int .i64 g.sector, .int .i64 g.slot, .int .i64 g.data, .int .i64 g.quota, .int .i64 g.tries, .int .i64 g.life] 23)).heap.size (w.alloc (.cells #[.int .i64 g.sector, .int .i64 g.slot, .int .i64 g.data, .int .i64 g.quota, .int .i64 g.tries, .int .i64 g.life] 23)) (w.alloc (.cells #[.int .i64 g.sector, .int .i64 g.slot, .int .i64 g.data, .int .i64 g.quota, .int .i64 g.tries, .int .i64 g.life] 23)) := Below.refl _ _
  by_cases h : g.Right
  · rw [Geo.long, if_pos h]
    have cc := fun w1 hb => check_yes_at g h (w.alloc (.cells #[.int .i64 g.sector, .int .i64 g.slot, .int .i64 g.data, .int .i64 g.quota, .int .i64 g.tries, .int .i64 g.life] 23)) w1 hb
    obtain ⟨⟨h1, h2⟩, _⟩ := h
    go_enter Try.func17, Try.ntmps17
    go_wp2_with (go_at_call 5; (with_reducible refine (cc _ hb0).mono ?_); rintro e w1 ⟨rfl, hb1⟩; have hk1 := HS.out w1 hb1)
    go_ret
    exact ⟨rfl, HB.out _ hb1⟩
  · rw [Geo.long, if_neg h]
    have cc := fun w1 hb => check_no_at g h (w.alloc (.cells #[.int .i64 g.sector, .int .i64 g.slot, .int .i64 g.data, .int .i64 g.quota, .int .i64 g.tries, .int .i64 g.life] 23)) w1 hb
    clear h
    go_enter Try.func17, Try.ntmps17
    go_wp2_with (go_at_call 5; (with_reducible refine (cc _ hb0).mono ?_); rintro e w1 ⟨rfl, hb1⟩)
    go_ret
    exact ⟨rfl, HB.out _ hb1⟩
theorem long_at (g : Geo) (w0 w : World) (hb : Below w0.heap.size w0 w) : Calls Try.prog 17 #[.agg #[.int .i64 g.sector, .int .i64 g.slot, .int .i64 g.data, .int .i64 g.quota, .int .i64 g.tries, .int .i64 g.life]] w fun e w' => e = .returned (.int .i64 g.long) ∧ Below w0.heap.size w0 w' :=
  (long_any g w).mono fun _ _ ⟨he, hw⟩ => ⟨he, hb.trans (hw.mono hb.size)⟩
theorem cap_val (g : Geo) : IntKind.i64.wrap (g.long * IntKind.i64.wrap (g.slot - 1)) = g.cap := by
  unfold Geo.long Geo.cap
  by_cases h : g.Right
  · rw [if_pos h, if_pos h]
    unfold Geo.Right at h
    have h1 : 4 * g.sector * (g.slot - 1) ≤ 4096 * 31 := Int.mul_le_mul (by omega) (by omega) (by omega) (by omega)
    have h2 : 0 ≤ 4 * g.sector * (g.slot - 1) := Int.mul_nonneg (by omega) (by omega)
    rw [IntWalk.i64_in (g.slot - 1) (by omega), IntWalk.i64_in _ (by omega)]
  · rw [if_neg h, if_neg h, Int.zero_mul]; rfl
theorem cap_any (g : Geo) (w : World) : Calls Try.prog 21 #[.agg #[.int .i64 g.sector, .int .i64 g.slot, .int .i64 g.data, .int .i64 g.quota, .int .i64 g.tries, .int .i64 g.life]] w fun e w' => e = .returned (.int .i64 g.cap) ∧ Below w.heap.size w w' := by
  have HS := hid (six g w)
  have HB := hid (belowNew g w)
  have hb0 : Below (w.alloc (.cells #[.int .i64 g.sector, .int .i64 g.slot, .int .i64 g.data, .int .i64 g.quota, .int .i64 g.tries, .int .i64 g.life] 23)).heap.size (w.alloc (.cells #[.int .i64 g.sector, .int .i64 g.slot, .int .i64 g.data, .int .i64 g.quota, .int .i64 g.tries, .int .i64 g.life] 23)) (w.alloc (.cells #[.int .i64 g.sector, .int .i64 g.slot, .int .i64 g.data, .int .i64 g.quota, .int .i64 g.tries, .int .i64 g.life] 23)) := Below.refl _ _
  have cl := fun w1 hb => long_at g (w.alloc (.cells #[.int .i64 g.sector, .int .i64 g.slot, .int .i64 g.data, .int .i64 g.quota, .int .i64 g.tries, .int .i64 g.life] 23)) w1 hb
  have hv := hid (cap_val g)
  generalize g.long = L at *
  have hk0 := HS.out _ hb0
  obtain ⟨w0, hw0⟩ : ∃ x, Hid ((w.alloc (.cells #[.int .i64 g.sector, .int .i64 g.slot, .int .i64 g.data, .int .i64 g.quota, .int .i64 g.tries, .int .i64 g.life] 23)) = x) := ⟨_, rfl⟩
  rw [hw0.out] at HS HB hb0 cl hk0
  have hb0' : Below w0.heap.size w0 w0.drew := below_drewN (Below.refl _ _) 1
  have hk0' := HS.out _ hb0'
  go_enter Try.func21, Try.ntmps21
  go_wp2
  rw [hw0.out]
  go_region_held3 (fun w' => (w'.cell? ⟨w.heap.size, 0, none⟩ = some (.int .i64 g.sector) ∧ w'.cell? ⟨w.heap.size, 1, none⟩ = some (.int .i64 g.slot) ∧ w'.cell? ⟨w.heap.size, 2, none⟩ = some (.int .i64 g.data) ∧ w'.cell? ⟨w.heap.size, 3, none⟩ = some (.int .i64 g.quota) ∧ w'.cell? ⟨w.heap.size, 4, none⟩ = some (.int .i64 g.tries) ∧ w'.cell? ⟨w.heap.size, 5, none⟩ = some (.int .i64 g.life))) (first | assumption | go_keep) ((go_at_call 17; (with_reducible refine (cl _ hb0').mono ?_); rintro e w2 ⟨rfl, hb2⟩; have hk2 := HS.out w2 hb2))
  go_wp2
  go_ret
  exact ⟨ret_int hv.out, HB.out _ hb2⟩
theorem cap_at (g : Geo) (w0 w : World) (hb : Below w0.heap.size w0 w) : Calls Try.prog 21 #[.agg #[.int .i64 g.sector, .int .i64 g.slot, .int .i64 g.data, .int .i64 g.quota, .int .i64 g.tries, .int .i64 g.life]] w fun e w' => e = .returned (.int .i64 g.cap) ∧ Below w0.heap.size w0 w' :=
  (cap_any g w).mono fun _ _ ⟨he, hw⟩ => ⟨he, hb.trans (hw.mono hb.size)⟩
theorem Geo.cap_le (g : Geo) (h : g.Right) : 0 ≤ 4 * g.sector * (g.slot - 1) ∧ 4 * g.sector * (g.slot - 1) ≤ 126976 := by
  unfold Geo.Right at h
  have h1 : 4 * g.sector * (g.slot - 1) ≤ 4096 * 31 := Int.mul_le_mul (by omega) (by omega) (by omega) (by omega)
  have h2 : 0 ≤ 4 * g.sector * (g.slot - 1) := Int.mul_nonneg (by omega) (by omega)
  omega
theorem chunks_any (g : Geo) (t : Int) (w : World) : Calls Try.prog 15 #[.agg #[.int .i64 g.sector, .int .i64 g.slot, .int .i64 g.data, .int .i64 g.quota, .int .i64 g.tries, .int .i64 g.life], .int .i64 t] w fun e w' => e = .returned (.int .i64 (g.chunks t)) ∧ Below w.heap.size w w' := by
  have HS := hid (six g w)
  have HB := hid (belowNew g w)
  have hb0 : Below (w.alloc (.cells #[.int .i64 g.sector, .int .i64 g.slot, .int .i64 g.data, .int .i64 g.quota, .int .i64 g.tries, .int .i64 g.life] 23)).heap.size (w.alloc (.cells #[.int .i64 g.sector, .int .i64 g.slot, .int .i64 g.data, .int .i64 g.quota, .int .i64 g.tries, .int .i64 g.life] 23)) (w.alloc (.cells #[.int .i64 g.sector, .int .i64 g.slot, .int .i64 g.data, .int .i64 g.quota, .int .i64 g.tries, .int .i64 g.life] 23)) := Below.refl _ _
  have cc := fun w1 hb => cap_at g (w.alloc (.cells #[.int .i64 g.sector, .int .i64 g.slot, .int .i64 g.data, .int .i64 g.quota, .int .i64 g.tries, .int .i64 g.life] 23)) w1 hb
  have cl := fun w1 hb => long_at g (w.alloc (.cells #[.int .i64 g.sector, .int .i64 g.slot, .int .i64 g.data, .int .i64 g.quota, .int .i64 g.tries, .int .i64 g.life] 23)) w1 hb
  by_cases h : g.Right ∧ 1 ≤ t ∧ t ≤ 4 * g.sector * (g.slot - 1)
  · rw [Geo.chunks, if_pos h]
    obtain ⟨hr, t0, t1⟩ := h
    have hC := Geo.cap_le g hr
    rw [Geo.cap, if_pos hr] at cc
    rw [Geo.long, if_pos hr] at cl
    obtain ⟨⟨h1, h2⟩, _⟩ := hr
    generalize 4 * g.sector * (g.slot - 1) = C at *
    obtain ⟨L, hL⟩ : ∃ L, L = 4 * g.sector := ⟨_, rfl⟩
    rw [← hL] at cl ⊢
    have L1 : 256 ≤ L := by omega
    have L2 : L ≤ 4096 := by omega
    have q0 : 0 ≤ (t - 1) / L := Int.ediv_nonneg (by omega) (by omega)
    have q1 : (t - 1) / L ≤ t - 1 := Int.ediv_le_self _ (by omega)
    clear hL
    go_enter Try.func15, Try.ntmps15
    go_wp2_with (first
      | (go_at_call 21; (with_reducible refine (cc _ hb0).mono ?_); rintro e w1 ⟨rfl, hb1⟩; have hk1 := HS.out w1 hb1)
      | (go_at_call 18; (with_reducible refine (within_yes _ _ _ _ (by omega) (by omega)).mono ?_); rintro e w2 ⟨rfl, rfl⟩)
      | (go_at_call 17; (with_reducible refine (cl _ hb1).mono ?_); rintro e w3 ⟨rfl, hb3⟩))
    go_ret
    exact ⟨rfl, HB.out _ hb3⟩
  · rw [Geo.chunks, if_neg h]
    have hn : t < 1 ∨ g.cap < t := by
      unfold Geo.cap
      by_cases hr : g.Right
      · rw [if_pos hr]
        by_cases h1 : t < 1
        · exact .inl h1
        · exact .inr (Int.not_le.1 fun h2 => h ⟨hr, by omega, h2⟩)
      · rw [if_neg hr]; omega
    clear h
    generalize g.cap = C at *
    go_enter Try.func15, Try.ntmps15
    go_wp2_with (first
      | (go_at_call 21; (with_reducible refine (cc _ hb0).mono ?_); rintro e w1 ⟨rfl, hb1⟩; have hk1 := HS.out w1 hb1)
      | (go_at_call 18; (with_reducible refine (within_no _ _ _ _ (by omega)).mono ?_); rintro e w2 ⟨rfl, rfl⟩))
    go_ret
    exact ⟨rfl, HB.out _ hb1⟩
theorem chunks_at (g : Geo) (t : Int) (w0 w : World) (hb : Below w0.heap.size w0 w) : Calls Try.prog 15 #[.agg #[.int .i64 g.sector, .int .i64 g.slot, .int .i64 g.data, .int .i64 g.quota, .int .i64 g.tries, .int .i64 g.life], .int .i64 t] w fun e w' => e = .returned (.int .i64 (g.chunks t)) ∧ Below w0.heap.size w0 w' :=
  (chunks_any g t w).mono fun _ _ ⟨he, hw⟩ => ⟨he, hb.trans (hw.mono hb.size)⟩
/-- parts that are: their number, and where the last one begins -/
theorem Geo.chunks_le (g : Geo) (t : Int) : 0 ≤ g.chunks t ∧ g.chunks t ≤ 31 ∧ (0 < g.chunks t → g.Right ∧ (1 ≤ t ∧ t ≤ 126976) ∧ g.chunks t ≤ g.slot - 1 ∧ (g.chunks t - 1) * (4 * g.sector) < t ∧ t ≤ g.chunks t * (4 * g.sector)) := by
  unfold Geo.chunks
  by_cases h : g.Right ∧ 1 ≤ t ∧ t ≤ 4 * g.sector * (g.slot - 1)
  · rw [if_pos h]
    obtain ⟨hr, t0, t1⟩ := h
    have hC := Geo.cap_le g hr
    have hr' := hr
    unfold Geo.Right at hr'
    have hL : 0 < 4 * g.sector := by omega
    have q0 : 0 ≤ (t - 1) / (4 * g.sector) := Int.ediv_nonneg (by omega) (by omega)
    have q1 : (t - 1) / (4 * g.sector) < g.slot - 1 := by
      rw [Int.ediv_lt_iff_lt_mul hL, Int.mul_comm]; omega
    have me := Int.mul_ediv_add_emod (t - 1) (4 * g.sector)
    have m0 := Int.emod_nonneg (t - 1) (show 4 * g.sector ≠ 0 by omega)
    have m1 := Int.emod_lt_of_pos (t - 1) hL
    refine ⟨by omega, by omega, fun _ => ⟨hr, ⟨by omega, by omega⟩, by omega, ?_, ?_⟩⟩
    · rw [Int.add_sub_cancel, Int.mul_comm]; omega
    · rw [Int.add_mul, Int.mul_comm ((t - 1) / (4 * g.sector))]; omega
  · rw [if_neg h]
    exact ⟨by omega, by omega, fun h => absurd h (by omega)⟩
theorem part_any (g : Geo) (t i : Int) (w : World) : Calls Try.prog 16 #[.agg #[.int .i64 g.sector, .int .i64 g.slot, .int .i64 g.data, .int .i64 g.quota, .int .i64 g.tries, .int .i64 g.life], .int .i64 t, .int .i64 i] w fun e w' => e = .returned (.int .i64 (g.part t i)) ∧ Below w.heap.size w w' := by
  have HS := hid (six g w)
  have HB := hid (belowNew g w)
  have hb0 : Below (w.alloc (.cells #[.int .i64 g.sector, .int .i64 g.slot, .int .i64 g.data, .int .i64 g.quota, .int .i64 g.tries, .int .i64 g.life] 23)).heap.size (w.alloc (.cells #[.int .i64 g.sector, .int .i64 g.slot, .int .i64 g.data, .int .i64 g.quota, .int .i64 g.tries, .int .i64 g.life] 23)) (w.alloc (.cells #[.int .i64 g.sector, .int .i64 g.slot, .int .i64 g.data, .int .i64 g.quota, .int .i64 g.tries, .int .i64 g.life] 23)) := Below.refl _ _
  have cc := fun w1 hb => chunks_at g t (w.alloc (.cells #[.int .i64 g.sector, .int .i64 g.slot, .int .i64 g.data, .int .i64 g.quota, .int .i64 g.tries, .int .i64 g.life] 23)) w1 hb
  have cl := fun w1 hb => long_at g (w.alloc (.cells #[.int .i64 g.sector, .int .i64 g.slot, .int .i64 g.data, .int .i64 g.quota, .int .i64 g.tries, .int .i64 g.life] 23)) w1 hb
  obtain ⟨n0, n1, n2⟩ := Geo.chunks_le g t
  by_cases h : 0 ≤ i ∧ i ≤ g.chunks t - 1
  · obtain ⟨hr, ⟨t0, t1⟩, _, b1, _⟩ := n2 (by omega)
    rw [Geo.long, if_pos hr] at cl
    obtain ⟨P, hP⟩ : ∃ P, P = g.part t i := ⟨_, rfl⟩
    rw [← hP]
    rw [Geo.part, if_pos h] at hP
    obtain ⟨⟨h1, h2⟩, _⟩ := hr
    have hi : i * (4 * g.sector) ≤ (g.chunks t - 1) * (4 * g.sector) := Int.mul_le_mul_of_nonneg_right h.2 (by omega)
    have hi0 : 0 ≤ i * (4 * g.sector) := Int.mul_nonneg h.1 (by omega)
    have hi1 : i * (4 * g.sector) < t := by omega
    clear hi b1 n2
    obtain ⟨i0, i1⟩ := h
    have em : ∀ ts tt W, (Builtin.min_ ts tt #[.int .i64 (4 * g.sector), .int .i64 (IntKind.i64.wrap (t - IntKind.i64.wrap (i * (4 * g.sector))))]).run Try.prog W = .ok (.int .i64 P) W := fun ts tt W => by
      rw [run_min_int2, IntWalk.i64_in (i * (4 * g.sector)) (by omega), IntWalk.i64_in (t - i * (4 * g.sector)) (by omega), hP]
      by_cases hc : t - i * (4 * g.sector) < 4 * g.sector
      · rw [if_pos hc, Int.min_eq_right (by omega)]
      · rw [if_neg hc, Int.min_eq_left (by omega)]
    clear hP
    generalize 4 * g.sector = L at *
    generalize g.chunks t = n at *
    go_enter Try.func16, Try.ntmps16
    go_wp2_with (first
      | (go_at_call 15; (with_reducible refine (cc _ hb0).mono ?_); rintro e w1 ⟨rfl, hb1⟩; have hk1 := HS.out w1 hb1)
      | (go_at_call 18; (with_reducible refine (within_yes _ _ _ _ (by omega) (by omega)).mono ?_); rintro e w2 ⟨rfl, rfl⟩))
    have hb1' : Below (w.alloc (.cells #[.int .i64 g.sector, .int .i64 g.slot, .int .i64 g.data, .int .i64 g.quota, .int .i64 g.tries, .int .i64 g.life] 23)).heap.size (w.alloc (.cells #[.int .i64 g.sector, .int .i64 g.slot, .int .i64 g.data, .int .i64 g.quota, .int .i64 g.tries, .int .i64 g.life] 23)) w1.drew := hb1.trans (below_drewN (Below.refl _ _) 1)
    have hk1' := HS.out w1.drew hb1'
    clear cc
    go_region_held3 (fun w' => (w'.cell? ⟨w.heap.size, 0, none⟩ = some (.int .i64 g.sector) ∧ w'.cell? ⟨w.heap.size, 1, none⟩ = some (.int .i64 g.slot) ∧ w'.cell? ⟨w.heap.size, 2, none⟩ = some (.int .i64 g.data) ∧ w'.cell? ⟨w.heap.size, 3, none⟩ = some (.int .i64 g.quota) ∧ w'.cell? ⟨w.heap.size, 4, none⟩ = some (.int .i64 g.tries) ∧ w'.cell? ⟨w.heap.size, 5, none⟩ = some (.int .i64 g.life))) (first | assumption | go_keep) (first
      | (go_at_call 17; (with_reducible refine (cl _ hb2).mono ?_); rintro e w3 ⟨rfl, hb3⟩; have hk3 := HS.out w3 hb3)
      | (go_at_call 17; (with_reducible refine (cl _ hb1').mono ?_); rintro e w2 ⟨rfl, hb2⟩; have hk2 := HS.out w2 hb2))
    go_wp2
    go_ret
    exact ⟨rfl, HB.out _ hb3⟩
  · rw [Geo.part, if_neg h]
    have hn : i < 0 ∨ g.chunks t - 1 < i := by omega
    clear h n2
    generalize g.chunks t = n at *
    go_enter Try.func16, Try.ntmps16
    go_wp2_with (first
      | (go_at_call 15; (with_reducible refine (cc _ hb0).mono ?_); rintro e w1 ⟨rfl, hb1⟩; have hk1 := HS.out w1 hb1)
      | (go_at_call 18; (with_reducible refine (within_no _ _ _ _ (by omega)).mono ?_); rintro e w2 ⟨rfl, rfl⟩))
    go_ret
    exact ⟨rfl, HB.out _ hb1⟩
theorem part_at (g : Geo) (t i : Int) (w0 w : World) (hb : Below w0.heap.size w0 w) : Calls Try.prog 16 #[.agg #[.int .i64 g.sector, .int .i64 g.slot, .int .i64 g.data, .int .i64 g.quota, .int .i64 g.tries, .int .i64 g.life], .int .i64 t, .int .i64 i] w fun e w' => e = .returned (.int .i64 (g.part t i)) ∧ Below w0.heap.size w0 w' :=
  (part_any g t i w).mono fun _ _ ⟨he, hw⟩ => ⟨he, hb.trans (hw.mono hb.size)⟩
end Go.Proofs.Ytkkogoiboanepaa.geom
