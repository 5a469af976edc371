/- Contract of layer 8 (geom): Where. No condition. -/
import Derived.Test.YtkkogoiboanepaaGeomPlaces
import Derived.BigQuiet
namespace Go.Proofs.Ytkkogoiboanepaa.geom
open Go.RowKit
set_option linter.unusedVariables false

theorem sectors_at (g : Geo) (w0 w : World) (hb : Below w0.heap.size w0 w) : Calls Try.prog 7 #[.agg #[.int .i64 g.sector, .int .i64 g.slot, .int .i64 g.data, .int .i64 g.quota, .int .i64 g.tries, .int .i64 g.life]] w fun e w' => e = .returned (.int .i64 g.sectors) ∧ Below w0.heap.size w0 w' :=
  (sectors_any g w).mono fun _ _ ⟨he, hw⟩ => ⟨he, hb.trans (hw.mono hb.size)⟩
theorem where_no (g : Geo) (k : Int) (h : k < 0 ∨ g.sectors ≤ k) (w : World) : Calls Try.prog 14 #[.agg #[.int .i64 g.sector, .int .i64 g.slot, .int .i64 g.data, .int .i64 g.quota, .int .i64 g.tries, .int .i64 g.life], .int .i64 k] w fun e w' => e = .returned (.tuple #[.int .i64 (-1), .int .i64 0, .int .i64 0]) ∧ Below w.heap.size w w' := by
  have HS := hid (six g w)
  have HB := hid (belowNew g w)
  have hb0 : Below (w.alloc (.cells #[.int .i64 g.sector, .int .i64 g.slot, .int .i64 g.data, .int .i64 g.quota, .int .i64 g.tries, .int .i64 g.life] 23)).heap.size (w.alloc (.cells #[.int .i64 g.sector, .int .i64 g.slot, .int .i64 g.data, .int .i64 g.quota, .int .i64 g.tries, .int .i64 g.life] 23)) (w.alloc (.cells #[.int .i64 g.sector, .int .i64 g.slot, .int .i64 g.data, .int .i64 g.quota, .int .i64 g.tries, .int .i64 g.life] 23)) := Below.refl _ _
  have cs := fun w1 hb => sectors_at g (w.alloc (.cells #[.int .i64 g.sector, .int .i64 g.slot, .int .i64 g.data, .int .i64 g.quota, .int .i64 g.tries, .int .i64 g.life] 23)) w1 hb
  have hn : 0 ≤ g.sectors ∧ g.sectors ≤ 1000 := by
    unfold Geo.sectors
    by_cases hr : g.Right
    · rw [if_pos hr]; unfold Geo.Right at hr; omega
    · rw [if_neg hr]; omega
  generalize g.sectors = n at *
  go_enter Try.func14, Try.ntmps14
  go_wp2_with (first
    | (go_at_call 7; (with_reducible refine (cs _ hb0).mono ?_); rintro e w1 ⟨rfl, hb1⟩)
    | (go_at_call 18; (with_reducible refine (within_no _ _ _ _ (by omega)).mono ?_); rintro e w2 ⟨rfl, rfl⟩))
  go_ret3
  exact ⟨rfl, HB.out _ hb1⟩
theorem where_any (g : Geo) (hr : g.Right) (k : Int) (h0 : 0 ≤ k) (h1 : k < g.sectors) (w : World) : Calls Try.prog 14 #[.agg #[.int .i64 g.sector, .int .i64 g.slot, .int .i64 g.data, .int .i64 g.quota, .int .i64 g.tries, .int .i64 g.life], .int .i64 k] w fun e w' => e = .returned (.tuple #[.int .i64 (g.at k).1, .int .i64 (g.at k).2.1, .int .i64 (g.at k).2.2]) ∧ Below w.heap.size w w' := by
  have HS := hid (six g w)
  have HB := hid (belowNew g w)
  have hb0 : Below (w.alloc (.cells #[.int .i64 g.sector, .int .i64 g.slot, .int .i64 g.data, .int .i64 g.quota, .int .i64 g.tries, .int .i64 g.life] 23)).heap.size (w.alloc (.cells #[.int .i64 g.sector, .int .i64 g.slot, .int .i64 g.data, .int .i64 g.quota, .int .i64 g.tries, .int .i64 g.life] 23)) (w.alloc (.cells #[.int .i64 g.sector, .int .i64 g.slot, .int .i64 g.data, .int .i64 g.quota, .int .i64 g.tries, .int .i64 g.life] 23)) := Below.refl _ _
  have cs := fun w1 hb => sectors_at g (w.alloc (.cells #[.int .i64 g.sector, .int .i64 g.slot, .int .i64 g.data, .int .i64 g.quota, .int .i64 g.tries, .int .i64 g.life] 23)) w1 hb
  have cp := fun w1 hb => pages_at g hr (w.alloc (.cells #[.int .i64 g.sector, .int .i64 g.slot, .int .i64 g.data, .int .i64 g.quota, .int .i64 g.tries, .int .i64 g.life] 23)) w1 hb
  have hn : g.sectors ≤ 1000 := by
    unfold Geo.sectors
    rw [if_pos hr]; unfold Geo.Right at hr; omega
  by_cases c1 : k < 2
  · rw [Geo.at, if_pos c1]
    clear cp hr
    generalize g.sectors = n at *
    go_enter Try.func14, Try.ntmps14
    go_wp2_with (first
      | (go_at_call 7; (with_reducible refine (cs _ hb0).mono ?_); rintro e w1 ⟨rfl, hb1⟩; have hk1 := HS.out w1 hb1)
      | (go_at_call 18; (with_reducible refine (within_yes _ _ _ _ (by omega) (by omega)).mono ?_); rintro e w2 ⟨rfl, rfl⟩))
    go_ret3
    exact ⟨rfl, HB.out _ hb1⟩
  · by_cases c2 : 2 + 2 * g.slot ≤ k
    · rw [Geo.at, if_neg c1, if_pos c2]
      obtain ⟨_, ⟨h3, h4⟩, _⟩ := hr
      generalize g.sectors = n at *
      go_enter Try.func14, Try.ntmps14
      go_wp2_with (first
        | (go_at_call 7; (with_reducible refine (cs _ hb0).mono ?_); rintro e w1 ⟨rfl, hb1⟩; have hk1 := HS.out w1 hb1)
        | (go_at_call 18; (with_reducible refine (within_yes _ _ _ _ (by omega) (by omega)).mono ?_); rintro e w2 ⟨rfl, rfl⟩)
        | (go_at_call 20; (with_reducible refine (cp _ hb3).mono ?_); rintro e w4 ⟨rfl, hb4⟩; have hk4 := HS.out w4 hb4)
        | (go_at_call 20; (with_reducible refine (cp _ hb1).mono ?_); rintro e w3 ⟨rfl, hb3⟩; have hk3 := HS.out w3 hb3))
      go_ret3
      exact ⟨rfl, HB.out _ hb4⟩
    · obtain ⟨_, ⟨h3, h4⟩, _⟩ := hr
      have hz : g.slot ≠ 0 := by omega
      have m0 := Int.emod_nonneg (k - 2) hz
      have m1 := Int.emod_lt_of_pos (k - 2) (show 0 < g.slot by omega)
      have q0 : 0 ≤ (k - 2) / g.slot := Int.ediv_nonneg (by omega) (by omega)
      have q1 : (k - 2) / g.slot ≤ k - 2 := Int.ediv_le_self _ (by omega)
      have z0 : g.slot = 0 ↔ False := iff_of_false hz id
      have z1 : (g.slot == 0) = false := by simp; omega
      have e1 : (IntKind.i64.wrap (k - 2)) = k - 2 := IntWalk.i64_in _ (by omega)
      have e2 : IntKind.i64.wrap ((k - 2).tdiv g.slot) = (k - 2) / g.slot := by rw [Int.tdiv_eq_ediv_of_nonneg (by omega)]; exact IntWalk.i64_in _ (by omega)
      have e3 : (k - 2).tmod g.slot = (k - 2) % g.slot := Int.tmod_eq_emod_of_nonneg (by omega)
      have e4 : IntKind.i64.wrap ((k - 2) % g.slot) = (k - 2) % g.slot := IntWalk.i64_in _ (by omega)
      have e5 : (k - 2).tdiv g.slot = (k - 2) / g.slot := Int.tdiv_eq_ediv_of_nonneg (by omega)
      by_cases c3 : (k - 2) % g.slot = 0
      · rw [Geo.at, if_neg c1, if_neg c2, if_pos c3]
        generalize g.sectors = n at *
        generalize (k - 2) / g.slot = q at *
        have c3b : ((k - 2) % g.slot == 0) = true := by simp [c3]
        have C3 := hid c3
        clear c3
        generalize (k - 2) % g.slot = m at *
        have := C3.out
        subst this
        go_enter Try.func14, Try.ntmps14
        go_wp2_with (first
          | (go_at_call 7; (with_reducible refine (cs _ hb0).mono ?_); rintro e w1 ⟨rfl, hb1⟩; have hk1 := HS.out w1 hb1)
          | (go_at_call 18; (with_reducible refine (within_yes _ _ _ _ (by omega) (by omega)).mono ?_); rintro e w2 ⟨rfl, rfl⟩)
          | (go_at_call 20; (with_reducible refine (cp _ hb1).mono ?_); rintro e w3 ⟨rfl, hb3⟩; have hk3 := HS.out w3 hb3))
        go_quiet (fail)
        go_wp2
        go_ret3
        exact ⟨rfl, (HB.out _ hb3).trans (below_drewN (Below.refl _ _) _)⟩
      · rw [Geo.at, if_neg c1, if_neg c2, if_neg c3]
        generalize g.sectors = n at *
        generalize (k - 2) / g.slot = q at *
        generalize (k - 2) % g.slot = m at *
        have c3b : (m == 0) = false := by simp; omega
        go_enter Try.func14, Try.ntmps14
        go_wp2_with (first
          | (go_at_call 7; (with_reducible refine (cs _ hb0).mono ?_); rintro e w1 ⟨rfl, hb1⟩; have hk1 := HS.out w1 hb1)
          | (go_at_call 18; (with_reducible refine (within_yes _ _ _ _ (by omega) (by omega)).mono ?_); rintro e w2 ⟨rfl, rfl⟩)
          | (go_at_call 20; (with_reducible refine (cp _ hb1).mono ?_); rintro e w3 ⟨rfl, hb3⟩; have hk3 := HS.out w3 hb3))
        go_quiet (fail)
        go_wp2
        go_ret3
        exact ⟨rfl, (HB.out _ hb3).trans (below_drewN (Below.refl _ _) _)⟩
theorem where_at (g : Geo) (hr : g.Right) (k : Int) (h0 : 0 ≤ k) (h1 : k < g.sectors) (w0 w : World) (hb : Below w0.heap.size w0 w) : Calls Try.prog 14 #[.agg #[.int .i64 g.sector, .int .i64 g.slot, .int .i64 g.data, .int .i64 g.quota, .int .i64 g.tries, .int .i64 g.life], .int .i64 k] w fun e w' => e = .returned (.tuple #[.int .i64 (g.at k).1, .int .i64 (g.at k).2.1, .int .i64 (g.at k).2.2]) ∧ Below w0.heap.size w0 w' :=
  (where_any g hr k h0 h1 w).mono fun _ _ ⟨he, hw⟩ => ⟨he, hb.trans (hw.mono hb.size)⟩
end Go.Proofs.Ytkkogoiboanepaa.geom
