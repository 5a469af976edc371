/- Contracts of layer 8 (geom): pages, Sectors, Ledger, Chunk, Page, Long, Cap. No condition. -/
import Derived.Test.YtkkogoiboanepaaGeomCheck
import Derived.Test.YtkkogoiboanepaaArr
import Derived.IntWalk
namespace Go.Proofs.Ytkkogoiboanepaa.geom
open Go.RowKit
set_option linter.unusedVariables false

/-- a geometry that has just been boxed stays -/
theorem six (g : Geo) (w w' : World) (hb : Below (w.alloc (.cells #[.int .i64 g.sector, .int .i64 g.slot, .int .i64 g.data, .int .i64 g.quota, .int .i64 g.tries, .int .i64 g.life] 23)).heap.size (w.alloc (.cells #[.int .i64 g.sector, .int .i64 g.slot, .int .i64 g.data, .int .i64 g.quota, .int .i64 g.tries, .int .i64 g.life] 23)) w') : (w'.cell? ⟨w.heap.size, 0, none⟩ = some (.int .i64 g.sector) ∧ w'.cell? ⟨w.heap.size, 1, none⟩ = some (.int .i64 g.slot) ∧ w'.cell? ⟨w.heap.size, 2, none⟩ = some (.int .i64 g.data) ∧ w'.cell? ⟨w.heap.size, 3, none⟩ = some (.int .i64 g.quota) ∧ w'.cell? ⟨w.heap.size, 4, none⟩ = some (.int .i64 g.tries) ∧ w'.cell? ⟨w.heap.size, 5, none⟩ = some (.int .i64 g.life)) := by
  have hB := (Block.new w 23 [.int .i64 g.sector, .int .i64 g.slot, .int .i64 g.data, .int .i64 g.quota, .int .i64 g.tries, .int .i64 g.life]).later hb
  exact ⟨hB.cell 0, hB.cell 1, hB.cell 2, hB.cell 3, hB.cell 4, hB.cell 5⟩
theorem belowNew (g : Geo) (w w' : World) (hb : Below (w.alloc (.cells #[.int .i64 g.sector, .int .i64 g.slot, .int .i64 g.data, .int .i64 g.quota, .int .i64 g.tries, .int .i64 g.life] 23)).heap.size (w.alloc (.cells #[.int .i64 g.sector, .int .i64 g.slot, .int .i64 g.data, .int .i64 g.quota, .int .i64 g.tries, .int .i64 g.life] 23)) w') : Below w.heap.size w w' := ((Below.refl _ _).alloc (Nat.le_refl _) _).trans (hb.mono (by simp))
theorem pages_any (g : Geo) (h : g.Right) (w : World) : Calls Try.prog 20 #[.agg #[.int .i64 g.sector, .int .i64 g.slot, .int .i64 g.data, .int .i64 g.quota, .int .i64 g.tries, .int .i64 g.life]] w fun e w' => e = .returned (.int .i64 (2 + 2 * g.slot)) ∧ Below w.heap.size w w' := by
  obtain ⟨_, ⟨h3, h4⟩, _⟩ := h
  go_enter Try.func20, Try.ntmps20
  go_wp2
  go_ret
  exact ⟨rfl, (Below.refl _ _).alloc (Nat.le_refl _) _⟩
/-- the same, at whatever later world -/
theorem pages_at (g : Geo) (h : g.Right) (w0 w : World) (hb : Below w0.heap.size w0 w) : Calls Try.prog 20 #[.agg #[.int .i64 g.sector, .int .i64 g.slot, .int .i64 g.data, .int .i64 g.quota, .int .i64 g.tries, .int .i64 g.life]] w fun e w' => e = .returned (.int .i64 (2 + 2 * g.slot)) ∧ Below w0.heap.size w0 w' :=
  (pages_any g h w).mono fun _ _ ⟨he, hw⟩ => ⟨he, hb.trans (hw.mono hb.size)⟩
theorem check_yes_at (g : Geo) (h : g.Right) (w0 w : World) (hb : Below w0.heap.size w0 w) : Calls Try.prog 5 #[.agg #[.int .i64 g.sector, .int .i64 g.slot, .int .i64 g.data, .int .i64 g.quota, .int .i64 g.tries, .int .i64 g.life]] w fun e w' => e = .returned (.int .i64 0) ∧ Below w0.heap.size w0 w' :=
  (check_yes g h w).mono fun _ _ ⟨he, hw⟩ => ⟨he, hb.trans (hw.mono hb.size)⟩
theorem check_no_at (g : Geo) (h : ¬ g.Right) (w0 w : World) (hb : Below w0.heap.size w0 w) : Calls Try.prog 5 #[.agg #[.int .i64 g.sector, .int .i64 g.slot, .int .i64 g.data, .int .i64 g.quota, .int .i64 g.tries, .int .i64 g.life]] w fun e w' => e = .returned (.int .i64 2) ∧ Below w0.heap.size w0 w' :=
  (check_no g h w).mono fun _ _ ⟨he, hw⟩ => ⟨he, hb.trans (hw.mono hb.size)⟩
theorem sectors_any (g : Geo) (w : World) : Calls Try.prog 7 #[.agg #[.int .i64 g.sector, .int .i64 g.slot, .int .i64 g.data, .int .i64 g.quota, .int .i64 g.tries, .int .i64 g.life]] w fun e w' => e = .returned (.int .i64 g.sectors) ∧ Below w.heap.size w w' := by
  have HS := hid (six g w)
  have HB := hid (belowNew g w)
  have hb0 : Below (w.alloc (.cells #[.int .i64 g.sector, .int .i64 g.slot, .int .i64 g.data, .int .i64 g.quota, .int .i64 g.tries, .int .i64 g.life] 23)).heap.size (w.alloc (.cells #[.int .i64 g.sector, .int .i64 g.slot, .int .i64 g.data, .int .i64 g.quota, .int .i64 g.tries, .int .i64 g.life] 23)) (w.alloc (.cells #[.int .i64 g.sector, .int .i64 g.slot, .int .i64 g.data, .int .i64 g.quota, .int .i64 g.tries, .int .i64 g.life] 23)) := Below.refl _ _
  by_cases h : g.Right
  · rw [Geo.sectors, if_pos h]
    have cc := fun w1 hb => check_yes_at g h (w.alloc (.cells #[.int .i64 g.sector, .int .i64 g.slot, .int .i64 g.data, .int .i64 g.quota, .int .i64 g.tries, .int .i64 g.life] 23)) w1 hb
    have cp := fun w1 hb => pages_at g h (w.alloc (.cells #[.int .i64 g.sector, .int .i64 g.slot, .int .i64 g.data, .int .i64 g.quota, .int .i64 g.tries, .int .i64 g.life] 23)) w1 hb
    obtain ⟨_, ⟨h3, h4⟩, ⟨h5, h6⟩, ⟨h7, h8⟩, _⟩ := h
    go_enter Try.func7, Try.ntmps7
    go_wp2_with (go_at_call 5; (with_reducible refine (cc _ hb0).mono ?_); rintro e w1 ⟨rfl, hb1⟩)
    have hk1 := HS.out w1 hb1
    have hb1' : Below (w.alloc (.cells #[.int .i64 g.sector, .int .i64 g.slot, .int .i64 g.data, .int .i64 g.quota, .int .i64 g.tries, .int .i64 g.life] 23)).heap.size (w.alloc (.cells #[.int .i64 g.sector, .int .i64 g.slot, .int .i64 g.data, .int .i64 g.quota, .int .i64 g.tries, .int .i64 g.life] 23)) w1.drew := hb1.trans (below_drewN (Below.refl _ _) 1)
    have hk1' := HS.out w1.drew hb1'
    go_region_held3 (fun w' => (w'.cell? ⟨w.heap.size, 0, none⟩ = some (.int .i64 g.sector) ∧ w'.cell? ⟨w.heap.size, 1, none⟩ = some (.int .i64 g.slot) ∧ w'.cell? ⟨w.heap.size, 2, none⟩ = some (.int .i64 g.data) ∧ w'.cell? ⟨w.heap.size, 3, none⟩ = some (.int .i64 g.quota) ∧ w'.cell? ⟨w.heap.size, 4, none⟩ = some (.int .i64 g.tries) ∧ w'.cell? ⟨w.heap.size, 5, none⟩ = some (.int .i64 g.life))) (first | assumption | go_keep) ((go_at_call 20; (with_reducible refine (cp _ hb1').mono ?_); rintro e w2 ⟨rfl, hb2⟩; have hk2 := HS.out w2 hb2))
    go_wp2
    go_ret
    exact ⟨ret_int (IntWalk.i64_in _ (by omega)), HB.out _ hb2⟩
  · rw [Geo.sectors, if_neg h]
    have cc := fun w1 hb => check_no_at g h (w.alloc (.cells #[.int .i64 g.sector, .int .i64 g.slot, .int .i64 g.data, .int .i64 g.quota, .int .i64 g.tries, .int .i64 g.life] 23)) w1 hb
    clear h
    go_enter Try.func7, Try.ntmps7
    go_wp2_with (go_at_call 5; (with_reducible refine (cc _ hb0).mono ?_); rintro e w1 ⟨rfl, hb1⟩)
    go_ret
    exact ⟨rfl, HB.out _ hb1⟩
theorem ledger_any (g : Geo) (a : Int) (w : World) : Calls Try.prog 9 #[.agg #[.int .i64 g.sector, .int .i64 g.slot, .int .i64 g.data, .int .i64 g.quota, .int .i64 g.tries, .int .i64 g.life], .int .i64 a] w fun e w' => e = .returned (.int .i64 (g.ledger a)) ∧ Below w.heap.size w w' := by
  have HS := hid (six g w)
  have HB := hid (belowNew g w)
  have hb0 : Below (w.alloc (.cells #[.int .i64 g.sector, .int .i64 g.slot, .int .i64 g.data, .int .i64 g.quota, .int .i64 g.tries, .int .i64 g.life] 23)).heap.size (w.alloc (.cells #[.int .i64 g.sector, .int .i64 g.slot, .int .i64 g.data, .int .i64 g.quota, .int .i64 g.tries, .int .i64 g.life] 23)) (w.alloc (.cells #[.int .i64 g.sector, .int .i64 g.slot, .int .i64 g.data, .int .i64 g.quota, .int .i64 g.tries, .int .i64 g.life] 23)) := Below.refl _ _
  by_cases h : g.Right
  · have cc := fun w1 hb => check_yes_at g h (w.alloc (.cells #[.int .i64 g.sector, .int .i64 g.slot, .int .i64 g.data, .int .i64 g.quota, .int .i64 g.tries, .int .i64 g.life] 23)) w1 hb
    by_cases ha : 0 ≤ a ∧ a ≤ 1
    · rw [Geo.ledger, if_pos ⟨h, ha⟩]
      obtain ⟨_, ⟨h3, h4⟩, _⟩ := h
      obtain ⟨a0, a1⟩ := ha
      have hm : 0 ≤ a * g.slot ∧ a * g.slot ≤ 32 := by
        have : a = 0 ∨ a = 1 := by omega
        rcases this with rfl | rfl <;> omega
      go_enter Try.func9, Try.ntmps9
      go_wp2_with (first
        | (go_at_call 5; (with_reducible refine (cc _ hb0).mono ?_); rintro e w1 ⟨rfl, hb1⟩; have hk1 := HS.out w1 hb1)
        | (go_at_call 18; (with_reducible refine (within_yes _ _ _ _ (by omega) (by omega)).mono ?_); rintro e w2 ⟨rfl, rfl⟩))
      go_ret
      exact ⟨rfl, HB.out _ hb1⟩
    · rw [Geo.ledger, if_neg (fun k => ha k.2)]
      have ha' : a < 0 ∨ 1 < a := by omega
      clear ha h
      go_enter Try.func9, Try.ntmps9
      go_wp2_with (first
        | (go_at_call 5; (with_reducible refine (cc _ hb0).mono ?_); rintro e w1 ⟨rfl, hb1⟩; have hk1 := HS.out w1 hb1)
        | (go_at_call 18; (with_reducible refine (within_no _ _ _ _ (by omega)).mono ?_); rintro e w2 ⟨rfl, rfl⟩))
      go_ret
      exact ⟨rfl, HB.out _ hb1⟩
  · rw [Geo.ledger, if_neg (fun k => h k.1)]
    have cc := fun w1 hb => check_no_at g h (w.alloc (.cells #[.int .i64 g.sector, .int .i64 g.slot, .int .i64 g.data, .int .i64 g.quota, .int .i64 g.tries, .int .i64 g.life] 23)) w1 hb
    clear h
    go_enter Try.func9, Try.ntmps9
    go_wp2_with (go_at_call 5; (with_reducible refine (cc _ hb0).mono ?_); rintro e w1 ⟨rfl, hb1⟩)
    go_ret
    exact ⟨rfl, HB.out _ hb1⟩
theorem ledger_at (g : Geo) (a : Int) (w0 w : World) (hb : Below w0.heap.size w0 w) : Calls Try.prog 9 #[.agg #[.int .i64 g.sector, .int .i64 g.slot, .int .i64 g.data, .int .i64 g.quota, .int .i64 g.tries, .int .i64 g.life], .int .i64 a] w fun e w' => e = .returned (.int .i64 (g.ledger a)) ∧ Below w0.heap.size w0 w' :=
  (ledger_any g a w).mono fun _ _ ⟨he, hw⟩ => ⟨he, hb.trans (hw.mono hb.size)⟩
theorem chunk_any (g : Geo) (a i : Int) (w : World) : Calls Try.prog 11 #[.agg #[.int .i64 g.sector, .int .i64 g.slot, .int .i64 g.data, .int .i64 g.quota, .int .i64 g.tries, .int .i64 g.life], .int .i64 a, .int .i64 i] w fun e w' => e = .returned (.int .i64 (g.chunk a i)) ∧ Below w.heap.size w w' := by
  have HS := hid (six g w)
  have HB := hid (belowNew g w)
  have hb0 : Below (w.alloc (.cells #[.int .i64 g.sector, .int .i64 g.slot, .int .i64 g.data, .int .i64 g.quota, .int .i64 g.tries, .int .i64 g.life] 23)).heap.size (w.alloc (.cells #[.int .i64 g.sector, .int .i64 g.slot, .int .i64 g.data, .int .i64 g.quota, .int .i64 g.tries, .int .i64 g.life] 23)) (w.alloc (.cells #[.int .i64 g.sector, .int .i64 g.slot, .int .i64 g.data, .int .i64 g.quota, .int .i64 g.tries, .int .i64 g.life] 23)) := Below.refl _ _
  have cl := fun w1 hb => ledger_at g a (w.alloc (.cells #[.int .i64 g.sector, .int .i64 g.slot, .int .i64 g.data, .int .i64 g.quota, .int .i64 g.tries, .int .i64 g.life] 23)) w1 hb
  by_cases h : g.Right ∧ 0 ≤ a ∧ a ≤ 1
  · rw [Geo.ledger, if_pos h] at cl
    obtain ⟨hr, ha0, ha1⟩ := h
    have hm : 0 ≤ a * g.slot ∧ a * g.slot ≤ 32 := by
      obtain ⟨_, ⟨h3, h4⟩, _⟩ := hr
      have : a = 0 ∨ a = 1 := by omega
      rcases this with rfl | rfl <;> omega
    have hne : ((2 + a * g.slot : Int) == -1) = false := by simp; omega
    by_cases hi : 0 ≤ i ∧ i ≤ g.slot - 2
    · rw [Geo.chunk, if_pos ⟨hr, ⟨ha0, ha1⟩, hi⟩]
      obtain ⟨_, ⟨h3, h4⟩, _⟩ := hr
      obtain ⟨i0, i1⟩ := hi
      generalize a * g.slot = m at *
      go_enter Try.func11, Try.ntmps11
      go_wp2_with (first
        | (go_at_call 9; (with_reducible refine (cl _ hb0).mono ?_); rintro e w1 ⟨rfl, hb1⟩; have hk1 := HS.out w1 hb1)
        | (go_at_call 18; (with_reducible refine (within_yes _ _ _ _ (by omega) (by omega)).mono ?_); rintro e w2 ⟨rfl, rfl⟩))
      go_ret
      exact ⟨rfl, HB.out _ hb1⟩
    · rw [Geo.chunk, if_neg (fun k => hi k.2.2)]
      have hi' : i < 0 ∨ g.slot - 2 < i := by omega
      obtain ⟨_, ⟨h3, h4⟩, _⟩ := hr
      clear hi
      generalize a * g.slot = m at *
      go_enter Try.func11, Try.ntmps11
      go_wp2_with (first
        | (go_at_call 9; (with_reducible refine (cl _ hb0).mono ?_); rintro e w1 ⟨rfl, hb1⟩; have hk1 := HS.out w1 hb1)
        | (go_at_call 18; (with_reducible refine (within_no _ _ _ _ (by omega)).mono ?_); rintro e w2 ⟨rfl, rfl⟩))
      go_ret
      exact ⟨rfl, HB.out _ hb1⟩
  · rw [Geo.ledger, if_neg h] at cl
    rw [Geo.chunk, if_neg (fun k => h ⟨k.1, k.2.1⟩)]
    clear h
    go_enter Try.func11, Try.ntmps11
    go_wp2_with (go_at_call 9; (with_reducible refine (cl _ hb0).mono ?_); rintro e w1 ⟨rfl, hb1⟩; have hk1 := HS.out w1 hb1)
    go_ret
    exact ⟨rfl, HB.out _ hb1⟩
theorem page_any (g : Geo) (p : Int) (w : World) : Calls Try.prog 12 #[.agg #[.int .i64 g.sector, .int .i64 g.slot, .int .i64 g.data, .int .i64 g.quota, .int .i64 g.tries, .int .i64 g.life], .int .i64 p] w fun e w' => e = .returned (.int .i64 (g.page p)) ∧ Below w.heap.size w w' := by
  have HS := hid (six g w)
  have HB := hid (belowNew g w)
  have hb0 : Below (w.alloc (.cells #[.int .i64 g.sector, .int .i64 g.slot, .int .i64 g.data, .int .i64 g.quota, .int .i64 g.tries, .int .i64 g.life] 23)).heap.size (w.alloc (.cells #[.int .i64 g.sector, .int .i64 g.slot, .int .i64 g.data, .int .i64 g.quota, .int .i64 g.tries, .int .i64 g.life] 23)) (w.alloc (.cells #[.int .i64 g.sector, .int .i64 g.slot, .int .i64 g.data, .int .i64 g.quota, .int .i64 g.tries, .int .i64 g.life] 23)) := Below.refl _ _
  by_cases h : g.Right
  · have cc := fun w1 hb => check_yes_at g h (w.alloc (.cells #[.int .i64 g.sector, .int .i64 g.slot, .int .i64 g.data, .int .i64 g.quota, .int .i64 g.tries, .int .i64 g.life] 23)) w1 hb
    have cp := fun w1 hb => pages_at g h (w.alloc (.cells #[.int .i64 g.sector, .int .i64 g.slot, .int .i64 g.data, .int .i64 g.quota, .int .i64 g.tries, .int .i64 g.life] 23)) w1 hb
    by_cases hp : 0 ≤ p ∧ p ≤ g.data - 1
    · rw [Geo.page, if_pos ⟨h, hp⟩]
      obtain ⟨_, ⟨h3, h4⟩, ⟨h5, h6⟩, ⟨h7, h8⟩, _⟩ := h
      obtain ⟨p0, p1⟩ := hp
      go_enter Try.func12, Try.ntmps12
      go_wp2_with (first
        | (go_at_call 5; (with_reducible refine (cc _ hb0).mono ?_); rintro e w1 ⟨rfl, hb1⟩; have hk1 := HS.out w1 hb1)
        | (go_at_call 18; (with_reducible refine (within_yes _ _ _ _ (by omega) (by omega)).mono ?_); rintro e w2 ⟨rfl, rfl⟩)
        | (go_at_call 20; (with_reducible refine (cp _ hb1).mono ?_); rintro e w3 ⟨rfl, hb3⟩; have hk3 := HS.out w3 hb3))
      go_ret
      exact ⟨rfl, HB.out _ hb3⟩
    · rw [Geo.page, if_neg (fun k => hp k.2)]
      have hp' : p < 0 ∨ g.data - 1 < p := by omega
      obtain ⟨_, ⟨h3, h4⟩, ⟨h5, h6⟩, ⟨h7, h8⟩, _⟩ := h
      clear hp
      go_enter Try.func12, Try.ntmps12
      go_wp2_with (first
        | (go_at_call 5; (with_reducible refine (cc _ hb0).mono ?_); rintro e w1 ⟨rfl, hb1⟩; have hk1 := HS.out w1 hb1)
        | (go_at_call 18; (with_reducible refine (within_no _ _ _ _ (by omega)).mono ?_); rintro e w2 ⟨rfl, rfl⟩))
      go_ret
      exact ⟨rfl, HB.out _ hb1⟩
  · rw [Geo.page, if_neg (fun k => h k.1)]
    have cc := fun w1 hb => check_no_at g h (w.alloc (.cells #[.int .i64 g.sector, .int .i64 g.slot, .int .i64 g.data, .int .i64 g.quota, .int .i64 g.tries, .int .i64 g.life] 23)) w1 hb
    clear h
    go_enter Try.func12, Try.ntmps12
    go_wp2_with (go_at_call 5; (with_reducible refine (cc _ hb0).mono ?_); rintro e w1 ⟨rfl, hb1⟩)
    go_ret
    exact ⟨rfl, HB.out _ hb1⟩
end Go.Proofs.Ytkkogoiboanepaa.geom
