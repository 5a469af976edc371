/- Contract of layer 8's law file: awake. No condition. -/
import Derived.Test.YtkkogoiboanepaaGeomParts
import Derived.Test.YtkkogoiboanepaaGeomWhere
namespace Go.Proofs.Ytkkogoiboanepaa.geom
open Go.RowKit
set_option linter.unusedVariables false

/-- the law file's own geometry -/
def own8 : Geo := ⟨64, 3, 8, 4, 1, 9⟩
theorem awake_any (w : World) : Calls Try.prog 13 #[] w fun e w' => e = .returned (.bool true) ∧ Below w.heap.size w w' := by
  have HS : Hid (∀ w', Below (w.alloc (.cells #[.int .i64 64, .int .i64 3, .int .i64 8, .int .i64 4, .int .i64 1, .int .i64 9] 23)).heap.size (w.alloc (.cells #[.int .i64 64, .int .i64 3, .int .i64 8, .int .i64 4, .int .i64 1, .int .i64 9] 23)) w' → (w'.cell? ⟨w.heap.size, 0, none⟩ = some (.int .i64 64) ∧ w'.cell? ⟨w.heap.size, 1, none⟩ = some (.int .i64 3) ∧ w'.cell? ⟨w.heap.size, 2, none⟩ = some (.int .i64 8) ∧ w'.cell? ⟨w.heap.size, 3, none⟩ = some (.int .i64 4) ∧ w'.cell? ⟨w.heap.size, 4, none⟩ = some (.int .i64 1) ∧ w'.cell? ⟨w.heap.size, 5, none⟩ = some (.int .i64 9))) := hid (six own8 w)
  have HB : Hid (∀ w', Below (w.alloc (.cells #[.int .i64 64, .int .i64 3, .int .i64 8, .int .i64 4, .int .i64 1, .int .i64 9] 23)).heap.size (w.alloc (.cells #[.int .i64 64, .int .i64 3, .int .i64 8, .int .i64 4, .int .i64 1, .int .i64 9] 23)) w' → Below w.heap.size w w') := hid (belowNew own8 w)
  have hb0 : Below (w.alloc (.cells #[.int .i64 64, .int .i64 3, .int .i64 8, .int .i64 4, .int .i64 1, .int .i64 9] 23)).heap.size (w.alloc (.cells #[.int .i64 64, .int .i64 3, .int .i64 8, .int .i64 4, .int .i64 1, .int .i64 9] 23)) (w.alloc (.cells #[.int .i64 64, .int .i64 3, .int .i64 8, .int .i64 4, .int .i64 1, .int .i64 9] 23)) := Below.refl _ _
  have c1 : ∀ w1, Below (w.alloc (.cells #[.int .i64 64, .int .i64 3, .int .i64 8, .int .i64 4, .int .i64 1, .int .i64 9] 23)).heap.size (w.alloc (.cells #[.int .i64 64, .int .i64 3, .int .i64 8, .int .i64 4, .int .i64 1, .int .i64 9] 23)) w1 → Calls Try.prog 7 #[.agg #[.int .i64 64, .int .i64 3, .int .i64 8, .int .i64 4, .int .i64 1, .int .i64 9]] w1 fun e w' => e = .returned (.int .i64 16) ∧ Below (w.alloc (.cells #[.int .i64 64, .int .i64 3, .int .i64 8, .int .i64 4, .int .i64 1, .int .i64 9] 23)).heap.size (w.alloc (.cells #[.int .i64 64, .int .i64 3, .int .i64 8, .int .i64 4, .int .i64 1, .int .i64 9] 23)) w' := fun w1 hb => by
    rw [show (16 : Int) = own8.sectors by decide]; exact sectors_at own8 _ w1 hb
  have c2 : ∀ w1, Below (w.alloc (.cells #[.int .i64 64, .int .i64 3, .int .i64 8, .int .i64 4, .int .i64 1, .int .i64 9] 23)).heap.size (w.alloc (.cells #[.int .i64 64, .int .i64 3, .int .i64 8, .int .i64 4, .int .i64 1, .int .i64 9] 23)) w1 → Calls Try.prog 9 #[.agg #[.int .i64 64, .int .i64 3, .int .i64 8, .int .i64 4, .int .i64 1, .int .i64 9], .int .i64 1] w1 fun e w' => e = .returned (.int .i64 5) ∧ Below (w.alloc (.cells #[.int .i64 64, .int .i64 3, .int .i64 8, .int .i64 4, .int .i64 1, .int .i64 9] 23)).heap.size (w.alloc (.cells #[.int .i64 64, .int .i64 3, .int .i64 8, .int .i64 4, .int .i64 1, .int .i64 9] 23)) w' := fun w1 hb => by
    rw [show (5 : Int) = own8.ledger 1 by decide]; exact ledger_at own8 1 _ w1 hb
  have c3 : ∀ w1, Below (w.alloc (.cells #[.int .i64 64, .int .i64 3, .int .i64 8, .int .i64 4, .int .i64 1, .int .i64 9] 23)).heap.size (w.alloc (.cells #[.int .i64 64, .int .i64 3, .int .i64 8, .int .i64 4, .int .i64 1, .int .i64 9] 23)) w1 → Calls Try.prog 12 #[.agg #[.int .i64 64, .int .i64 3, .int .i64 8, .int .i64 4, .int .i64 1, .int .i64 9], .int .i64 0] w1 fun e w' => e = .returned (.int .i64 8) ∧ Below (w.alloc (.cells #[.int .i64 64, .int .i64 3, .int .i64 8, .int .i64 4, .int .i64 1, .int .i64 9] 23)).heap.size (w.alloc (.cells #[.int .i64 64, .int .i64 3, .int .i64 8, .int .i64 4, .int .i64 1, .int .i64 9] 23)) w' := fun w1 hb => by
    have h := page_any own8 0 w1
    rw [show own8.page 0 = 8 by decide] at h
    exact h.mono fun _ _ ⟨he, hw⟩ => ⟨he, hb.trans (hw.mono hb.size)⟩
  have c4 : ∀ w1, Below (w.alloc (.cells #[.int .i64 64, .int .i64 3, .int .i64 8, .int .i64 4, .int .i64 1, .int .i64 9] 23)).heap.size (w.alloc (.cells #[.int .i64 64, .int .i64 3, .int .i64 8, .int .i64 4, .int .i64 1, .int .i64 9] 23)) w1 → Calls Try.prog 15 #[.agg #[.int .i64 64, .int .i64 3, .int .i64 8, .int .i64 4, .int .i64 1, .int .i64 9], .int .i64 600] w1 fun e w' => e = .returned (.int .i64 0) ∧ Below (w.alloc (.cells #[.int .i64 64, .int .i64 3, .int .i64 8, .int .i64 4, .int .i64 1, .int .i64 9] 23)).heap.size (w.alloc (.cells #[.int .i64 64, .int .i64 3, .int .i64 8, .int .i64 4, .int .i64 1, .int .i64 9] 23)) w' := fun w1 hb => by
    have h := chunks_at own8 600 _ w1 hb
    rw [show own8.chunks 600 = 0 by decide] at h
    exact h
  have c5 : ∀ w1, Below (w.alloc (.cells #[.int .i64 64, .int .i64 3, .int .i64 8, .int .i64 4, .int .i64 1, .int .i64 9] 23)).heap.size (w.alloc (.cells #[.int .i64 64, .int .i64 3, .int .i64 8, .int .i64 4, .int .i64 1, .int .i64 9] 23)) w1 → Calls Try.prog 16 #[.agg #[.int .i64 64, .int .i64 3, .int .i64 8, .int .i64 4, .int .i64 1, .int .i64 9], .int .i64 500, .int .i64 1] w1 fun e w' => e = .returned (.int .i64 244) ∧ Below (w.alloc (.cells #[.int .i64 64, .int .i64 3, .int .i64 8, .int .i64 4, .int .i64 1, .int .i64 9] 23)).heap.size (w.alloc (.cells #[.int .i64 64, .int .i64 3, .int .i64 8, .int .i64 4, .int .i64 1, .int .i64 9] 23)) w' := fun w1 hb => by
    have h := part_at own8 500 1 _ w1 hb
    rw [show own8.part 500 1 = 244 by decide] at h
    exact h
  go_enter Try.func13, Try.ntmps13
  go_wp2_with (first
    | (go_at_call 7; (with_reducible refine (c1 _ hb0).mono ?_); rintro e w1 ⟨rfl, hb1⟩; have hk1 := HS.out w1 hb1)
    | (go_at_call 9; (with_reducible refine (c2 _ hb1).mono ?_); rintro e w2 ⟨rfl, hb2⟩; have hk2 := HS.out w2 hb2)
    | (go_at_call 12; (with_reducible refine (c3 _ hb2).mono ?_); rintro e w3 ⟨rfl, hb3⟩; have hk3 := HS.out w3 hb3)
    | (go_at_call 15; (with_reducible refine (c4 _ hb3).mono ?_); rintro e w4 ⟨rfl, hb4⟩; have hk4 := HS.out w4 hb4)
    | (go_at_call 16; (with_reducible refine (c5 _ hb4).mono ?_); rintro e w5 ⟨rfl, hb5⟩))
  go_ret
  exact ⟨rfl, HB.out _ hb5⟩
theorem awake_at (w0 w : World) (hb : Below w0.heap.size w0 w) : Calls Try.prog 13 #[] w fun e w' => e = .returned (.bool true) ∧ Below w0.heap.size w0 w' :=
  (awake_any w).mono fun _ _ ⟨he, hw⟩ => ⟨he, hb.trans (hw.mono hb.size)⟩
end Go.Proofs.Ytkkogoiboanepaa.geom
