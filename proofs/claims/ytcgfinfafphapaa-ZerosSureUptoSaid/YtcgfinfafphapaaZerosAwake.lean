/- Contract of the law file's function awake of layer 2: it returns true. No condition. -/
import Derived.Test.YtcgfinfafphapaaZerosCount
import Derived.Test.YtcgfinfafphapaaZerosTwin
namespace Go.Proofs.Ytcgfinfafphapaa.zeros
open Go.RowKit
set_option linter.unusedVariables false

theorem reads2 (w : World) (e : TypeId) (x y : Nat) : Reads .u32 (w.alloc (.cells #[.int .u32 (x : Int), .int .u32 (y : Int)] e)) (some ⟨w.heap.size, 0, none⟩) 2 [x, y] := by
  refine ⟨rfl, .inr ⟨w.heap.size, 0, rfl, by simp, ?_⟩⟩
  intro i hi
  match i, hi with
  | 0, _ => simp
  | 1, _ => simp
theorem awake_any (w : World) : Calls Try.prog 14 #[] w (Yes w) := by
  have c1 : ∀ w', Calls Try.prog 17 #[.int .i64 1] w' (Quiet (.tuple #[.int .u32 4294836225, .int .i64 0]) w') := fun w' => twin_yes 1 (by decide) w'
  have c2 : ∀ (w' : World) (e : TypeId) (b : Nat), b = w'.heap.size → Calls Try.prog 7 #[.slice (some ⟨b, 0, none⟩) 2 2] (w'.alloc (.cells #[.int .u32 0, .int .u32 1] e)) (Quiet (.int .u32 63) (w'.alloc (.cells #[.int .u32 0, .int .u32 1] e))) := fun w' e b hb => by
    subst hb; exact sum_any _ 2 2 [0, 1] _ (reads2 w' e 0 1) (by decide) (by decide)
  have c3 : ∀ (w' : World) (e : TypeId) (b : Nat), b = w'.heap.size → Calls Try.prog 12 #[.slice (some ⟨b, 0, none⟩) 2 2] (w'.alloc (.cells #[.int .u32 0, .int .u32 32] e)) (Quiet (.bool true) (w'.alloc (.cells #[.int .u32 0, .int .u32 32] e))) := fun w' e b hb => by
    subst hb; exact right_any _ 2 2 [0, 32] _ (reads2 w' e 0 32) (by decide) (by decide) (by decide) (by unfold maxLen; decide)
  have c4 : ∀ w', Calls Try.prog 12 #[.slice none 0 0] w' (Quiet (.bool false) w') := fun w' => right_zero none 0 w'
  go_enter Try.func14, Try.ntmps14
  go_wp2_with (first
    | (go_at_call 17; ((with_reducible refine (c1 _).mono ?_); rintro e w' ⟨rfl, m1, rfl⟩))
    | (go_at_call 7; ((with_reducible refine (c2 _ _ _ (by simp)).mono ?_); rintro e w' ⟨rfl, m2, rfl⟩))
    | (go_at_call 12; ((with_reducible refine (c4 _).mono ?_); rintro e w' ⟨rfl, m4, rfl⟩))
    | (go_at_call 12; ((with_reducible refine (c3 _ _ _ (by simp)).mono ?_); rintro e w' ⟨rfl, m3, rfl⟩)))
  go_ret
  exact ⟨rfl, by repeat (first | exact Below.refl _ _ | apply below_drewN | apply Below.alloc | simp | omega)⟩
end Go.Proofs.Ytcgfinfafphapaa.zeros
