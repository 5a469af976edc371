/- Contract of layer 18's law file: awake. No condition. -/
import Derived.Test.YtccaibdklgkgeaaItemKeys
import Derived.Test.YtccaibdklgkgeaaItemTold
import Derived.Test.YtccaibdklgkgeaaItemPut
namespace Go.Proofs.Ytccaibdklgkgeaa.item
open Go.RowKit
set_option linter.unusedVariables false

theorem told_side (n f i : Nat) (w : World) (hn : n ≤ 199) (hf : f ≤ 200) (hi : i ≤ 65535) : Calls Try.prog 8 #[.int .u32 (((n + 1) * 16777216 + (f * 65536 + i) : Nat) : Int)] w fun e w' => e = .returned (.tuple #[.int .i64 (n : Int), .int .i64 (f : Int), .int .i64 (i : Int)]) ∧ Below w.heap.size w w' := by
  have := told_any ((n + 1) * 16777216 + (f * 65536 + i)) w (by omega)
  unfold Tells at this
  have e1 : ((((n + 1) * 16777216 + (f * 65536 + i)) / 16777216 : Nat) - 1 : Int) = (n : Int) := by omega
  have e2 : ((((n + 1) * 16777216 + (f * 65536 + i)) % 16777216 / 65536 : Nat) : Int) = (f : Int) := by omega
  have e3 : ((((n + 1) * 16777216 + (f * 65536 + i)) % 65536 : Nat) : Int) = (i : Int) := by omega
  rw [e1, e2, e3] at this
  exact this
theorem told_main (f i : Nat) (w : World) (hf : f ≤ 200) (hi : i ≤ 65535) : Calls Try.prog 8 #[.int .u32 ((f * 65536 + i : Nat) : Int)] w fun e w' => e = .returned (.tuple #[.int .i64 (-1), .int .i64 (f : Int), .int .i64 (i : Int)]) ∧ Below w.heap.size w w' := by
  have := told_any (f * 65536 + i) w (by omega)
  unfold Tells at this
  have e1 : (((f * 65536 + i) / 16777216 : Nat) - 1 : Int) = -1 := by omega
  have e2 : (((f * 65536 + i) % 16777216 / 65536 : Nat) : Int) = (f : Int) := by omega
  have e3 : (((f * 65536 + i) % 65536 : Nat) : Int) = (i : Int) := by omega
  rw [e1, e2, e3] at this
  exact this
theorem put_x (w : World) : Calls Try.prog 22 #[.slice none 0 0, .agg #[.int .u32 5, .string ⟨#[120]⟩]] w fun e w' => ∃ b off c, e = .returned (.slice (some ⟨b, off, none⟩) 1 c) ∧ w'.cell? ⟨b, off, none⟩ = some (.int .u32 5) ∧ Below w.heap.size w w' := by
  refine (put_any none 0 [] ⟨5, ⟨#[120]⟩⟩ w (.inl rfl) (by simp)).mono ?_
  rintro e w' ⟨a, c, rfl, ho, hb⟩
  obtain ⟨b, off, p, rfl, _, hp, c0, _⟩ := (own_its ho).1.at (i := 0) (by simp [put])
  obtain rfl : (⟨5, ⟨#[120]⟩⟩ : It) = p := by simpa [put] using hp
  exact ⟨b, off, c, rfl, by simpa using c0, hb⟩
theorem awake_any (w : World) : Calls Try.prog 11 #[] w (Yes w) := by
  have cM : Calls Try.prog 6 #[.int .i64 3, .int .i64 7] w fun e w' => e = .returned (.tuple #[.int .u32 196615, .int .i64 0]) ∧ Below w.heap.size w w' := main_yes 3 7 w (by omega) (by omega)
  have cS : ∀ w', Calls Try.prog 7 #[.int .i64 0, .int .i64 3, .int .i64 7] w' fun e w2 => e = .returned (.tuple #[.int .u32 16973831, .int .i64 0]) ∧ Below w'.heap.size w' w2 := fun w' => side_yes 0 3 7 w' (by omega) (by omega) (by omega)
  have cT : ∀ w', Calls Try.prog 8 #[.int .u32 16973831] w' fun e w2 => e = .returned (.tuple #[.int .i64 0, .int .i64 3, .int .i64 7]) ∧ Below w'.heap.size w' w2 := fun w' => told_side 0 3 7 w' (by omega) (by omega) (by omega)
  have cP := put_x
  unfold Yes
  go_enter Try.func11, Try.ntmps11
  go_wp2_with (first
    | (go_at_call 6; ((with_reducible refine cM.mono ?_); rintro e w1 ⟨rfl, hb1⟩))
    | (go_at_call 7; ((with_reducible refine (cS _).mono ?_); rintro e w2 ⟨rfl, hb2⟩; have hB2 := hb1.trans (hb2.mono hb1.size)))
    | (go_at_call 8; ((with_reducible refine (cT _).mono ?_); rintro e w3 ⟨rfl, hb3⟩; have hB3 := hB2.trans (hb3.mono hB2.size)))
    | (go_at_call 22; ((with_reducible refine (cP _).mono ?_); rintro e w4 ⟨b, off, c, rfl, c0, hb4⟩; have hB4 := hB3.trans (hb4.mono hB3.size))))
  go_ret
  exact ⟨rfl, hB4⟩
end Go.Proofs.Ytccaibdklgkgeaa.item
