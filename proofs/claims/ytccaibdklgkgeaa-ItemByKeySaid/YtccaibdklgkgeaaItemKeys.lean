/- Contracts of layer 18: Main, Side, Told. No condition. -/
import Derived.Test.YtccaibdklgkgeaaItemRow
namespace Go.Proofs.Ytccaibdklgkgeaa.item
open Go.RowKit
set_option linter.unusedVariables false

/-- what Main and Side answer: a key, or that a number may not be -/
def key (k : Nat) : Value := .tuple #[.int .u32 (k : Int), .int .i64 0]
def noKey : Value := .tuple #[.int .u32 0, .int .i64 2]
theorem main_no (f i : Int) (w : World) (h : ¬ fits f i) : Calls Try.prog 6 #[.int .i64 f, .int .i64 i] w (Gives noKey w) := by
  unfold Gives noKey
  unfold fits at h
  by_cases h1 : 0 ≤ f
  · have d1 : decide (f < 0) = false := decide_eq_false (by omega)
    by_cases h2 : f ≤ 200
    · have d2 : decide (200 < f) = false := decide_eq_false (by omega)
      by_cases h3 : 0 ≤ i
      · have d3 : decide (i < 0) = false := decide_eq_false (by omega)
        have d4 : decide (65535 < i) = true := decide_eq_true (by omega)
        clear h h1 h2 h3
        go_enter Try.func6, Try.ntmps6
        go_wp2
        go_ret2
        exact ⟨rfl, Below.refl _ _⟩
      · have d3 : decide (i < 0) = true := decide_eq_true (by omega)
        clear h h1 h2 h3
        go_enter Try.func6, Try.ntmps6
        go_wp2
        go_ret2
        exact ⟨rfl, Below.refl _ _⟩
    · have d2 : decide (200 < f) = true := decide_eq_true (by omega)
      clear h h1 h2
      go_enter Try.func6, Try.ntmps6
      go_wp2
      go_ret2
      exact ⟨rfl, Below.refl _ _⟩
  · have d1 : decide (f < 0) = true := decide_eq_true (by omega)
    clear h h1
    go_enter Try.func6, Try.ntmps6
    go_wp2
    go_ret2
    exact ⟨rfl, Below.refl _ _⟩
theorem main_yes (f i : Nat) (w : World) (hf : f ≤ 200) (hi : i ≤ 65535) : Calls Try.prog 6 #[.int .i64 (f : Int), .int .i64 (i : Int)] w (Gives (key (f * 65536 + i)) w) := by
  unfold Gives key
  have d1 : decide ((f : Int) < 0) = false := decide_eq_false (by omega)
  have d2 : decide (200 < f) = false := decide_eq_false (by omega)
  have d3 : decide ((i : Int) < 0) = false := decide_eq_false (by omega)
  have d4 : decide (65535 < i) = false := decide_eq_false (by omega)
  go_enter Try.func6, Try.ntmps6
  go_wp2
  go_ret2
  exact ⟨by go_num, Below.refl _ _⟩
theorem side_no (n f i : Int) (w : World) (h : ¬ (fits f i ∧ 0 ≤ n ∧ n ≤ 199)) : Calls Try.prog 7 #[.int .i64 n, .int .i64 f, .int .i64 i] w (Gives noKey w) := by
  by_cases hf : fits f i
  · obtain ⟨f, rfl⟩ := Int.eq_ofNat_of_zero_le hf.1
    obtain ⟨i, rfl⟩ := Int.eq_ofNat_of_zero_le hf.2.2.1
    have cM := main_yes f i w (by have := hf.2.1; omega) (by have := hf.2.2.2; omega)
    have hn : ¬ (0 ≤ n ∧ n ≤ 199) := fun hn => h ⟨hf, hn⟩
    unfold Gives key at cM
    unfold Gives noKey
    generalize f * 65536 + i = k at cM
    clear h hf
    by_cases h1 : 0 ≤ n
    · have d1 : decide (n < 0) = false := decide_eq_false (by omega)
      have d2 : decide (n ≥ 200) = true := decide_eq_true (by omega)
      clear hn h1
      go_enter Try.func7, Try.ntmps7
      go_wp2_with (go_at_call 6; ((with_reducible refine cM.mono ?_); rintro e w' ⟨rfl, hb⟩))
      go_ret2
      exact ⟨rfl, hb⟩
    · have d1 : decide (n < 0) = true := decide_eq_true (by omega)
      clear hn h1
      go_enter Try.func7, Try.ntmps7
      go_wp2_with (go_at_call 6; ((with_reducible refine cM.mono ?_); rintro e w' ⟨rfl, hb⟩))
      go_ret2
      exact ⟨rfl, hb⟩
  · have cM := main_no f i w hf
    unfold Gives noKey at cM ⊢
    clear h hf
    go_enter Try.func7, Try.ntmps7
    go_wp2_with (go_at_call 6; ((with_reducible refine cM.mono ?_); rintro e w' ⟨rfl, hb⟩))
    go_ret2
    exact ⟨rfl, hb⟩
theorem side_yes (n f i : Nat) (w : World) (hn : n ≤ 199) (hf : f ≤ 200) (hi : i ≤ 65535) : Calls Try.prog 7 #[.int .i64 (n : Int), .int .i64 (f : Int), .int .i64 (i : Int)] w (Gives (key ((n + 1) * 16777216 + (f * 65536 + i))) w) := by
  have cM := main_yes f i w hf hi
  obtain ⟨k, hk⟩ : ∃ k : Nat, f * 65536 + i = k := ⟨_, rfl⟩
  have hk1 : k < 16777216 := by omega
  obtain ⟨r, hr⟩ : ∃ r : Nat, (n + 1) * 16777216 + k = r := ⟨_, rfl⟩
  rw [hk, hr]
  rw [hk] at cM
  unfold Gives key at *
  have HR := hid hr
  have HK := hid hk1
  clear hk hr hk1 hf hi
  go_enter Try.func7, Try.ntmps7
  go_wp2_with (go_at_call 6; ((with_reducible refine cM.mono ?_); rintro e w' ⟨rfl, hb⟩))
  go_ret2
  exact ⟨by have := HR.out; have := HK.out; go_num, hb⟩
end Go.Proofs.Ytccaibdklgkgeaa.item
