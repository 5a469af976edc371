/- Contracts of layer 18's reference: Fits, Main, Side, Told. No condition but numbers that may be. -/
import Derived.Test.YtccaibdklgkgeaaItemRow
namespace Go.Proofs.Ytccaibdklgkgeaa.item
open Go.RowKit
set_option linter.unusedVariables false
theorem refFits_any (f i : Int) (w : World) : Calls Try.prog 10 #[.int .i64 f, .int .i64 i] w (Gives (.bool (decide (fits f i))) w) := by
  obtain ⟨r, hr⟩ : ∃ r : Bool, Hid (decide (fits f i) = r) := ⟨_, rfl⟩
  rw [hr.out]
  unfold Gives
  by_cases h1 : 0 ≤ f
  · by_cases h2 : f ≤ 200
    · by_cases h3 : 0 ≤ i
      · by_cases h4 : i ≤ 65535
        · obtain rfl : true = r := by rw [← hr.out]; exact (decide_eq_true ⟨h1, h2, h3, h4⟩).symm
          go_enter Try.func10, Try.ntmps10
          go_wp2
          go_ret
          exact ⟨rfl, Below.refl _ _⟩
        · obtain rfl : false = r := by rw [← hr.out]; exact (decide_eq_false (fun h => h4 h.2.2.2)).symm
          have hd : decide (i ≤ 65535) = false := decide_eq_false h4
          clear h4
          go_enter Try.func10, Try.ntmps10
          go_wp2
          go_ret
          exact ⟨rfl, Below.refl _ _⟩
      · obtain rfl : false = r := by rw [← hr.out]; exact (decide_eq_false (fun h => h3 h.2.2.1)).symm
        have hd : decide (i ≥ 0) = false := decide_eq_false h3
        clear h3
        go_enter Try.func10, Try.ntmps10
        go_wp2
        go_ret
        exact ⟨rfl, Below.refl _ _⟩
    · obtain rfl : false = r := by rw [← hr.out]; exact (decide_eq_false (fun h => h2 h.2.1)).symm
      have hd : decide (f ≤ 200) = false := decide_eq_false h2
      clear h2
      go_enter Try.func10, Try.ntmps10
      go_wp2
      go_ret
      exact ⟨rfl, Below.refl _ _⟩
  · obtain rfl : false = r := by rw [← hr.out]; exact (decide_eq_false (fun h => h1 h.1)).symm
    have hd : decide (f ≥ 0) = false := decide_eq_false h1
    clear h1
    go_enter Try.func10, Try.ntmps10
    go_wp2
    go_ret
    exact ⟨rfl, Below.refl _ _⟩
theorem refMain_any (f i : Nat) (w : World) (hf : f ≤ 200) (hi : i ≤ 65535) : Calls Try.prog 12 #[.int .i64 (f : Int), .int .i64 (i : Int)] w (Gives (.int .u32 ((f * 65536 + i : Nat) : Int)) w) := by
  unfold Gives
  go_enter Try.func12, Try.ntmps12
  go_wp2
  go_ret
  exact ⟨by go_num, Below.refl _ _⟩
theorem refSide_any (n f i : Nat) (w : World) (hn : n ≤ 199) (hf : f ≤ 200) (hi : i ≤ 65535) : Calls Try.prog 13 #[.int .i64 (n : Int), .int .i64 (f : Int), .int .i64 (i : Int)] w (Gives (.int .u32 (((n + 1) * 16777216 + (f * 65536 + i) : Nat) : Int)) w) := by
  unfold Gives
  have cM := refMain_any f i
  unfold Gives at cM
  go_enter Try.func13, Try.ntmps13
  go_wp2_with (go_at_call 12; ((with_reducible refine (cM _ hf hi).mono ?_); rintro e w' ⟨rfl, hb⟩))
  go_ret
  exact ⟨by go_num, hb⟩
end Go.Proofs.Ytccaibdklgkgeaa.item
