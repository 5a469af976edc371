/- Contract of the reference's bit of layer 1, for every 32-bit argument. -/
import Derived.Test.YtdpddcmbilipfaaKit
namespace Go.Proofs.Ytdpddcmbilipfaa.word
open Go.RowKit
set_option linter.unusedVariables false

theorem bit_any (x i : Nat) (hx : x < 4294967296) (hi : i < 64) (w : World) :
    Calls Try.prog 39 #[.int .u32 x, .int .i64 i] w (Quiet (.int .u32 (x / 2 ^ i % 2 : Nat)) w) := by
  go_enter Try.func39, Try.ntmps39
  go_wp2
  go_loop [0, 5] (fun v k => ∃ j : Nat, j ≤ i ∧ k = .int .i64 j ∧ v = .int .u32 (x / 2 ^ j : Nat)) (fun _ k => i - (intOf k).toNat)
  case atStart => exact ⟨0, Nat.zero_le _, rfl, by simp⟩
  case round =>
    obtain ⟨j, hj, rfl, rfl⟩ := hrel
    have hlt : x / 2 ^ j < 4294967296 := Nat.lt_of_le_of_lt (Nat.div_le_self _ _) hx
    have hdd : x / 2 ^ j / 2 = x / 2 ^ (j + 1) := by rw [Nat.div_div_eq_div_mul, Nat.pow_succ]
    have HD := hid hdd
    clear hdd
    generalize hy : x / 2 ^ j = y at *
    by_cases h : j < i
    · have HY := hid hy
      clear hy
      go_wp2
      exact ⟨⟨j + 1, by omega, by go_num, by rw [← HD.out]; simp⟩, by simp [intOf]; omega⟩
    · obtain rfl : j = i := by omega
      have HY := hid hy
      clear hy
      go_wp2
      go_ret
      exact ⟨ret_int (by rw [← HY.out]; simp), 0, rfl⟩
end Go.Proofs.Ytdpddcmbilipfaa.word
