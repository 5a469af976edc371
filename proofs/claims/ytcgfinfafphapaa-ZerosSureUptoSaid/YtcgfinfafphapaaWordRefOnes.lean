/- Contracts of the reference's bit and Ones of layer 1, for every 32-bit argument. -/
import Derived.Test.YtcgfinfafphapaaWordOnes
namespace Go.Proofs.Ytcgfinfafphapaa.word
open Go.RowKit
set_option linter.unusedVariables false

theorem bit_any (x i : Nat) (hx : x < 4294967296) (hi : i < 64) (w : World) :
    Calls Try.prog 23 #[.int .u32 x, .int .i64 i] w (Quiet (.int .u32 (x / 2 ^ i % 2 : Nat)) w) := by
  go_enter Try.func23, Try.ntmps23
  go_wp2
  go_loop [0, 5] (fun v k => ∃ j : Nat, j ≤ i ∧ k = .int .i64 j ∧ v = .int .u32 (x / 2 ^ j : Nat)) (fun _ k => i - (intOf k).toNat)
  case atStart => exact ⟨0, Nat.zero_le _, rfl, by simp⟩
  case round =>
    obtain ⟨j, hj, rfl, rfl⟩ := hrel
    have hlt : x / 2 ^ j < 4294967296 := Nat.lt_of_le_of_lt (Nat.div_le_self _ _) hx
    have hdd : x / 2 ^ j / 2 = x / 2 ^ (j + 1) := by rw [Nat.div_div_eq_div_mul, Nat.pow_succ]
    have HD := hid hdd
    clear hdd
    generalize hy : x / 2 ^ j = y at *
    by_cases h : j < i
    · have HY := hid hy
      clear hy
      go_wp2
      exact ⟨⟨j + 1, by omega, by go_num, by rw [← HD.out]; simp⟩, by simp [intOf]; omega⟩
    · obtain rfl : j = i := by omega
      have HY := hid hy
      clear hy
      go_wp2
      go_ret
      exact ⟨ret_int (by rw [← HY.out]; simp), 0, rfl⟩
theorem onesN_succ (k x : Nat) : onesN (k + 1) x = onesN k x + x / 2 ^ k % 2 := by
  rw [onesN_add k 1 x]; simp [onesN]
theorem refOnes_any (x : Nat) (hx : x < 4294967296) (w : World) :
    Calls Try.prog 20 #[.int .u32 x] w (Quiet (.int .i64 (ones x)) w) := by
  go_enter Try.func20, Try.ntmps20
  go_wp2
  go_loopw [3, 4] (fun v k wr => ∃ j : Nat, j ≤ 32 ∧ k = .int .i64 j ∧ v = .int .i64 (onesN j x) ∧ ∃ m, wr = w.drewN m) (fun _ k _ => 32 - (intOf k).toNat)
  case atStart => exact ⟨0, Nat.zero_le _, rfl, rfl, 0, rfl⟩
  case round =>
    obtain ⟨j, hj, rfl, rfl, m, rfl⟩ := hrel
    have hle := onesN_le j x
    have HS := hid (onesN_succ j x)
    by_cases h : j < 32
    · have c := fun w' => bit_any x j hx (by omega) w'
      have hb : x / 2 ^ j % 2 < 2 := Nat.mod_lt _ (by decide)
      generalize x / 2 ^ j % 2 = b at *
      generalize onesN j x = o at *
      go_wp2_with (go_at_call 23; refine (c _).mono ?_; rintro e w' ⟨rfl, m2, rfl⟩)
      exact ⟨⟨j + 1, by omega, by go_num, by rw [HS.out]; simp, ⟨_, rfl⟩⟩, by simp [intOf]; omega⟩
    · obtain rfl : j = 32 := by omega
      go_wp2
      go_ret
      exact ⟨rfl, _, rfl⟩
end Go.Proofs.Ytcgfinfafphapaa.word
