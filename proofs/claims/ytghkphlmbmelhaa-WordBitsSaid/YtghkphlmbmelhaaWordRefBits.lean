/- Contracts of the reference's bit, Ones and Bits of layer 1, for every 32-bit argument. -/
import Derived.Test.YtghkphlmbmelhaaWordBits
namespace Go.Proofs.Ytghkphlmbmelhaa.word
open Go.RowKit
set_option linter.unusedVariables false

theorem bit_any (x i : Nat) (hx : x < 4294967296) (hi : i < 64) (w : World) :
    Calls Try.prog 25 #[.int .u32 x, .int .i64 i] w (Quiet (.int .u32 (x / 2 ^ i % 2 : Nat)) w) := by
  go_enter Try.func25, Try.ntmps25
  go_wp2
  go_loop [0, 5] (fun v k => ∃ j : Nat, j ≤ i ∧ k = .int .i64 j ∧ v = .int .u32 (x / 2 ^ j : Nat)) (fun _ k => i - (intOf k).toNat)
  case atStart => exact ⟨0, Nat.zero_le _, rfl, by simp⟩
  case round =>
    obtain ⟨j, hj, rfl, rfl⟩ := hrel
    have hlt : x / 2 ^ j < 4294967296 := Nat.lt_of_le_of_lt (Nat.div_le_self _ _) hx
    have hdd : x / 2 ^ j / 2 = x / 2 ^ (j + 1) := by rw [Nat.div_div_eq_div_mul, Nat.pow_succ]
    have HD := hid hdd
    clear hdd
    generalize hy : x / 2 ^ j = y at *
    by_cases h : j < i
    · have HY := hid hy
      clear hy
      go_wp2
      exact ⟨⟨j + 1, by omega, by go_num, by rw [← HD.out]; simp⟩, by simp [intOf]; omega⟩
    · obtain rfl : j = i := by omega
      have HY := hid hy
      clear hy
      go_wp2
      go_ret
      exact ⟨ret_int (by rw [← HY.out]; simp), 0, rfl⟩
theorem onesN_succ (k x : Nat) : onesN (k + 1) x = onesN k x + x / 2 ^ k % 2 := by
  rw [onesN_add k 1 x]; simp [onesN]
theorem refOnes_any (x : Nat) (hx : x < 4294967296) (w : World) :
    Calls Try.prog 16 #[.int .u32 x] w (Quiet (.int .i64 (ones x)) w) := by
  go_enter Try.func16, Try.ntmps16
  go_wp2
  go_loopw [3, 4] (fun v k wr => ∃ j : Nat, j ≤ 32 ∧ k = .int .i64 j ∧ v = .int .i64 (onesN j x) ∧ ∃ m, wr = w.drewN m) (fun _ k _ => 32 - (intOf k).toNat)
  case atStart => exact ⟨0, Nat.zero_le _, rfl, rfl, 0, rfl⟩
  case round =>
    obtain ⟨j, hj, rfl, rfl, m, rfl⟩ := hrel
    have hle := onesN_le j x
    have HS := hid (onesN_succ j x)
    by_cases h : j < 32
    · have c := fun w' => bit_any x j hx (by omega) w'
      have hb : x / 2 ^ j % 2 < 2 := Nat.mod_lt _ (by decide)
      generalize x / 2 ^ j % 2 = b at *
      generalize onesN j x = o at *
      go_wp2_with (go_at_call 25; refine (c _).mono ?_; rintro e w' ⟨rfl, m2, rfl⟩)
      exact ⟨⟨j + 1, by omega, by go_num, by rw [HS.out]; simp, ⟨_, rfl⟩⟩, by simp [intOf]; omega⟩
    · obtain rfl : j = 32 := by omega
      go_wp2
      go_ret
      exact ⟨rfl, _, rfl⟩

/-- what one bit becomes -/
def setBit (kind : Int) (a b m : Nat) : Nat :=
  if kind = 0 then (if a = 1 ∧ b = 0 then 1 else 0) else if kind = 1 then (if a = 1 ∧ ¬ (b = 0 ∧ m = 1) then 1 else 0) else (if a = 1 ∨ m = 1 then 1 else 0)
theorem mod_step (v k : Nat) : v % 2 ^ (k + 1) = v % 2 ^ k + (v / 2 ^ k % 2) * 2 ^ k := by
  rw [Nat.pow_succ, Nat.mod_mul, Nat.mul_comm (2 ^ k)]
set_option maxHeartbeats 1600000 in
theorem refBits_any (a b m v : Nat) (kind : Int) (hk : kind = 0 ∨ kind = 1 ∨ kind = 2) (ha : a < 4294967296) (hb : b < 4294967296) (hm : m < 4294967296) (hv : v < 4294967296)
    (hbit : ∀ i, i < 32 → v / 2 ^ i % 2 = setBit kind (a / 2 ^ i % 2) (b / 2 ^ i % 2) (m / 2 ^ i % 2)) (w : World) :
    Calls Try.prog 18 #[.int .u32 a, .int .u32 b, .int .u32 m, .int .i64 kind] w (Quiet (.int .u32 v) w) := by
  have HB := hid hbit
  clear hbit
  rcases hk with rfl | rfl | rfl
  all_goals
    go_enter Try.func18, Try.ntmps18
    go_wp2
    go_loopw [9, 10, 11] (fun out worth k wr => ∃ j : Nat, j ≤ 32 ∧ k = .int .i64 j ∧ out = .int .u32 (v % 2 ^ j : Nat) ∧ worth = .int .u32 (2 ^ j % 4294967296 : Nat) ∧ ∃ m, wr = w.drewN m) (fun _ _ k _ => 32 - (intOf k).toNat)
    case atStart => exact ⟨0, Nat.zero_le _, rfl, by simp [Nat.mod_one], by simp, 0, rfl⟩
    case round =>
      obtain ⟨j, hj, rfl, rfl, rfl, n, rfl⟩ := hrel
      by_cases h : j < 32
      · have c1 := fun w' => bit_any a j ha (by omega) w'
        have c2 := fun w' => bit_any b j hb (by omega) w'
        have c3 := fun w' => bit_any m j hm (by omega) w'
        have hs := HB.out j h
        have hms := mod_step v j
        have h1 : a / 2 ^ j % 2 = 0 ∨ a / 2 ^ j % 2 = 1 := by omega
        have h2 : b / 2 ^ j % 2 = 0 ∨ b / 2 ^ j % 2 = 1 := by omega
        have h3 : m / 2 ^ j % 2 = 0 ∨ m / 2 ^ j % 2 = 1 := by omega
        have hp : 2 ^ j < 4294967296 := Nat.pow_lt_pow_right (a := 2) (by decide) (show j < 32 from h)
        have hpp : (2 : Nat) ^ (j + 1) = 2 * 2 ^ j := by rw [Nat.pow_succ, Nat.mul_comm]
        have hvl : v % 2 ^ (j + 1) < 4294967296 := Nat.lt_of_le_of_lt (Nat.mod_le _ _) hv
        rw [hs] at hms
        have hlt := Nat.mod_lt v (show 0 < 2 ^ j from Nat.two_pow_pos j)
        generalize a / 2 ^ j % 2 = pa at *
        generalize b / 2 ^ j % 2 = pb at *
        generalize m / 2 ^ j % 2 = pm at *
        generalize hv2 : v % 2 ^ (j + 1) = v2 at *
        generalize v % 2 ^ j = v1 at *
        generalize hp2 : 2 ^ (j + 1) = p2 at *
        generalize 2 ^ j = p1 at *
        have HV2 := hid hv2
        have HP2 := hid hp2
        clear hs HB hv2 hp2
        rcases h1 with rfl | rfl <;> rcases h2 with rfl | rfl <;> rcases h3 with rfl | rfl
        all_goals
          simp (config := { decide := true }) only [setBit, if_true, if_false, Nat.zero_mul, Nat.one_mul, Nat.add_zero] at hms
          have HM := hid hms
          have HP := hid hpp
          clear hms hpp
          go_wp2_with (go_at_call 25; (first | (with_reducible refine (c1 _).mono ?_) | (with_reducible refine (c2 _).mono ?_) | (with_reducible refine (c3 _).mono ?_)); rintro e w' ⟨rfl, m2, rfl⟩)
          exact ⟨⟨j + 1, by omega, by go_num, congrArg (Value.int .u32) (by have := HM.out; rw [HP2.out, HV2.out]; omega), congrArg (Value.int .u32) (by have := HP.out; rw [HP2.out]; omega), ⟨_, rfl⟩⟩, by simp [intOf]; omega⟩
      · obtain rfl : j = 32 := by omega
        go_wp2
        go_ret
        exact ⟨ret_int (by rw [Nat.mod_eq_of_lt hv]), _, rfl⟩
end Go.Proofs.Ytghkphlmbmelhaa.word
