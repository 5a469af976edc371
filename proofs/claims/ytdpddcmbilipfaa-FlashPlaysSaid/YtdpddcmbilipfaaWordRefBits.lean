/- Contract of the reference's Bits of layer 1, for every 32-bit argument. -/
import Derived.Test.YtdpddcmbilipfaaWordBit
import Derived.Test.YtdpddcmbilipfaaWordBits
namespace Go.Proofs.Ytdpddcmbilipfaa.word
open Go.RowKit
set_option linter.unusedVariables false

/-- what one bit becomes -/
def setBit (kind : Int) (a b m : Nat) : Nat :=
  if kind = 0 then (if a = 1 ∧ b = 0 then 1 else 0) else if kind = 1 then (if a = 1 ∧ ¬ (b = 0 ∧ m = 1) then 1 else 0) else (if a = 1 ∨ m = 1 then 1 else 0)
theorem mod_step (v k : Nat) : v % 2 ^ (k + 1) = v % 2 ^ k + (v / 2 ^ k % 2) * 2 ^ k := by
  rw [Nat.pow_succ, Nat.mod_mul, Nat.mul_comm (2 ^ k)]
set_option maxHeartbeats 1600000 in
theorem refBits_any (a b m v : Nat) (kind : Int) (hk : kind = 0 ∨ kind = 1 ∨ kind = 2) (ha : a < 4294967296) (hb : b < 4294967296) (hm : m < 4294967296) (hv : v < 4294967296)
    (hbit : ∀ i, i < 32 → v / 2 ^ i % 2 = setBit kind (a / 2 ^ i % 2) (b / 2 ^ i % 2) (m / 2 ^ i % 2)) (w : World) :
    Calls Try.prog 21 #[.int .u32 a, .int .u32 b, .int .u32 m, .int .i64 kind] w (Quiet (.int .u32 v) w) := by
  have HB := hid hbit
  clear hbit
  rcases hk with rfl | rfl | rfl
  all_goals
    go_enter Try.func21, Try.ntmps21
    go_wp2
    go_loopw [9, 10, 11] (fun out worth k wr => ∃ j : Nat, j ≤ 32 ∧ k = .int .i64 j ∧ out = .int .u32 (v % 2 ^ j : Nat) ∧ worth = .int .u32 (2 ^ j % 4294967296 : Nat) ∧ ∃ m, wr = w.drewN m) (fun _ _ k _ => 32 - (intOf k).toNat)
    case atStart => exact ⟨0, Nat.zero_le _, rfl, by simp [Nat.mod_one], by simp, 0, rfl⟩
    case round =>
      obtain ⟨j, hj, rfl, rfl, rfl, n, rfl⟩ := hrel
      by_cases h : j < 32
      · have c1 := fun w' => bit_any a j ha (by omega) w'
        have c2 := fun w' => bit_any b j hb (by omega) w'
        have c3 := fun w' => bit_any m j hm (by omega) w'
        have hs := HB.out j h
        have hms := mod_step v j
        have h1 : a / 2 ^ j % 2 = 0 ∨ a / 2 ^ j % 2 = 1 := by omega
        have h2 : b / 2 ^ j % 2 = 0 ∨ b / 2 ^ j % 2 = 1 := by omega
        have h3 : m / 2 ^ j % 2 = 0 ∨ m / 2 ^ j % 2 = 1 := by omega
        have hp : 2 ^ j < 4294967296 := Nat.pow_lt_pow_right (a := 2) (by decide) (show j < 32 from h)
        have hpp : (2 : Nat) ^ (j + 1) = 2 * 2 ^ j := by rw [Nat.pow_succ, Nat.mul_comm]
        have hvl : v % 2 ^ (j + 1) < 4294967296 := Nat.lt_of_le_of_lt (Nat.mod_le _ _) hv
        rw [hs] at hms
        have hlt := Nat.mod_lt v (show 0 < 2 ^ j from Nat.two_pow_pos j)
        generalize a / 2 ^ j % 2 = pa at *
        generalize b / 2 ^ j % 2 = pb at *
        generalize m / 2 ^ j % 2 = pm at *
        generalize hv2 : v % 2 ^ (j + 1) = v2 at *
        generalize v % 2 ^ j = v1 at *
        generalize hp2 : 2 ^ (j + 1) = p2 at *
        generalize 2 ^ j = p1 at *
        have HV2 := hid hv2
        have HP2 := hid hp2
        clear hs HB hv2 hp2
        rcases h1 with rfl | rfl <;> rcases h2 with rfl | rfl <;> rcases h3 with rfl | rfl
        all_goals
          simp (config := { decide := true }) only [setBit, if_true, if_false, Nat.zero_mul, Nat.one_mul, Nat.add_zero] at hms
          have HM := hid hms
          have HP := hid hpp
          clear hms hpp
          go_wp2_with (go_at_call 39; (first | (with_reducible refine (c1 _).mono ?_) | (with_reducible refine (c2 _).mono ?_) | (with_reducible refine (c3 _).mono ?_)); rintro e w' ⟨rfl, m2, rfl⟩)
          exact ⟨⟨j + 1, by omega, by go_num, congrArg (Value.int .u32) (by have := HM.out; rw [HP2.out, HV2.out]; omega), congrArg (Value.int .u32) (by have := HP.out; rw [HP2.out]; omega), ⟨_, rfl⟩⟩, by simp [intOf]; omega⟩
      · obtain rfl : j = 32 := by omega
        go_wp2
        go_ret
        exact ⟨ret_int (by rw [Nat.mod_eq_of_lt hv]), _, rfl⟩
theorem bit01 (x i : Nat) : x / 2 ^ i % 2 = if x.testBit i then 1 else 0 := by
  rw [Nat.testBit_eq_decide_div_mod_eq]
  by_cases h : x / 2 ^ i % 2 = 1
  · simp [h]
  · simp [h]; omega
theorem bits0 (was x i : Nat) (hw : was < 4294967296) (hx : x < 4294967296) : clr was x / 2 ^ i % 2 = setBit 0 (was / 2 ^ i % 2) (x / 2 ^ i % 2) (0 / 2 ^ i % 2) := by
  simp only [bit01, bit_clr was x i hw hx, setBit]
  cases was.testBit i <;> cases x.testBit i <;> simp
theorem bits1 (was x m i : Nat) (hw : was < 4294967296) (hx : x < 4294967296) (hm : m < 4294967296) : clr was (clr m x) / 2 ^ i % 2 = setBit 1 (was / 2 ^ i % 2) (x / 2 ^ i % 2) (m / 2 ^ i % 2) := by
  simp only [bit01, bit_clr was _ i hw (clr_lt m x hm), bit_clr m x i hm hx, setBit]
  cases was.testBit i <;> cases x.testBit i <;> cases m.testBit i <;> simp
theorem bits2 (was m i : Nat) : (was ||| m) / 2 ^ i % 2 = setBit 2 (was / 2 ^ i % 2) (0 / 2 ^ i % 2) (m / 2 ^ i % 2) := by
  simp only [bit01, Nat.testBit_or, setBit]
  cases was.testBit i <;> cases m.testBit i <;> simp

theorem refClr_any (was x : Nat) (hw : was < 4294967296) (hx : x < 4294967296) (w : World) : Calls Try.prog 21 #[.int .u32 was, .int .u32 x, .int .u32 0, .int .i64 0] w (Quiet (.int .u32 (clr was x)) w) :=
  refBits_any was x 0 (clr was x) 0 (Or.inl rfl) hw hx (by decide) (clr_lt _ _ hw) (fun i _ => bits0 was x i hw hx) w
theorem refTorn_any (was x mask : Nat) (hw : was < 4294967296) (hx : x < 4294967296) (hm : mask < 4294967296) (w : World) : Calls Try.prog 21 #[.int .u32 was, .int .u32 x, .int .u32 mask, .int .i64 1] w (Quiet (.int .u32 (clr was (clr mask x))) w) :=
  refBits_any was x mask _ 1 (Or.inr (Or.inl rfl)) hw hx hm (clr_lt _ _ hw) (fun i _ => bits1 was x mask i hw hx hm) w
theorem refRaised_any (was mask : Nat) (hw : was < 4294967296) (hm : mask < 4294967296) (w : World) : Calls Try.prog 21 #[.int .u32 was, .int .u32 0, .int .u32 mask, .int .i64 2] w (Quiet (.int .u32 (was ||| mask : Nat)) w) :=
  refBits_any was 0 mask _ 2 (Or.inr (Or.inr rfl)) hw (by decide) hm (Nat.or_lt_two_pow (n := 32) hw hm) (fun i _ => bits2 was mask i) w
end Go.Proofs.Ytdpddcmbilipfaa.word
