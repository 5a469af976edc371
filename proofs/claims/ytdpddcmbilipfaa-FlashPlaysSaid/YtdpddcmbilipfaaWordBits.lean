/- Contracts of the functions Torn, Within, Raised of layer 1 (word), for every 32-bit argument. -/
import Derived.Test.YtdpddcmbilipfaaKit
namespace Go.Proofs.Ytdpddcmbilipfaa.word
open Go.RowKit
set_option linter.unusedVariables false

/-- the bits of a that are not in b, of 32 -/
def clr (a b : Nat) : Nat := a &&& (4294967295 - b)

theorem within_any (a b : Nat) (ha : a < 4294967296) (hb : b < 4294967296) (w : World) :
    Calls Try.prog 40 #[.int .u32 a, .int .u32 b] w (Quiet (.bool (clr a b == 0)) w) := by
  have h := u32_andNot_nat a b ha hb
  go_enter Try.func40, Try.ntmps40
  go_wp2
  go_ret
  exact ⟨ret_bool (by unfold clr; rw [Bool.eq_iff_iff]; simp), 0, rfl⟩
theorem torn_any (was x mask : Nat) (hw : was < 4294967296) (hx : x < 4294967296) (hm : mask < 4294967296) (w : World) :
    Calls Try.prog 41 #[.int .u32 was, .int .u32 x, .int .u32 mask] w (Quiet (.int .u32 (clr was (clr mask x))) w) := by
  have h1 := u32_andNot_nat mask x hm hx
  have h2 := u32_andNot_nat was (mask &&& (4294967295 - x)) hw (Nat.lt_of_le_of_lt Nat.and_le_left hm)
  go_enter Try.func41, Try.ntmps41
  go_wp2
  go_ret
  exact ⟨rfl, 0, rfl⟩
theorem raised_any (was mask : Nat) (hw : was < 4294967296) (hm : mask < 4294967296) (w : World) :
    Calls Try.prog 31 #[.int .u32 was, .int .u32 mask] w (Quiet (.int .u32 (was ||| mask : Nat)) w) := by
  have h1 := u32_or_nat was mask hw hm
  go_enter Try.func31, Try.ntmps31
  go_wp2
  go_ret
  exact ⟨rfl, 0, rfl⟩
theorem bit_clr (a b i : Nat) (ha : a < 4294967296) (hb : b < 4294967296) : (clr a b).testBit i = (a.testBit i && !b.testBit i) := by
  unfold clr
  rw [Nat.testBit_and]
  have e : 4294967295 - b = 2 ^ 32 - (b + 1) := by omega
  rw [e, Nat.testBit_two_pow_sub_succ (by omega)]
  by_cases hi : i < 32
  · simp [hi]
  · have : a.testBit i = false := Nat.testBit_lt_two_pow (Nat.lt_of_lt_of_le ha (by show 2 ^ 32 ≤ 2 ^ i; exact Nat.pow_le_pow_right (by decide) (by omega)))
    simp [this]
theorem clr_lt (a b : Nat) (ha : a < 4294967296) : clr a b < 4294967296 := Nat.lt_of_le_of_lt Nat.and_le_left ha
end Go.Proofs.Ytdpddcmbilipfaa.word
