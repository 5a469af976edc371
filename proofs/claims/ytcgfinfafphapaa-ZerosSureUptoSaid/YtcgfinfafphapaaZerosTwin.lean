/- Contracts of twin, Twin and Told of layer 2 (zeros) and of the reference's Twin and Told. -/
import Derived.Test.YtcgfinfafphapaaOpen
namespace Go.Proofs.Ytcgfinfafphapaa.zeros
open Go.RowKit
set_option linter.unusedVariables false

/-- the number in the lower half, its complement in the upper one -/
def twinN (n : Nat) : Nat := (65535 - n) * 65536 + n
theorem u16_not_nat (x : Nat) (h : x < 65536) : bits .xor .u16 IntKind.u16.max (x : Int) = ((65535 - x : Nat) : Int) := by
  have h1 := u16_xor_nat 65535 x (by decide) h
  have h2 : 65535 ^^^ x = 65535 - x := by
    apply Nat.eq_of_testBit_eq
    intro i
    rw [Nat.testBit_xor, show 65535 = 2 ^ 16 - 1 from rfl, Nat.testBit_two_pow_sub_one, show 2 ^ 16 - 1 - x = 2 ^ 16 - (x + 1) from by omega, Nat.testBit_two_pow_sub_succ (n := 16) h]
    by_cases hi : i < 16
    · simp [hi]
    · have : x < 2 ^ i := Nat.lt_of_lt_of_le h (Nat.pow_le_pow_right (n := 2) (by decide) (by omega : 16 ≤ i))
      simp [hi, Nat.testBit_lt_two_pow this]
  rw [h2] at h1
  exact h1
theorem twin_any (n : Nat) (hn : n < 65536) (w : World) :
    Calls Try.prog 21 #[.int .u16 n] w (Quiet (.int .u32 (twinN n)) w) := by
  have hx := u16_not_nat n hn
  have hy : 65535 - n < 65536 := by omega
  have ho := u32_or_nat ((65535 - n) * 65536) n (by omega) (by omega)
  have hj := nat_join 16 ((65535 - n) * 65536) n (by omega) (by omega)
  have HT : Hid (twinN n = (65535 - n) * 65536 + n) := rfl
  rw [hj] at ho
  clear hj
  generalize 65535 - n = y at *
  generalize twinN n = t at *
  have HO := hid ho
  clear ho
  go_enter Try.func21, Try.ntmps21
  go_wp2
  go_ret
  refine ⟨ret_int ?_, 0, rfl⟩
  have e : (y : Int) % 4294967296 * 65536 % 4294967296 = ((y * 65536 : Nat) : Int) := by omega
  rw [e, HO.out, HT.out]
theorem twinN_lt (n : Nat) (h : n < 65536) : twinN n < 4294967296 := by unfold twinN; omega
theorem twin_yes (n : Nat) (hn : n < 65536) (w : World) :
    Calls Try.prog 17 #[.int .i64 n] w (Quiet (.tuple #[.int .u32 (twinN n), .int .i64 0]) w) := by
  have c := fun w' => twin_any n hn w'
  generalize twinN n = t at *
  go_enter Try.func17, Try.ntmps17
  go_wp2_with (go_at_call 21; (with_reducible refine (c _).mono ?_); rintro e w' ⟨rfl, m2, rfl⟩)
  go_ret2
  exact ⟨rfl, _, rfl⟩
theorem twin_no (n : Int) (h : n < 0 ∨ 65535 < n) (w : World) :
    Calls Try.prog 17 #[.int .i64 n] w (Quiet (.tuple #[.int .u32 0, .int .i64 2]) w) := by
  rcases h with h | h
  · go_enter Try.func17, Try.ntmps17
    go_wp2
    go_ret2
    exact ⟨rfl, 0, rfl⟩
  · have h' : ¬ n < 0 := by omega
    go_enter Try.func17, Try.ntmps17
    go_wp2
    go_ret2
    exact ⟨rfl, 0, rfl⟩

/-- what Told answers -/
def toldN (x : Nat) : Nat × Bool := if twinN (x % 65536) = x then (x % 65536, true) else (0, false)
def toldV (x : Nat) : Value := .tuple #[.int .i64 ((toldN x).1 : Int), .bool (toldN x).2]
theorem told_any (x : Nat) (hx : x < 4294967296) (w : World) :
    Calls Try.prog 15 #[.int .u32 x] w (Quiet (toldV x) w) := by
  have hw : IntKind.u16.wrap (x : Int) = ((x % 65536 : Nat) : Int) := by simp [IntKind.wrap, IntKind.bits, IntKind.signed]
  have hm : x % 65536 < 65536 := by omega
  have c := fun w' => twin_any (x % 65536) hm w'
  have ht : twinN (x % 65536) < 4294967296 := twinN_lt _ (by omega)
  unfold toldV toldN
  generalize x % 65536 = m at *
  by_cases h : twinN m = x
  · rw [if_pos h]
    rw [h] at c
    have hq : ((x : Int) != x) = false := by simp
    clear h ht
    go_enter Try.func15, Try.ntmps15
    go_wp2_with (go_at_call 21; (with_reducible refine (c _).mono ?_); rintro e w' ⟨rfl, m2, rfl⟩)
    go_ret2
    exact ⟨rfl, _, rfl⟩
  · rw [if_neg h]
    generalize twinN m = t at *
    have hq : ((x : Int) != t) = true := by rw [bne_iff_ne]; omega
    clear h ht
    go_enter Try.func15, Try.ntmps15
    go_wp2_with (go_at_call 21; (with_reducible refine (c _).mono ?_); rintro e w' ⟨rfl, m2, rfl⟩)
    go_ret2
    exact ⟨rfl, _, rfl⟩
end Go.Proofs.Ytcgfinfafphapaa.zeros
