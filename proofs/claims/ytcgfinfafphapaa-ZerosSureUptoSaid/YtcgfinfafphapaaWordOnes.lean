/- Contracts of bits.OnesCount32 and of Ones of layer 1 (word), for every 32-bit argument. -/
import Derived.Test.YtcgfinfafphapaaKit
namespace Go.Proofs.Ytcgfinfafphapaa.word
open Go.RowKit
set_option linter.unusedVariables false

/-- how many of the lowest k bits of x are 1 -/
def onesN : Nat → Nat → Nat
  | 0, _ => 0
  | k + 1, x => x % 2 + onesN k (x / 2)
theorem onesN_le (k x : Nat) : onesN k x ≤ k := by
  induction k generalizing x with
  | zero => simp [onesN]
  | succ k ih => have := ih (x / 2); simp only [onesN]; omega
theorem onesN_add (a b x : Nat) : onesN (a + b) x = onesN a x + onesN b (x / 2 ^ a) := by
  induction a generalizing x with
  | zero => simp [onesN]
  | succ a ih =>
    rw [show a + 1 + b = (a + b) + 1 from by omega]
    simp only [onesN, ih]
    rw [Nat.div_div_eq_div_mul, show 2 * 2 ^ a = 2 ^ (a + 1) from by rw [Nat.pow_succ, Nat.mul_comm]]
    omega
theorem onesN_mod (k x : Nat) : onesN k (x % 2 ^ k) = onesN k x := by
  induction k generalizing x with
  | zero => simp [onesN]
  | succ k ih =>
    simp only [onesN]
    rw [← ih (x / 2), show x % 2 ^ (k + 1) % 2 = x % 2 from by rw [Nat.pow_succ, Nat.mul_comm]; exact Nat.mod_mul_right_mod ..,
      show x % 2 ^ (k + 1) / 2 = x / 2 % 2 ^ k from by rw [Nat.pow_succ, Nat.mul_comm, Nat.mod_mul_right_div_self]]
/-- how many bits of a 32-bit word are 1 -/
def ones (x : Nat) : Nat := onesN 32 x
theorem ones_le (x : Nat) : ones x ≤ 32 := onesN_le 32 x
theorem ones_bytes (x : Nat) (hx : x < 4294967296) : ones x = onesN 8 (x / 16777216) + onesN 8 (x / 65536 % 256) + onesN 8 (x / 256 % 256) + onesN 8 (x % 256) := by
  have h1 := onesN_add 8 24 x
  have h2 := onesN_add 8 16 (x / 2 ^ 8)
  have h3 := onesN_add 8 8 (x / 2 ^ 8 / 2 ^ 8)
  have m0 := onesN_mod 8 x
  have m1 := onesN_mod 8 (x / 256)
  have m2 := onesN_mod 8 (x / 65536)
  rw [Nat.div_div_eq_div_mul] at h2 h3
  rw [Nat.div_div_eq_div_mul] at h3
  simp only [Nat.reducePow, Nat.reduceMul, Nat.reduceAdd] at h1 h2 h3 m0 m1 m2
  unfold ones
  omega
set_option maxRecDepth 1000000 in
theorem pop_any (x : Nat) (hx : x < 4294967296) (w : World) :
    Calls Try.prog 24 #[.int .u32 x] w (Quiet (.int .i64 (ones x)) w) := by
  have a1 := u32_and_nat (x / 65536) 255 (by omega) (by omega)
  have a2 := u32_and_nat (x / 256) 255 (by omega) (by omega)
  have a3 := u32_and_nat x 255 (by omega) (by omega)
  have e1 : x / 65536 &&& 255 = x / 65536 % 256 := Nat.and_two_pow_sub_one_eq_mod (x / 65536) 8
  have e2 : x / 256 &&& 255 = x / 256 % 256 := Nat.and_two_pow_sub_one_eq_mod (x / 256) 8
  have e3 : x &&& 255 = x % 256 := Nat.and_two_pow_sub_one_eq_mod x 8
  rw [e1] at a1
  rw [e2] at a2
  rw [e3] at a3
  clear e1 e2 e3
  simp only [Int.natCast_ediv, Int.natCast_emod, Int.cast_ofNat_Int] at a1 a2 a3
  go_enter Try.func24, Try.ntmps24
  go_wp2
  generalize hT : ByteArray.mk _ = T
  have hs : T.size = 256 := by rw [← hT]; decide +kernel
  have ht0 : ∀ i : Fin 256, (T.data.getD i.val 0).toNat = onesN 8 i.val := by rw [← hT]; decide +kernel
  have ht : ∀ (i : Nat) (h : i < T.size), i < 256 → (T[i]'h).toNat = onesN 8 i := fun i h hi => by
    rw [← ht0 ⟨i, hi⟩]
    have h' : i < T.data.size := h
    simp only [Array.getD, h', dif_pos]
    rfl
  have i1 : (x : Int) / 16777216 < T.size := by omega
  have i2 : (x : Int) / 65536 % 256 < T.size := by omega
  have i3 : (x : Int) / 256 % 256 < T.size := by omega
  have i4 : (x : Int) % 256 < T.size := by omega
  have j1 : 0 ≤ (x : Int) / 16777216 := by omega
  have j2 : 0 ≤ (x : Int) / 65536 % 256 := by omega
  have j3 : 0 ≤ (x : Int) / 256 % 256 := by omega
  have j4 : 0 ≤ (x : Int) % 256 := by omega
  have HT := hid ht
  have HS := hid hs
  clear hT hs ht ht0
  go_quiet (fail)
  go_wp2
  go_ret
  have b1 := HT.out (x / 16777216) (by omega) (by omega)
  have b2 := HT.out (x / 65536 % 256) (by omega) (by omega)
  have b3 := HT.out (x / 256 % 256) (by omega) (by omega)
  have b4 := HT.out (x % 256) (by omega) (by omega)
  refine ⟨ret_int ?_, nq, rfl⟩
  rw [b1, b2, b3, b4, ones_bytes x hx]
  have := onesN_le 8 (x / 16777216)
  have := onesN_le 8 (x / 65536 % 256)
  have := onesN_le 8 (x / 256 % 256)
  have := onesN_le 8 (x % 256)
  omega
theorem ones_any (x : Nat) (hx : x < 4294967296) (w : World) :
    Calls Try.prog 22 #[.int .u32 x] w (Quiet (.int .i64 (ones x)) w) := by
  go_enter Try.func22, Try.ntmps22
  go_wp2_with (go_at_call 24; refine (pop_any x hx _).mono ?_; rintro e w' ⟨rfl, n, rfl⟩)
  go_ret
  exact ⟨rfl, n, rfl⟩
end Go.Proofs.Ytcgfinfafphapaa.word
