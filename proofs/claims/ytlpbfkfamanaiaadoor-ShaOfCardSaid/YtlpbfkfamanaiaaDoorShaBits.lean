/- Contracts of layer 3's functions on words, for every 32-bit word. -/
import Derived.Test.YtlpbfkfamanaiaaDoorShaMath
namespace Go.Proofs.YtlpbfkfamanaiaaDoor.sha
open Go.RowKit Go.Proofs.YtlpbfkfamanaiaaDoor.word
set_option linter.unusedVariables false

theorem u32_not (x : Nat) (h : x < 4294967296) : bits .xor .u32 IntKind.u32.max (x : Int) = ((4294967295 - x : Nat) : Int) := by
  have h1 := u32_xor_nat 4294967295 x (by decide) h
  have h2 : 4294967295 ^^^ x = 4294967295 - x := by
    apply Nat.eq_of_testBit_eq
    intro i
    rw [Nat.testBit_xor, show 4294967295 = 2 ^ 32 - 1 from rfl, Nat.testBit_two_pow_sub_one, show 2 ^ 32 - 1 - x = 2 ^ 32 - (x + 1) from by omega, Nat.testBit_two_pow_sub_succ (n := 32) h]
    by_cases hi : i < 32
    · simp [hi]
    · have : x < 2 ^ i := Nat.lt_of_lt_of_le h (Nat.pow_le_pow_right (n := 2) (by decide) (by omega : 32 ≤ i))
      simp [hi, Nat.testBit_lt_two_pow this]
  rw [h2] at h1
  exact h1

theorem rotl_any (x n : Nat) (hx : x < 4294967296) (h1 : 1 ≤ n) (h2 : n ≤ 31) (w : World) :
    Calls Tryd.prog 36 #[.int .u32 x, .int .i64 (-(n : Int))] w (Quiet (.int .u32 (rotr x n)) w) := by
  have hw : IntKind.u64.wrap (-(n : Int)) = (18446744073709551616 - n : Nat) := by simp [IntKind.wrap, IntKind.bits, IntKind.signed]; omega
  have hb : bits .and .u64 ((18446744073709551616 - n : Nat) : Int) 31 = (32 - n : Nat) := by
    rw [show (31 : Int) = ((31 : Nat) : Int) from rfl, u64_and_nat _ _ (by omega) (by decide), show 31 = 2 ^ 5 - 1 from rfl, Nat.and_two_pow_sub_one_eq_mod]
    omega
  have hs : (32 : Int) - (32 - n : Nat) = n := by omega
  go_enter Tryd.func36, Tryd.ntmps36
  go_wp2
  go_ret
  refine ⟨ret_int ?_, 0, rfl⟩
  unfold rotr
  have e1 : (x : Int) * 2 ^ (32 - n) % 4294967296 = ((x * 2 ^ (32 - n) % 4294967296 : Nat) : Int) := by simp
  have e2 : (x : Int) / 2 ^ n = ((x / 2 ^ n : Nat) : Int) := by simp
  rw [e1, e2, u32_or_nat _ _ (mod_lt _) (div_lt n hx), Nat.or_comm]
theorem right_any (x n : Nat) (hx : x < 4294967296) (h1 : 1 ≤ n) (h2 : n ≤ 31) (w : World) :
    Calls Tryd.prog 34 #[.int .u32 x, .int .i64 n] w (Quiet (.int .u32 (rotr x n)) w) := by
  have c := fun w' => rotl_any x n hx h1 h2 w'
  go_enter Tryd.func34, Tryd.ntmps34
  go_wp2_with (go_at_call 36; refine (c _).mono ?_; rintro e w' ⟨rfl, m, rfl⟩)
  go_ret
  exact ⟨rfl, m, rfl⟩
set_option maxHeartbeats 1600000 in
theorem turned_any (x a b c : Nat) (hx : x < 4294967296) (ha : 1 ≤ a ∧ a ≤ 31) (hb : 1 ≤ b ∧ b ≤ 31) (hc : 1 ≤ c ∧ c ≤ 31) (w : World) :
    Calls Tryd.prog 26 #[.int .u32 x, .int .i64 a, .int .i64 b, .int .i64 c] w (Quiet (.int .u32 (three x a b c)) w) := by
  have ca := fun w' => right_any x a hx ha.1 ha.2 w'
  have cb := fun w' => right_any x b hx hb.1 hb.2 w'
  have cc := fun w' => right_any x c hx hc.1 hc.2 w'
  have E := hid (show bits .xor .u32 (bits .xor .u32 (rotr x a) (rotr x b)) (rotr x c) = ((three x a b c : Nat) : Int) by
    unfold three; rw [u32_xor_nat _ _ (rotr_lt a hx) (rotr_lt b hx), u32_xor_nat _ _ (xor_lt (rotr_lt a hx) (rotr_lt b hx)) (rotr_lt c hx)])
  generalize rotr x a = ra at *
  generalize rotr x b = rb at *
  generalize rotr x c = rc at *
  go_enter Tryd.func26, Tryd.ntmps26
  go_wp2_with (first
    | (go_at_call 34; (with_reducible refine (ca _).mono ?_); rintro e w' ⟨rfl, m, rfl⟩)
    | (go_at_call 34; (with_reducible refine (cb _).mono ?_); rintro e w' ⟨rfl, m, rfl⟩)
    | (go_at_call 34; (with_reducible refine (cc _).mono ?_); rintro e w' ⟨rfl, m, rfl⟩))
  go_ret
  exact ⟨ret_int E.out, _, rfl⟩
set_option maxHeartbeats 1600000 in
theorem shifted_any (x a b c : Nat) (hx : x < 4294967296) (ha : 1 ≤ a ∧ a ≤ 31) (hb : 1 ≤ b ∧ b ≤ 31) (hc : c ≤ 31) (w : World) :
    Calls Tryd.prog 33 #[.int .u32 x, .int .i64 a, .int .i64 b, .int .i64 c] w (Quiet (.int .u32 (twoAnd x a b c)) w) := by
  have ca := fun w' => right_any x a hx ha.1 ha.2 w'
  have cb := fun w' => right_any x b hx hb.1 hb.2 w'
  have E := hid (show bits .xor .u32 (bits .xor .u32 (rotr x a) (rotr x b)) ((x : Int) / 2 ^ c) = ((twoAnd x a b c : Nat) : Int) by
    unfold twoAnd; rw [u32_xor_nat _ _ (rotr_lt a hx) (rotr_lt b hx), show (x : Int) / 2 ^ c = ((x / 2 ^ c : Nat) : Int) by simp, u32_xor_nat _ _ (xor_lt (rotr_lt a hx) (rotr_lt b hx)) (div_lt c hx)])
  generalize rotr x a = ra at *
  generalize rotr x b = rb at *
  go_enter Tryd.func33, Tryd.ntmps33
  go_wp2
  go_quiet (first
    | (go_at_call 34; (with_reducible exact quietAt (ca _)))
    | (go_at_call 34; (with_reducible exact quietAt (cb _))))
  go_wp2
  go_ret
  exact ⟨ret_int E.out, _, rfl⟩
theorem choice_any (e f g : Nat) (he : e < 4294967296) (hf : f < 4294967296) (hg : g < 4294967296) (w : World) :
    Calls Tryd.prog 27 #[.int .u32 e, .int .u32 f, .int .u32 g] w (Quiet (.int .u32 (ch e f g)) w) := by
  have hn := u32_not e he
  have E := hid (show bits .xor .u32 (bits .and .u32 (e : Int) (f : Int)) (bits .and .u32 ((4294967295 - e : Nat) : Int) (g : Int)) = ((ch e f g : Nat) : Int) by
    unfold ch; rw [u32_and_nat _ _ he hf, u32_and_nat _ _ (by omega) hg, u32_xor_nat _ _ (and_lt he) (and_lt (by omega))])
  go_enter Tryd.func27, Tryd.ntmps27
  go_wp2
  go_ret
  exact ⟨ret_int E.out, 0, rfl⟩
theorem majority_any (a b c : Nat) (ha : a < 4294967296) (hb : b < 4294967296) (hc : c < 4294967296) (w : World) :
    Calls Tryd.prog 28 #[.int .u32 a, .int .u32 b, .int .u32 c] w (Quiet (.int .u32 (maj a b c)) w) := by
  have E := hid (show bits .xor .u32 (bits .xor .u32 (bits .and .u32 (a : Int) (b : Int)) (bits .and .u32 (a : Int) (c : Int))) (bits .and .u32 (b : Int) (c : Int)) = ((maj a b c : Nat) : Int) by
    unfold maj; rw [u32_and_nat _ _ ha hb, u32_and_nat _ _ ha hc, u32_and_nat _ _ hb hc, u32_xor_nat _ _ (and_lt ha) (and_lt ha), u32_xor_nat _ _ (xor_lt (and_lt ha) (and_lt ha)) (and_lt hb)])
  go_enter Tryd.func28, Tryd.ntmps28
  go_wp2
  go_ret
  exact ⟨ret_int E.out, 0, rfl⟩
end Go.Proofs.YtlpbfkfamanaiaaDoor.sha
