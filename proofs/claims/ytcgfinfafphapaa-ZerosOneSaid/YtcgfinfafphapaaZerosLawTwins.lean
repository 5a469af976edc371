/- ZerosTwins and ZerosOne: for every number and every word, twins answer as the reference does, and a twin some of whose bits went up is none. No condition. -/
import Derived.Test.YtcgfinfafphapaaZerosAwake
import Derived.Test.YtcgfinfafphapaaZerosTwinRef
namespace Go.Proofs.Ytcgfinfafphapaa.zeros
open Go.RowKit
set_option linter.unusedVariables false
theorem told_twin (n : Nat) (h : n < 65536) : toldN (twinN n) = (n, true) := by
  have e : twinN n % 65536 = n := by unfold twinN; omega
  unfold toldN
  rw [e, if_pos rfl]
theorem told_up (n up : Nat) (h : n < 65536) (hne : twinN n ||| up ≠ twinN n) : toldN (twinN n ||| up) = (0, false) := by
  unfold toldN
  rw [if_neg]
  intro he
  apply hne
  have h1 : (twinN n ||| up) % 2 ^ 16 = twinN n % 2 ^ 16 ||| up % 2 ^ 16 := Nat.or_mod_two_pow
  have h2 : (twinN n ||| up) / 2 ^ 16 = twinN n / 2 ^ 16 ||| up / 2 ^ 16 := Nat.or_div_two_pow
  have l1 : twinN n % 2 ^ 16 ≤ twinN n % 2 ^ 16 ||| up % 2 ^ 16 := Nat.left_le_or
  have l2 : twinN n / 2 ^ 16 ≤ twinN n / 2 ^ 16 ||| up / 2 ^ 16 := Nat.left_le_or
  rw [← h1] at l1
  rw [← h2] at l2
  generalize twinN n ||| up = y at *
  unfold twinN at *
  simp only [Nat.reducePow] at *
  omega
end Go.Proofs.Ytcgfinfafphapaa.zeros
namespace Go.Proofs.Ytcgfinfafphapaa.zerosTwins
open Go.RowKit Go.Proofs.Ytcgfinfafphapaa.zeros
set_option linter.unusedVariables false
set_option maxHeartbeats 1600000 in
theorem walk (n : Int) (x : Nat) (w : World) (h1 : -9223372036854775808 ≤ n) (h2 : n ≤ 9223372036854775807) (hx : x < 4294967296) :
    Calls Try.prog 4 #[.int .i64 n, .int .u32 x] w (Yes w) := by
  have cx := fun w' => told_any x hx w'
  have cr := fun w' => refTold_any x hx w'
  unfold toldV at cx cr
  generalize (toldN x).1 = a at *
  generalize (toldN x).2 = b at *
  have q1 : ((a : Int) != a) = false := by simp
  by_cases hn : n < 0 ∨ 65535 < n
  · have ct := fun w' => twin_no n hn w'
    have hb : (b != b) = false := by cases b <;> rfl
    rcases hn with hn | hn
    · go_enter Try.func4, Try.ntmps4
      go_wp2_with (first
        | (go_at_call 15; ((with_reducible refine (cx _).mono ?_); rintro e w' ⟨rfl, m1, rfl⟩))
        | (go_at_call 16; ((with_reducible refine (cr _).mono ?_); rintro e w' ⟨rfl, m2, rfl⟩))
        | (go_at_call 17; ((with_reducible refine (ct _).mono ?_); rintro e w' ⟨rfl, m3, rfl⟩))
        | (go_at_call 14; ((with_reducible refine (awake_any _).mono ?_); rintro e w' ⟨rfl, hbe⟩)))
      go_ret
      exact ⟨rfl, Below.trans (by repeat (first | exact Below.refl _ _ | apply below_drewN)) hbe⟩
    · have hn' : ¬ n < 0 := by omega
      go_enter Try.func4, Try.ntmps4
      go_wp2_with (first
        | (go_at_call 15; ((with_reducible refine (cx _).mono ?_); rintro e w' ⟨rfl, m1, rfl⟩))
        | (go_at_call 16; ((with_reducible refine (cr _).mono ?_); rintro e w' ⟨rfl, m2, rfl⟩))
        | (go_at_call 17; ((with_reducible refine (ct _).mono ?_); rintro e w' ⟨rfl, m3, rfl⟩))
        | (go_at_call 14; ((with_reducible refine (awake_any _).mono ?_); rintro e w' ⟨rfl, hbe⟩)))
      go_ret
      exact ⟨rfl, Below.trans (by repeat (first | exact Below.refl _ _ | apply below_drewN)) hbe⟩
  · obtain ⟨k, rfl⟩ := Int.eq_ofNat_of_zero_le (by omega : 0 ≤ n)
    have hk : k < 65536 := by omega
    have ct := fun w' => twin_yes k hk w'
    have cf := fun w' => refTwin_any k hk w'
    have c2 := fun w' => told_any (twinN k) (twinN_lt k hk) w'
    unfold toldV at c2
    rw [told_twin k hk] at c2
    have hb : (b != b) = false := by cases b <;> rfl
    have ht := twinN_lt k hk
    generalize twinN k = t at *
    have q2 : ((t : Int) == t) = true := by simp
    have q3 : ((k : Int) == k) = true := by simp
    go_enter Try.func4, Try.ntmps4
    go_wp2_with (first
      | (go_at_call 15; ((with_reducible refine (cx _).mono ?_); rintro e w' ⟨rfl, m1, rfl⟩))
      | (go_at_call 15; ((with_reducible refine (c2 _).mono ?_); rintro e w' ⟨rfl, m4, rfl⟩))
      | (go_at_call 16; ((with_reducible refine (cr _).mono ?_); rintro e w' ⟨rfl, m2, rfl⟩))
      | (go_at_call 17; ((with_reducible refine (ct _).mono ?_); rintro e w' ⟨rfl, m3, rfl⟩))
      | (go_at_call 18; ((with_reducible refine (cf _).mono ?_); rintro e w' ⟨rfl, m5, rfl⟩))
      | (go_at_call 14; ((with_reducible refine (awake_any _).mono ?_); rintro e w' ⟨rfl, hbe⟩)))
    go_ret
    exact ⟨rfl, Below.trans (by repeat (first | exact Below.refl _ _ | apply below_drewN)) hbe⟩
end Go.Proofs.Ytcgfinfafphapaa.zerosTwins
namespace Go.Proofs.Ytcgfinfafphapaa.zerosOne
open Go.RowKit Go.Proofs.Ytcgfinfafphapaa.zeros
set_option linter.unusedVariables false
set_option maxHeartbeats 1600000 in
theorem walk (n : Int) (up : Nat) (w : World) (h1 : -9223372036854775808 ≤ n) (h2 : n ≤ 9223372036854775807) (hx : up < 4294967296) :
    Calls Try.prog 6 #[.int .i64 n, .int .u32 up] w (Yes w) := by
  by_cases hn : n < 0 ∨ 65535 < n
  · have ct := fun w' => twin_no n hn w'
    rcases hn with hn | hn
    · go_enter Try.func6, Try.ntmps6
      go_wp2_with (first
        | (go_at_call 17; ((with_reducible refine (ct _).mono ?_); rintro e w' ⟨rfl, m3, rfl⟩))
        | (go_at_call 14; ((with_reducible refine (awake_any _).mono ?_); rintro e w' ⟨rfl, hbe⟩)))
      go_ret
      exact ⟨rfl, Below.trans (by repeat (first | exact Below.refl _ _ | apply below_drewN)) hbe⟩
    · have hn' : ¬ n < 0 := by omega
      go_enter Try.func6, Try.ntmps6
      go_wp2_with (first
        | (go_at_call 17; ((with_reducible refine (ct _).mono ?_); rintro e w' ⟨rfl, m3, rfl⟩))
        | (go_at_call 14; ((with_reducible refine (awake_any _).mono ?_); rintro e w' ⟨rfl, hbe⟩)))
      go_ret
      exact ⟨rfl, Below.trans (by repeat (first | exact Below.refl _ _ | apply below_drewN)) hbe⟩
  · obtain ⟨k, rfl⟩ := Int.eq_ofNat_of_zero_le (by omega : 0 ≤ n)
    have hk : k < 65536 := by omega
    have ct := fun w' => twin_yes k hk w'
    have ht := twinN_lt k hk
    have hy : twinN k ||| up < 4294967296 := Nat.or_lt_two_pow (n := 32) ht hx
    have c2 := fun w' => told_any (twinN k ||| up) hy w'
    have ho := u32_or_nat (twinN k) up ht hx
    unfold toldV at c2
    by_cases he : twinN k ||| up = twinN k
    · rw [he, told_twin k hk] at c2
      rw [he] at ho
      clear he hy
      generalize twinN k = t at *
      have q2 : ((t : Int) == t) = true := by simp
      have q3 : ((k : Int) == k) = true := by simp
      go_enter Try.func6, Try.ntmps6
      go_wp2_with (first
        | (go_at_call 15; ((with_reducible refine (c2 _).mono ?_); rintro e w' ⟨rfl, m4, rfl⟩))
        | (go_at_call 17; ((with_reducible refine (ct _).mono ?_); rintro e w' ⟨rfl, m3, rfl⟩))
        | (go_at_call 14; ((with_reducible refine (awake_any _).mono ?_); rintro e w' ⟨rfl, hbe⟩)))
      go_ret
      exact ⟨rfl, Below.trans (by repeat (first | exact Below.refl _ _ | apply below_drewN)) hbe⟩
    · rw [told_up k up hk he] at c2
      generalize twinN k ||| up = y at *
      generalize twinN k = t at *
      have q2 : ((y : Int) == t) = false := by rw [beq_eq_false_iff_ne]; omega
      clear he
      go_enter Try.func6, Try.ntmps6
      go_wp2_with (first
        | (go_at_call 15; ((with_reducible refine (c2 _).mono ?_); rintro e w' ⟨rfl, m4, rfl⟩))
        | (go_at_call 17; ((with_reducible refine (ct _).mono ?_); rintro e w' ⟨rfl, m3, rfl⟩))
        | (go_at_call 14; ((with_reducible refine (awake_any _).mono ?_); rintro e w' ⟨rfl, hbe⟩)))
      go_ret
      exact ⟨rfl, Below.trans (by repeat (first | exact Below.refl _ _ | apply below_drewN)) hbe⟩
end Go.Proofs.Ytcgfinfafphapaa.zerosOne
