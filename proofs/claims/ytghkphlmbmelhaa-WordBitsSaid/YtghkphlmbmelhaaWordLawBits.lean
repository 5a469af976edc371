/- WordBits: for every three 32-bit words Ones, Within, Torn and Raised answer as the reference does. No condition. -/
import Derived.Test.YtghkphlmbmelhaaWordAwake
import Derived.Test.YtghkphlmbmelhaaWordRefBits
import Derived.Test.YtghkphlmbmelhaaWordLawBetween
namespace Go.Proofs.Ytghkphlmbmelhaa.wordBits
open Go.RowKit Go.Proofs.Ytghkphlmbmelhaa.word
set_option linter.unusedVariables false

theorem bit01 (x i : Nat) : x / 2 ^ i % 2 = if x.testBit i then 1 else 0 := by
  rw [Nat.testBit_eq_decide_div_mod_eq]
  by_cases h : x / 2 ^ i % 2 = 1
  · simp [h]
  · simp [h]; omega
theorem bits0 (was x i : Nat) (hw : was < 4294967296) (hx : x < 4294967296) : clr was x / 2 ^ i % 2 = setBit 0 (was / 2 ^ i % 2) (x / 2 ^ i % 2) (0 / 2 ^ i % 2) := by
  simp only [bit01, bit_clr was x i hw hx, setBit]
  cases was.testBit i <;> cases x.testBit i <;> simp
theorem bits1 (was x m i : Nat) (hw : was < 4294967296) (hx : x < 4294967296) (hm : m < 4294967296) : clr was (clr m x) / 2 ^ i % 2 = setBit 1 (was / 2 ^ i % 2) (x / 2 ^ i % 2) (m / 2 ^ i % 2) := by
  simp only [bit01, bit_clr was _ i hw (clr_lt m x hm), bit_clr m x i hm hx, setBit]
  cases was.testBit i <;> cases x.testBit i <;> cases m.testBit i <;> simp
theorem bits2 (was m i : Nat) : (was ||| m) / 2 ^ i % 2 = setBit 2 (was / 2 ^ i % 2) (0 / 2 ^ i % 2) (m / 2 ^ i % 2) := by
  simp only [bit01, Nat.testBit_or, setBit]
  cases was.testBit i <;> cases m.testBit i <;> simp

theorem walk (was x mask : Nat) (w : World) (hw : was < 4294967296) (hx : x < 4294967296) (hm : mask < 4294967296) :
    Calls Try.prog 4 #[.int .u32 was, .int .u32 x, .int .u32 mask] w (Yes w) := by
  have o1 := fun w' => ones_any was hw w'
  have o2 := fun w' => refOnes_any was hw w'
  have d1 := fun w' => within_any was x hw hx w'
  have t1 := fun w' => torn_any was x mask hw hx hm w'
  have r1 := fun w' => raised_any was mask hw hm w'
  have e0 : ∀ w', Calls Try.prog 18 #[.int .u32 was, .int .u32 x, .int .u32 0, .int .i64 0] w' (Quiet (.int .u32 (clr was x)) w') := fun w' =>
    refBits_any was x 0 (clr was x) 0 (Or.inl rfl) hw hx (by decide) (clr_lt _ _ hw) (fun i _ => bits0 was x i hw hx) w'
  have e1 : ∀ w', Calls Try.prog 18 #[.int .u32 was, .int .u32 x, .int .u32 mask, .int .i64 1] w' (Quiet (.int .u32 (clr was (clr mask x))) w') := fun w' =>
    refBits_any was x mask _ 1 (Or.inr (Or.inl rfl)) hw hx hm (clr_lt _ _ hw) (fun i _ => bits1 was x mask i hw hx hm) w'
  have e2 : ∀ w', Calls Try.prog 18 #[.int .u32 was, .int .u32 0, .int .u32 mask, .int .i64 2] w' (Quiet (.int .u32 (was ||| mask : Nat)) w') := fun w' =>
    refBits_any was 0 mask _ 2 (Or.inr (Or.inr rfl)) hw (by decide) hm (Nat.or_lt_two_pow (n := 32) hw hm) (fun i _ => bits2 was mask i) w'
  have hq : (((clr was x : Nat) : Int) == 0) = (clr was x == 0) := by rw [Bool.eq_iff_iff]; simp
  generalize clr was (clr mask x) = ct at *
  generalize clr was x = cw at *
  generalize (was ||| mask) = ra at *
  generalize ones was = ow at *
  obtain ⟨q, hq1⟩ : ∃ q : Bool, q = (cw == 0) := ⟨_, rfl⟩
  rw [← hq1] at hq d1
  clear hq1
  go_enter Try.func4, Try.ntmps4
  go_wp2_with (first
    | (go_at_call 15; (with_reducible refine (o1 _).mono ?_); rintro e w' ⟨rfl, k, rfl⟩)
    | (go_at_call 16; (with_reducible refine (o2 _).mono ?_); rintro e w' ⟨rfl, k, rfl⟩)
    | (go_at_call 17; (with_reducible refine (d1 _).mono ?_); rintro e w' ⟨rfl, k, rfl⟩)
    | (go_at_call 19; (with_reducible refine (t1 _).mono ?_); rintro e w' ⟨rfl, k, rfl⟩)
    | (go_at_call 20; (with_reducible refine (r1 _).mono ?_); rintro e w' ⟨rfl, k, rfl⟩)
    | (go_at_call 18; (first | (with_reducible refine (e0 _).mono ?_) | (with_reducible refine (e1 _).mono ?_) | (with_reducible refine (e2 _).mono ?_)); rintro e w' ⟨rfl, k, rfl⟩)
    | (go_at_call 14; refine (awake_any _).mono ?_; rintro e w' ⟨rfl, hbe⟩))
  go_ret
  exact ⟨rfl, (below_drewN (Below.refl _ _) _).trans hbe⟩
end Go.Proofs.Ytghkphlmbmelhaa.wordBits
