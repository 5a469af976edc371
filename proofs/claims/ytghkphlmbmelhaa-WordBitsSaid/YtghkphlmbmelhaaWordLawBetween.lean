/- WordBetween: for every three 32-bit words a torn write lies between what was and what was to be, and an erasure takes no bit. No condition. -/
import Derived.Test.YtghkphlmbmelhaaWordAwake
namespace Go.Proofs.Ytghkphlmbmelhaa.word
open Go.RowKit
theorem bit_clr (a b i : Nat) (ha : a < 4294967296) (hb : b < 4294967296) : (clr a b).testBit i = (a.testBit i && !b.testBit i) := by
  unfold clr
  rw [Nat.testBit_and]
  have e : 4294967295 - b = 2 ^ 32 - (b + 1) := by omega
  rw [e, Nat.testBit_two_pow_sub_succ (by omega)]
  by_cases hi : i < 32
  · simp [hi]
  · have : a.testBit i = false := Nat.testBit_lt_two_pow (Nat.lt_of_lt_of_le ha (by show 2 ^ 32 ≤ 2 ^ i; exact Nat.pow_le_pow_right (by decide) (by omega)))
    simp [this]
theorem clr_lt (a b : Nat) (ha : a < 4294967296) : clr a b < 4294967296 := Nat.lt_of_le_of_lt Nat.and_le_left ha
theorem clr_zero {a b : Nat} (ha : a < 4294967296) (hb : b < 4294967296) (h : ∀ i, a.testBit i = true → b.testBit i = true) : clr a b = 0 := by
  apply Nat.eq_of_testBit_eq
  intro i
  rw [bit_clr a b i ha hb, Nat.zero_testBit]
  cases h1 : a.testBit i
  · rfl
  · rw [h i h1]; rfl
theorem onesN_mono (k : Nat) : ∀ a b : Nat, (∀ i, a.testBit i = true → b.testBit i = true) → onesN k a ≤ onesN k b := by
  induction k with
  | zero => intro a b _; exact Nat.le_refl _
  | succ k ih =>
    intro a b h
    have h1 := ih (a / 2) (b / 2) (fun i hi => by
      have := h (i + 1)
      rw [Nat.testBit_succ, Nat.testBit_succ] at this
      exact this hi)
    have h0 := h 0
    rw [Nat.testBit_zero, Nat.testBit_zero] at h0
    simp only [onesN]
    have : a % 2 = 1 → b % 2 = 1 := by simpa using h0
    omega
end Go.Proofs.Ytghkphlmbmelhaa.word
namespace Go.Proofs.Ytghkphlmbmelhaa.wordBetween
open Go.ChangeShapes Go.WideShapes Go.ChangeAt Go.RowKit Go.Proofs.Ytghkphlmbmelhaa.word
set_option linter.unusedVariables false

theorem walk (was x mask : Nat) (w : World) (hw : was < 4294967296) (hx : x < 4294967296) (hm : mask < 4294967296) :
    Calls Try.prog 6 #[.int .u32 was, .int .u32 x, .int .u32 mask] w (Yes w) := by
  obtain ⟨t, ht⟩ : ∃ t, t = clr was (clr mask x) := ⟨_, rfl⟩
  obtain ⟨al, hal⟩ : ∃ al, al = clr was (clr 4294967295 x) := ⟨_, rfl⟩
  have tlt : t < 4294967296 := by rw [ht]; exact clr_lt _ _ hw
  have alt : al < 4294967296 := by rw [hal]; exact clr_lt _ _ hw
  have bt : ∀ i, t.testBit i = (was.testBit i && !(mask.testBit i && !x.testBit i)) := fun i => by
    rw [ht, bit_clr _ _ i hw (clr_lt _ _ hm), bit_clr _ _ i hm hx]
  have b32 : ∀ a i, a < 4294967296 → a.testBit i = true → (4294967295 : Nat).testBit i = true := fun a i ha h => by
    have hi : i < 32 := by
      rcases Nat.lt_or_ge i 32 with h' | h'
      · exact h'
      · rw [Nat.testBit_lt_two_pow (Nat.lt_of_lt_of_le ha (by show 2 ^ 32 ≤ 2 ^ i; exact Nat.pow_le_pow_right (by decide) (by omega)))] at h; cases h
    rw [show (4294967295 : Nat) = 2 ^ 32 - 1 from rfl, Nat.testBit_two_pow_sub_one]; simpa using hi
  have bal : ∀ i, al.testBit i = (was.testBit i && x.testBit i) := fun i => by
    rw [hal, bit_clr _ _ i hw (clr_lt _ _ (by decide)), bit_clr _ _ i (by decide) hx]
    cases h : was.testBit i
    · rfl
    · rw [b32 was i hw h]; simp
  have m1 : clr t was = 0 := clr_zero tlt hw fun i h => by rw [bt] at h; revert h; cases was.testBit i <;> simp
  have m2 : clr al t = 0 := clr_zero alt tlt fun i h => by rw [bal] at h; rw [bt]; revert h; cases was.testBit i <;> cases x.testBit i <;> simp
  have m3 : clr al x = 0 := clr_zero alt hx fun i h => by rw [bal] at h; revert h; cases was.testBit i <;> simp
  have m4 : clr was (clr 0 x) = was := by
    apply Nat.eq_of_testBit_eq; intro i
    rw [bit_clr _ _ i hw (clr_lt _ _ (by decide)), bit_clr _ _ i (by decide) hx]; simp
  have m5 : clr t (clr 4294967295 x) = al := by
    apply Nat.eq_of_testBit_eq; intro i
    rw [bit_clr _ _ i tlt (clr_lt _ _ (by decide)), bit_clr _ _ i (by decide) hx, bt, bal]
    cases h : was.testBit i
    · rfl
    · rw [b32 was i hw h]; cases x.testBit i <;> simp
  have m6 : clr was (was ||| mask) = 0 := clr_zero hw (Nat.or_lt_two_pow (n := 32) hw hm) fun i h => by rw [Nat.testBit_or, h]; rfl
  have m7 : (ones al : Int) ≤ ones was := by
    have := onesN_mono 32 al was (fun i h => by rw [bal] at h; revert h; cases was.testBit i <;> simp)
    unfold ones; omega
  have c1 : ∀ w', Calls Try.prog 19 #[.int .u32 was, .int .u32 x, .int .u32 mask] w' (Quiet (.int .u32 t) w') := fun w' => by rw [ht]; exact torn_any was x mask hw hx hm w'
  have c2 : ∀ w', Calls Try.prog 19 #[.int .u32 was, .int .u32 x, .int .u32 4294967295] w' (Quiet (.int .u32 al) w') := fun w' => by rw [hal]; exact torn_any was x 4294967295 hw hx (by decide) w'
  have c3 : ∀ w', Calls Try.prog 19 #[.int .u32 was, .int .u32 x, .int .u32 0] w' (Quiet (.int .u32 was) w') := fun w' => by have := torn_any was x 0 hw hx (by decide) w'; rwa [m4] at this
  have c4 : ∀ w', Calls Try.prog 19 #[.int .u32 t, .int .u32 x, .int .u32 4294967295] w' (Quiet (.int .u32 al) w') := fun w' => by have := torn_any t x 4294967295 tlt hx (by decide) w'; rwa [m5] at this
  have d1 : ∀ w', Calls Try.prog 17 #[.int .u32 t, .int .u32 was] w' (Quiet (.bool true) w') := fun w' => by have := within_any t was tlt hw w'; rwa [m1] at this
  have d2 : ∀ w', Calls Try.prog 17 #[.int .u32 al, .int .u32 t] w' (Quiet (.bool true) w') := fun w' => by have := within_any al t alt tlt w'; rwa [m2] at this
  have d3 : ∀ w', Calls Try.prog 17 #[.int .u32 al, .int .u32 x] w' (Quiet (.bool true) w') := fun w' => by have := within_any al x alt hx w'; rwa [m3] at this
  have d4 : ∀ w', Calls Try.prog 20 #[.int .u32 was, .int .u32 mask] w' (Quiet (.int .u32 (was ||| mask : Nat)) w') := fun w' => raised_any was mask hw hm w'
  have d5 : ∀ w', Calls Try.prog 17 #[.int .u32 was, .int .u32 (was ||| mask : Nat)] w' (Quiet (.bool true) w') := fun w' => by have := within_any was (was ||| mask) hw (Nat.or_lt_two_pow (n := 32) hw hm) w'; rwa [m6] at this
  have e1 : ∀ w', Calls Try.prog 15 #[.int .u32 al] w' (Quiet (.int .i64 (ones al)) w') := fun w' => ones_any al alt w'
  have e2 : ∀ w', Calls Try.prog 15 #[.int .u32 was] w' (Quiet (.int .i64 (ones was)) w') := fun w' => ones_any was hw w'
  clear ht hal bt b32 bal m1 m2 m3 m4 m5 m6
  generalize (was ||| mask) = ra at *
  generalize ones al = oa at *
  generalize ones was = ow at *
  go_enter Try.func6, Try.ntmps6
  go_wp2_with (first
    | (go_at_call 19; (first | (with_reducible refine (c1 _).mono ?_) | (with_reducible refine (c2 _).mono ?_) | (with_reducible refine (c3 _).mono ?_) | (with_reducible refine (c4 _).mono ?_)); rintro e w' ⟨rfl, k, rfl⟩)
    | (go_at_call 17; (first | (with_reducible refine (d1 _).mono ?_) | (with_reducible refine (d2 _).mono ?_) | (with_reducible refine (d3 _).mono ?_) | (with_reducible refine (d5 _).mono ?_)); rintro e w' ⟨rfl, k, rfl⟩)
    | (go_at_call 20; (with_reducible refine (d4 _).mono ?_); rintro e w' ⟨rfl, k, rfl⟩)
    | (go_at_call 15; (first | (with_reducible refine (e1 _).mono ?_) | (with_reducible refine (e2 _).mono ?_)); rintro e w' ⟨rfl, k, rfl⟩)
    | (go_at_call 14; refine (awake_any _).mono ?_; rintro e w' ⟨rfl, hbe⟩))
  go_ret
  exact ⟨rfl, (below_drewN (Below.refl _ _) _).trans hbe⟩
end Go.Proofs.Ytghkphlmbmelhaa.wordBetween
