/- Contracts of the law's own calls write, wrote and awake. No condition but a row of at most 2^47 bytes. -/
import Derived.Test.YtbgbboldelpjbaaPenSight
import Derived.Test.YtbgbboldelpjbaaPenRefWrite
namespace Go.Proofs.Ytbgbboldelpjbaa.pen
open Go.RowKit Go.Proofs.Ytbgbboldelpjbaa.texts
set_option linter.unusedVariables false

/-- a piece as a value -/
def actV (p : Piece) : Value := .agg #[.int .i64 p.1, .int .i64 p.2.1, .string (strL p.2.2)]
/-- its numbers are such of 64 bits, its text is not too long -/
structure Fit (p : Piece) : Prop where
  k1 : -9223372036854775808 ≤ p.1
  k2 : p.1 ≤ 9223372036854775807
  n1 : -9223372036854775808 ≤ p.2.1
  n2 : p.2.1 ≤ 9223372036854775807
  s : p.2.2.length ≤ 9223372036854775807
/-- the call writes the bytes ys at the end of the pen's row, and its error becomes z -/
def Penned (lo b : Nat) (v : Value) (xs ys : List Nat) (z : Int) (w : World) (e : Ending) (w' : World) : Prop :=
  e = .returned (.tuple #[]) ∧ ∃ v', PenAt lo b v' (xs ++ ys) z w' ∧ Turns w b v w' v'
def errOf (p : Piece) (bad : Int) : Int := if ill p then 2 else bad
theorem own_mono {w : World} {B B' e size n : Nat} {v : Value} {xs : List Value} (h : w.ownsRow B e size v n xs) (hB : B' ≤ B) : w.ownsRow B' e size v n xs := by
  refine ⟨h.1, ?_⟩
  rcases h.2 with h0 | ⟨g, cap, cur, hv, h1, h2⟩
  · exact .inl h0
  · exact .inr ⟨g, cap, cur, hv, Nat.le_trans hB h1, h2⟩
theorem Copies.base {w w1 : World} {xs : List Nat} {e : Ending} {w' : World} (hb : Below w.heap.size w w1) (h : Copies xs w1 e w') : Copies xs w e w' := by
  obtain ⟨v, he, ho, h2⟩ := h
  exact ⟨v, he, own_mono ho hb.size, hb.trans (h2.mono hb.size)⟩

set_option maxRecDepth 8000 in
theorem write_any (lo b : Nat) (v : Value) (xs : List Nat) (bad : Int) (w : World) (h : PenAt lo b v xs bad w) (hlo : lo ≤ w.heap.size) (p : Piece) (hp : Fit p) (hn : xs.length + 10 + p.2.2.length ≤ 140737488355328) :
    Calls Try.prog 8 #[.pointer (some ⟨b, 0, none⟩), actV p] w (Penned lo b v xs (enc p) (errOf p bad) w) := by
  obtain ⟨k, n, s⟩ := p
  obtain ⟨k1, k2, n1, n2, hs⟩ := hp
  simp only at k1 k2 n1 n2 hs hn
  obtain ⟨w0, hw0⟩ : ∃ w0, Hid (w.alloc (.cells #[.int .i64 k, .int .i64 n, .string (strL s)] 28) = w0) := ⟨_, rfl⟩
  have hb0 : Below w.heap.size w w0 := by rw [← hw0.out]; exact (Below.refl _ _).alloc (Nat.le_refl _) _
  have hP := h.later hb0
  have hlo0 := Nat.le_trans hlo hb0.size
  have hB : Hid (∀ ys z e w', Penned lo b v xs ys z w0 e w' → Penned lo b v xs ys z w e w') := fun ys z e w' ⟨he, v', h1, h2⟩ => ⟨he, v', h1, (turns_later hb0).trans h2⟩
  unfold actV
  simp only []
  have ha := i64_low8 n
  have ha2 := i64_low32 n
  by_cases h0 : k = 0
  · have c1 := byte_any lo b v xs bad w0 hP hlo0 (n % 256).toNat (by omega) (by omega)
    rw [Int.toNat_of_nonneg (Int.emod_nonneg _ (by omega)), ← hw0.out] at c1
    rw [show enc (k, n, s) = [(n % 256).toNat] from if_pos h0, show errOf (k, n, s) bad = bad from if_neg (by simp [ill]; omega)]
    have q0 : (k == 0) = true := by rw [beq_iff_eq]; exact h0
    clear h hP h0
    go_enter Try.func8, Try.ntmps8
    go_wp2_with (go_at_call 27; (with_reducible refine c1.mono ?_); clear c1; rintro e w2 ⟨rfl, v2, hp2, ht2⟩)
    rw [hw0.out] at ht2
    exact ret0 rfl rfl (hB.out _ _ _ _ ⟨rfl, v2, hp2, ht2⟩)
  · have q0 : (k == 0) = false := by rw [beq_eq_false_iff_ne]; exact h0
    by_cases h1 : k = 1
    · have q1 : (k == 1) = true := by rw [beq_iff_eq]; exact h1
      by_cases hneg : n < 0
      · have c1 := count_neg lo b v xs bad w0 hP n n1 hneg
        rw [← hw0.out] at c1
        rw [show enc (k, n, s) = [] from (if_neg h0).trans ((if_pos h1).trans (if_pos hneg)), show errOf (k, n, s) bad = 2 from if_pos (by simp [ill]; omega)]
        clear h hP h0 h1 hneg
        go_enter Try.func8, Try.ntmps8
        go_wp2_with (go_at_call 28; (with_reducible refine c1.mono ?_); clear c1; rintro e w2 ⟨rfl, hp2, ht2⟩)
        rw [hw0.out] at ht2
        exact ret0 rfl rfl (hB.out _ _ _ _ ⟨rfl, v, by rw [List.append_nil]; exact hp2, ht2⟩)
      · have c1 := count_any lo b v xs bad w0 hP hlo0 n.toNat (by omega) (by omega)
        rw [Int.toNat_of_nonneg (by omega), ← hw0.out] at c1
        rw [show enc (k, n, s) = vb n.toNat from (if_neg h0).trans ((if_pos h1).trans (if_neg hneg)), show errOf (k, n, s) bad = bad from if_neg (by simp [ill]; omega)]
        obtain ⟨X, hX⟩ : ∃ X, Hid (vb n.toNat = X) := ⟨_, rfl⟩
        rw [hX.out] at c1 ⊢
        clear h hP h0 h1 hneg hX
        go_enter Try.func8, Try.ntmps8
        go_wp2_with (go_at_call 28; (with_reducible refine c1.mono ?_); clear c1; rintro e w2 ⟨rfl, v2, hp2, ht2⟩)
        rw [hw0.out] at ht2
        exact ret0 rfl rfl (hB.out _ _ _ _ ⟨rfl, v2, hp2, ht2⟩)
    · have q1 : (k == 1) = false := by rw [beq_eq_false_iff_ne]; exact h1
      rw [show errOf (k, n, s) bad = bad from if_neg (by simp [ill]; omega)]
      by_cases h2 : k = 2
      · have q2 : (k == 2) = true := by rw [beq_iff_eq]; exact h2
        have c1 := num_any lo b v xs bad w0 hP hlo0 n n1 n2 (by omega)
        rw [← hw0.out] at c1
        rw [show enc (k, n, s) = vb (zig n) from (if_neg h0).trans ((if_neg h1).trans (if_pos h2))]
        obtain ⟨X, hX⟩ : ∃ X, Hid (vb (zig n) = X) := ⟨_, rfl⟩
        rw [hX.out] at c1 ⊢
        clear h hP h0 h1 h2 hX
        go_enter Try.func8, Try.ntmps8
        go_wp2_with (go_at_call 29; (with_reducible refine c1.mono ?_); clear c1; rintro e w2 ⟨rfl, v2, hp2, ht2⟩)
        rw [hw0.out] at ht2
        exact ret0 rfl rfl (hB.out _ _ _ _ ⟨rfl, v2, hp2, ht2⟩)
      · have q2 : (k == 2) = false := by rw [beq_eq_false_iff_ne]; exact h2
        by_cases h3 : k = 3
        · have q3 : (k == 3) = true := by rw [beq_iff_eq]; exact h3
          have c1 := word_any lo b v xs bad w0 hP hlo0 (n % 4294967296).toNat (by omega) (by omega)
          rw [Int.toNat_of_nonneg (Int.emod_nonneg _ (by omega)), ← hw0.out] at c1
          rw [show enc (k, n, s) = wb (n % 4294967296).toNat from (if_neg h0).trans ((if_neg h1).trans ((if_neg h2).trans (if_pos h3)))]
          obtain ⟨X, hX⟩ : ∃ X, Hid (wb (n % 4294967296).toNat = X) := ⟨_, rfl⟩
          rw [hX.out] at c1 ⊢
          clear h hP h0 h1 h2 h3 hX
          go_enter Try.func8, Try.ntmps8
          go_wp2_with (go_at_call 30; (with_reducible refine c1.mono ?_); clear c1; rintro e w2 ⟨rfl, v2, hp2, ht2⟩)
          rw [hw0.out] at ht2
          exact ret0 rfl rfl (hB.out _ _ _ _ ⟨rfl, v2, hp2, ht2⟩)
        · have q3 : (k == 3) = false := by rw [beq_eq_false_iff_ne]; exact h3
          have c1 := text_any lo b v xs bad w0 hP hlo0 s hs (by omega)
          rw [← hw0.out] at c1
          rw [show enc (k, n, s) = vb s.length ++ nums s from (if_neg h0).trans ((if_neg h1).trans ((if_neg h2).trans (if_neg h3)))]
          obtain ⟨X, hX⟩ : ∃ X, Hid (vb s.length ++ nums s = X) := ⟨_, rfl⟩
          rw [hX.out] at c1 ⊢
          obtain ⟨S, hS⟩ : ∃ S, Hid (strL s = S) := ⟨_, rfl⟩
          rw [hS.out] at c1 ⊢ hw0
          clear h hP h0 h1 h2 h3 hX
          go_enter Try.func8, Try.ntmps8
          go_wp2_with (go_at_call 31; (with_reducible refine c1.mono ?_); clear c1; rintro e w2 ⟨rfl, v2, hp2, ht2⟩)
          rw [hw0.out] at ht2
          exact ret0 rfl rfl (hB.out _ _ _ _ ⟨rfl, v2, hp2, ht2⟩)
end Go.Proofs.Ytbgbboldelpjbaa.pen
