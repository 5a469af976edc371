/- Contracts of the law's own calls wrote and awake, and of write on a pen that is none. No condition but a text of at most 2^46 bytes for wrote. -/
import Derived.Test.YtbgbboldelpjbaaPenAct
namespace Go.Proofs.Ytbgbboldelpjbaa.pen
open Go.RowKit Go.Proofs.Ytbgbboldelpjbaa.texts
set_option linter.unusedVariables false

set_option maxRecDepth 8000 in
theorem write_idle (p : Piece) (hp : Fit p) (w : World) : Calls Try.prog 8 #[.pointer none, actV p] w (Idle w) := by
  obtain ⟨k, n, s⟩ := p
  obtain ⟨k1, k2, n1, n2, hs⟩ := hp
  simp only at k1 k2 n1 n2 hs
  obtain ⟨w0, hw0⟩ : ∃ w0, Hid (w.alloc (.cells #[.int .i64 k, .int .i64 n, .string (strL s)] 28) = w0) := ⟨_, rfl⟩
  have hb0 : Below w.heap.size w w0 := by rw [← hw0.out]; exact (Below.refl _ _).alloc (Nat.le_refl _) _
  have hB : Hid (∀ e w', Idle w0 e w' → Idle w e w') := fun e w' ⟨he, h2⟩ => ⟨he, hb0.trans (h2.mono hb0.size)⟩
  unfold actV
  simp only []
  have ha := i64_low8 n
  have ha2 := i64_low32 n
  have cb := byte_idle (n % 256) w0
  have cc := count_idle n w0
  have cn := num_idle n n1 n2 w0
  have cw := word_idle (n % 4294967296).toNat (by omega) w0
  have ct := text_idle s hs w0
  rw [Int.toNat_of_nonneg (Int.emod_nonneg _ (by omega))] at cw
  obtain ⟨S, hS⟩ : ∃ S, Hid (strL s = S) := ⟨_, rfl⟩
  rw [hS.out] at ct ⊢ hw0
  rw [← hw0.out] at cb cc cn cw ct
  by_cases h0 : k = 0
  · have q0 : (k == 0) = true := by rw [beq_iff_eq]; exact h0
    clear h0
    go_enter Try.func8, Try.ntmps8
    go_wp2_with (go_at_call 27; (with_reducible refine cb.mono ?_); clear cb; rintro e w2 ⟨rfl, h2⟩)
    rw [hw0.out] at h2
    exact ret0 rfl rfl (hB.out _ _ ⟨rfl, h2⟩)
  · have q0 : (k == 0) = false := by rw [beq_eq_false_iff_ne]; exact h0
    by_cases h1 : k = 1
    · have q1 : (k == 1) = true := by rw [beq_iff_eq]; exact h1
      clear h0 h1
      go_enter Try.func8, Try.ntmps8
      go_wp2_with (go_at_call 28; (with_reducible refine cc.mono ?_); clear cc; rintro e w2 ⟨rfl, h2⟩)
      rw [hw0.out] at h2
      exact ret0 rfl rfl (hB.out _ _ ⟨rfl, h2⟩)
    · have q1 : (k == 1) = false := by rw [beq_eq_false_iff_ne]; exact h1
      by_cases h2 : k = 2
      · have q2 : (k == 2) = true := by rw [beq_iff_eq]; exact h2
        clear h0 h1 h2
        go_enter Try.func8, Try.ntmps8
        go_wp2_with (go_at_call 29; (with_reducible refine cn.mono ?_); clear cn; rintro e w2 ⟨rfl, h2⟩)
        rw [hw0.out] at h2
        exact ret0 rfl rfl (hB.out _ _ ⟨rfl, h2⟩)
      · have q2 : (k == 2) = false := by rw [beq_eq_false_iff_ne]; exact h2
        by_cases h3 : k = 3
        · have q3 : (k == 3) = true := by rw [beq_iff_eq]; exact h3
          clear h0 h1 h2 h3
          go_enter Try.func8, Try.ntmps8
          go_wp2_with (go_at_call 30; (with_reducible refine cw.mono ?_); clear cw; rintro e w2 ⟨rfl, h2⟩)
          rw [hw0.out] at h2
          exact ret0 rfl rfl (hB.out _ _ ⟨rfl, h2⟩)
        · have q3 : (k == 3) = false := by rw [beq_eq_false_iff_ne]; exact h3
          clear h0 h1 h2 h3
          go_enter Try.func8, Try.ntmps8
          go_wp2_with (go_at_call 31; (with_reducible refine ct.mono ?_); clear ct; rintro e w2 ⟨rfl, h2⟩)
          rw [hw0.out] at h2
          exact ret0 rfl rfl (hB.out _ _ ⟨rfl, h2⟩)

set_option maxRecDepth 8000 in
theorem wrote_any (p : Piece) (hp : Fit p) (hs : p.2.2.length ≤ 70368744177664) (w : World) : Calls Try.prog 9 #[actV p] w (Copies (enc p) w) := by
  obtain ⟨k, n, s⟩ := p
  obtain ⟨k1, k2, n1, n2, _⟩ := hp
  simp only at k1 k2 n1 n2 hs
  obtain ⟨w0, hw0⟩ : ∃ w0, Hid (w.alloc (.cells #[.int .i64 k, .int .i64 n, .string (strL s)] 28) = w0) := ⟨_, rfl⟩
  have hb0 : Below w.heap.size w w0 := by rw [← hw0.out]; exact (Below.refl _ _).alloc (Nat.le_refl _) _
  have hB : Hid (∀ xs e w', Copies xs w0 e w' → Copies xs w e w') := fun xs e w' h => h.base hb0
  unfold actV
  simp only []
  have ha := i64_low8 n
  have ha2 := i64_low32 n
  by_cases h0 : k = 0
  · have q0 : (k == 0) = true := by rw [beq_iff_eq]; exact h0
    rw [show enc (k, n, s) = [(n % 256).toNat] from if_pos h0]
    clear h0
    go_enter Try.func9, Try.ntmps9
    go_wp2
    go_ret
    refine Copies.base (w1 := w.alloc (.cells #[.int .i64 k, .int .i64 n, .string (strL s)] 28)) ((Below.refl _ _).alloc (Nat.le_refl _) _) ?_
    refine ⟨_, rfl, ?_, (Below.refl _ _).alloc (Nat.le_refl _) _⟩
    have := ownsRow_built (w.alloc (.cells #[.int .i64 k, .int .i64 n, .string (strL s)] 28)) [(n % 256).toNat] 1 rfl (by omega) #[.int .u8 (n % 256)] (by simp [u8v, Int.toNat_of_nonneg (Int.emod_nonneg n (show (256 : Int) ≠ 0 by omega))])
    simpa using this
  · have q0 : (k == 0) = false := by rw [beq_eq_false_iff_ne]; exact h0
    by_cases h1 : k = 1
    · have q1 : (k == 1) = true := by rw [beq_iff_eq]; exact h1
      by_cases hneg : n < 0
      · rw [show enc (k, n, s) = [] from (if_neg h0).trans ((if_pos h1).trans (if_pos hneg))]
        clear h0 h1
        go_enter Try.func9, Try.ntmps9
        go_wp2
        go_ret
        exact ⟨_, rfl, World.ownsRow_nil _ _ _ _, (Below.refl _ _).alloc (Nat.le_refl _) _⟩
      · have c1 := refCount_any n.toNat (by omega) w0
        rw [Int.toNat_of_nonneg (by omega), ← hw0.out] at c1
        rw [show enc (k, n, s) = vb n.toNat from (if_neg h0).trans ((if_pos h1).trans (if_neg hneg))]
        obtain ⟨X, hX⟩ : ∃ X, Hid (vb n.toNat = X) := ⟨_, rfl⟩
        rw [hX.out] at c1 ⊢
        clear h0 h1 hX
        go_enter Try.func9, Try.ntmps9
        go_wp2_with (go_at_call 32; (with_reducible refine c1.mono ?_); clear c1; rintro e w2 ⟨v2, rfl, ho2, hb2⟩)
        go_ret
        rw [hw0.out] at ho2 hb2
        exact hB.out _ _ _ ⟨v2, rfl, ho2, hb2⟩
    · have q1 : (k == 1) = false := by rw [beq_eq_false_iff_ne]; exact h1
      by_cases h2 : k = 2
      · have q2 : (k == 2) = true := by rw [beq_iff_eq]; exact h2
        have c1 := refNum_any n n1 n2 w0
        rw [← hw0.out] at c1
        rw [show enc (k, n, s) = vb (zig n) from (if_neg h0).trans ((if_neg h1).trans (if_pos h2))]
        obtain ⟨X, hX⟩ : ∃ X, Hid (vb (zig n) = X) := ⟨_, rfl⟩
        rw [hX.out] at c1 ⊢
        clear h0 h1 h2 hX
        go_enter Try.func9, Try.ntmps9
        go_wp2_with (go_at_call 33; (with_reducible refine c1.mono ?_); clear c1; rintro e w2 ⟨v2, rfl, ho2, hb2⟩)
        go_ret
        rw [hw0.out] at ho2 hb2
        exact hB.out _ _ _ ⟨v2, rfl, ho2, hb2⟩
      · have q2 : (k == 2) = false := by rw [beq_eq_false_iff_ne]; exact h2
        by_cases h3 : k = 3
        · have q3 : (k == 3) = true := by rw [beq_iff_eq]; exact h3
          have c1 := refWord_any (n % 4294967296).toNat (by omega) w0
          rw [Int.toNat_of_nonneg (Int.emod_nonneg _ (by omega)), ← hw0.out] at c1
          rw [show enc (k, n, s) = wb (n % 4294967296).toNat from (if_neg h0).trans ((if_neg h1).trans ((if_neg h2).trans (if_pos h3)))]
          obtain ⟨X, hX⟩ : ∃ X, Hid (wb (n % 4294967296).toNat = X) := ⟨_, rfl⟩
          rw [hX.out] at c1 ⊢
          clear h0 h1 h2 h3 hX
          go_enter Try.func9, Try.ntmps9
          go_wp2_with (go_at_call 34; (with_reducible refine c1.mono ?_); clear c1; rintro e w2 ⟨v2, rfl, ho2, hb2⟩)
          go_ret
          rw [hw0.out] at ho2 hb2
          exact hB.out _ _ _ ⟨v2, rfl, ho2, hb2⟩
        · have q3 : (k == 3) = false := by rw [beq_eq_false_iff_ne]; exact h3
          have c1 := refText_any s hs w0
          rw [← hw0.out] at c1
          rw [show enc (k, n, s) = vb s.length ++ nums s from (if_neg h0).trans ((if_neg h1).trans ((if_neg h2).trans (if_neg h3)))]
          obtain ⟨X, hX⟩ : ∃ X, Hid (vb s.length ++ nums s = X) := ⟨_, rfl⟩
          rw [hX.out] at c1 ⊢
          obtain ⟨S, hS⟩ : ∃ S, Hid (strL s = S) := ⟨_, rfl⟩
          rw [hS.out] at c1 ⊢ hw0
          clear h0 h1 h2 h3 hX
          go_enter Try.func9, Try.ntmps9
          go_wp2_with (go_at_call 35; (with_reducible refine c1.mono ?_); clear c1; rintro e w2 ⟨v2, rfl, ho2, hb2⟩)
          go_ret
          rw [hw0.out] at ho2 hb2
          exact hB.out _ _ _ ⟨v2, rfl, ho2, hb2⟩
end Go.Proofs.Ytbgbboldelpjbaa.pen
