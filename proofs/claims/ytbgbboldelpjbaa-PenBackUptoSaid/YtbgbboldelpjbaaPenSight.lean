/- Contracts of the eye's calls Count, Num and Text, and of Of. No condition but bytes that are fewer than 2^47. -/
import Derived.Test.YtbgbboldelpjbaaPenVar
namespace Go.Proofs.Ytbgbboldelpjbaa.pen
open Go.RowKit Go.Proofs.Ytbgbboldelpjbaa.texts
set_option linter.unusedVariables false

theorem eyeCount_any (b : Nat) (s : Sight) (w : World) (h : EyeAt 62 b s w) (most : Int) (h1 : -9223372036854775808 ≤ most) (h2 : most ≤ 9223372036854775807) :
    Calls Try.prog 15 #[.pointer (some ⟨b, 0, none⟩), .int .i64 most] w (Saw 62 b (.int .i64 ((eCount most s).1 : Int)) (eCount most s).2 w) := by
  have c0 := eyeVarint_any b s w h 9223372036854775807 (max most 0).toNat (by omega) (by omega)
  have hle := (eVar_le 9223372036854775807 (max most 0).toNat s).1
  unfold eCount
  obtain ⟨x, hx⟩ : ∃ x, Hid ((eVar 9223372036854775807 (max most 0).toNat s).1 = x) := ⟨_, rfl⟩
  obtain ⟨s', hs'⟩ : ∃ s', Hid ((eVar 9223372036854775807 (max most 0).toNat s).2 = s') := ⟨_, rfl⟩
  simp only [hx.out, hs'.out] at c0 hle ⊢
  rw [show ((9223372036854775807 : Nat) : Int) = 9223372036854775807 from rfl, show (((max most 0).toNat : Nat) : Int) = max most 0 by omega] at c0
  clear h hx hs'
  by_cases h0 : 0 ≤ most
  · rw [show max most 0 = most by omega] at c0
    go_enter Try.func15, Try.ntmps15
    go_wp2_with (go_at_call 39; (with_reducible refine c0.mono ?_); clear c0; rintro e w1 ⟨rfl, hE, hB⟩)
    go_ret
    exact ⟨rfl, hE, hB⟩
  · rw [show max most 0 = 0 by omega] at c0
    have hi : most < 0 := by omega
    go_enter Try.func15, Try.ntmps15
    go_wp2_with (go_at_call 39; (with_reducible refine c0.mono ?_); clear c0; rintro e w1 ⟨rfl, hE, hB⟩)
    go_ret
    exact ⟨rfl, hE, hB⟩
theorem eyeCount_nil (most : Int) (h1 : -9223372036854775808 ≤ most) (h2 : most ≤ 9223372036854775807) (w : World) : Calls Try.prog 15 #[.pointer none, .int .i64 most] w (Quiet (.int .i64 0) w) := by
  by_cases h0 : 0 ≤ most
  · go_enter Try.func15, Try.ntmps15
    go_wp2_with (go_at_call 39; (with_reducible refine (eyeVarint_nil _ _ _).mono ?_); rintro e w1 ⟨rfl, m, rfl⟩)
    go_ret
    exact ⟨rfl, _, rfl⟩
  · have hi : most < 0 := by omega
    go_enter Try.func15, Try.ntmps15
    go_wp2_with (go_at_call 39; (with_reducible refine (eyeVarint_nil _ _ _).mono ?_); rintro e w1 ⟨rfl, m, rfl⟩)
    go_ret
    exact ⟨rfl, _, rfl⟩
theorem eyeNum_any (b : Nat) (s : Sight) (w : World) (h : EyeAt 62 b s w) :
    Calls Try.prog 17 #[.pointer (some ⟨b, 0, none⟩)] w (Saw 62 b (.int .i64 (eInt s).1) (eInt s).2 w) := by
  have c0 := eyeVarint_any b s w h 18446744073709551615 18446744073709551615 (by omega) (by omega)
  have hle := (eVar_le 18446744073709551615 18446744073709551615 s).1
  have c1 : Hid (∀ w1, Calls Try.prog 41 #[.int .u64 ((eVar 18446744073709551615 18446744073709551615 s).1 : Int)] w1 (Quiet (.int .i64 (unzig (eVar 18446744073709551615 18446744073709551615 s).1)) w1)) := fun w1 => unzigzag_any _ (by omega) w1
  unfold eInt
  obtain ⟨x, hx⟩ : ∃ x, Hid ((eVar 18446744073709551615 18446744073709551615 s).1 = x) := ⟨_, rfl⟩
  obtain ⟨s', hs'⟩ : ∃ s', Hid ((eVar 18446744073709551615 18446744073709551615 s).2 = s') := ⟨_, rfl⟩
  simp only [hx.out, hs'.out] at c0 c1 hle ⊢
  rw [show ((18446744073709551615 : Nat) : Int) = 18446744073709551615 from rfl] at c0
  obtain ⟨y, hy⟩ : ∃ y, Hid (unzig x = y) := ⟨_, rfl⟩
  rw [hy.out] at c1 ⊢
  clear h hx hs' hy
  go_enter Try.func17, Try.ntmps17
  go_wp2_with (first
    | (go_at_call 39; (with_reducible refine c0.mono ?_); clear c0; rintro e w1 ⟨rfl, hE, hB⟩)
    | (go_at_call 41; (with_reducible refine (c1.out _).mono ?_); clear c1; rintro e w2 ⟨rfl, m, rfl⟩))
  go_ret
  exact ⟨rfl, hE.later (below_drewN (Below.refl _ _) m), hB⟩
theorem eyeNum_nil (w : World) : Calls Try.prog 17 #[.pointer none] w (Quiet (.int .i64 0) w) := by
  have c1 : ∀ w1, Calls Try.prog 41 #[.int .u64 0] w1 (Quiet (.int .i64 0) w1) := fun w1 => unzigzag_any 0 (by omega) w1
  go_enter Try.func17, Try.ntmps17
  go_wp2_with (first
    | (go_at_call 39; (with_reducible refine (eyeVarint_nil _ _ _).mono ?_); rintro e w1 ⟨rfl, m, rfl⟩)
    | (go_at_call 41; (with_reducible refine (c1 _).mono ?_); clear c1; rintro e w2 ⟨rfl, m2, rfl⟩))
  go_ret
  exact ⟨rfl, _, by repeat (first | rfl | rw [World.drewN_drewN])⟩

set_option maxRecDepth 8000 in
theorem eyeText_any (b : Nat) (s : Sight) (w : World) (h : EyeAt 62 b s w) (most : Int) (h1 : -9223372036854775808 ≤ most) (h2 : most ≤ 9223372036854775807) :
    Calls Try.prog 21 #[.pointer (some ⟨b, 0, none⟩), .int .i64 most] w (Saw 62 b (.string (strOf (eText most s).1)) (eText most s).2 w) := by
  have c0 := eyeCount_any b s w h most h1 h2
  have hle := (eVar_le 9223372036854775807 (max most 0).toNat s).1
  have hle' : (eCount most s).1 ≤ 9223372036854775807 := hle
  obtain ⟨r, z⟩ := s
  obtain ⟨a, c, st⟩ := h.stand
  unfold eText
  obtain ⟨x, hx⟩ : ∃ x, Hid ((eCount most (r, z)).1 = x) := ⟨_, rfl⟩
  obtain ⟨s1, hs1⟩ : ∃ s', Hid ((eCount most (r, z)).2 = s') := ⟨_, rfl⟩
  simp only [hx.out, hs1.out] at c0 hle' ⊢
  have c1 : Hid (∀ w1, EyeAt 62 b s1 w1 → Calls Try.prog 42 #[.pointer (some ⟨b, 0, none⟩), .int .i64 (x : Int)] w1 (Took 62 b (eNext x s1).1 (eNext x s1).2 w1)) := fun w1 hE => next_any b s1 w1 hE x hle'
  obtain ⟨t, ht⟩ : ∃ t, Hid ((eNext x s1).1 = t) := ⟨_, rfl⟩
  obtain ⟨⟨r2, z2⟩, hs2⟩ : ∃ s', Hid ((eNext x s1).2 = s') := ⟨_, rfl⟩
  simp only [ht.out, hs2.out] at c1 ⊢
  obtain ⟨T, hT⟩ : ∃ T, Hid (strOf t = T) := ⟨_, rfl⟩
  rw [hT.out]
  have d0 := st.rest
  have ST := hid st
  clear h st hx hs1 ht hs2 hle hle'
  by_cases hz : z2 = 0
  · rw [if_neg (by simpa using hz)]
    subst hz
    go_enter Try.func21, Try.ntmps21
    go_wp2_with (first
      | (go_at_call 15; (with_reducible refine c0.mono ?_); clear c0; rintro e w1 ⟨rfl, hE1, hB1⟩)
      | (go_at_call 42; (with_reducible refine (c1.out _ hE1).mono ?_); clear c1 hE1; rintro e w2 ⟨a', c', rfl, _, hrd, hE2, hB2⟩; have hcv := Reads.str (P := Try.prog) hrd 25 5 Try.underlying25 Try.underlying5 c' 9 Try.underlying9; rw [hT.out] at hcv; obtain ⟨a2, k2, st2⟩ := hE2.stand; have e2 := st2.err; clear st2; have HRD := hid hrd; have HE2 := hid hE2; have HB := hid (And.intro hB1 hB2); clear hrd hE2 hB1 hB2))
    go_ret
    exact ⟨rfl, HE2.out, HB.out.1.trans (HB.out.2.mono HB.out.1.2.2.2.1)⟩
  · rw [if_pos hz]
    have q : ((z2 : Int) != 0) = true := by rw [bne_iff_ne]; omega
    clear hz
    go_enter Try.func21, Try.ntmps21
    go_wp2_with (first
      | (go_at_call 15; (with_reducible refine c0.mono ?_); clear c0; rintro e w1 ⟨rfl, hE1, hB1⟩)
      | (go_at_call 42; (with_reducible refine (c1.out _ hE1).mono ?_); clear c1 hE1; rintro e w2 ⟨a', c', rfl, _, hrd, hE2, hB2⟩; have hcv := Reads.str (P := Try.prog) hrd 25 5 Try.underlying25 Try.underlying5 c' 9 Try.underlying9; rw [hT.out] at hcv; obtain ⟨a2, k2, st2⟩ := hE2.stand; have e2 := st2.err; have e3 := st2.rest; have e4 := st2.block.frozen 0; have ST2 := hid st2; clear st2; have HRD := hid hrd; have HE2 := hid hE2; have HB := hid (And.intro hB1 hB2); clear hrd hE2 hB1 hB2))
    go_ret
    have hB : But w.heap.size b w w2 := HB.out.1.trans (HB.out.2.mono HB.out.1.2.2.2.1)
    have hB' := hB.setCell 0 (.slice a r.length c)
    have s0 := ST.out
    exact ⟨rfl, ⟨s0.small, s0.len, a, c, ST2.out.block.setCell 0 _, s0.room, reads_but s0.reads hB' s0.off, s0.off⟩, hB'⟩
theorem eyeText_nil (most : Int) (w : World) : Calls Try.prog 21 #[.pointer none, .int .i64 most] w (Quiet (.string ⟨#[]⟩) w) := by
  go_enter Try.func21, Try.ntmps21
  go_wp2
  go_ret
  exact ⟨rfl, 0, rfl⟩

/-- a struct of a row of its own and 0, in a new block -/
theorem eye_new (t : TypeId) (B : Nat) (xs : List Nat) (w : World) (a : Option Addr) (c : Nat) (ho : w.ownsRow B 5 1 (.slice a xs.length c) xs.length (u8v xs)) (hx : ∀ c ∈ xs, c < 256) (hl : xs.length ≤ 140737488355328) :
    EyeAt t w.heap.size (xs, 0) (w.alloc (.cells #[.slice a xs.length c, .int .i64 0] t)) := by
  have hc : xs.length ≤ c := by obtain ⟨a', c', hv, h⟩ := ownsRow_slice ho; cases hv; exact h
  refine ⟨hx, hl, a, c, Block.new w t [.slice a xs.length c, .int .i64 0], hc, (Reads.own ho).below ((Below.refl _ _).alloc (Nat.le_refl _) _), fun x hx => ?_⟩
  have := World.ownsRow.lt ho x.block (by rw [hx]; rfl)
  omega
theorem of_any (a : Option Addr) (c : Nat) (xs : List Nat) (w : World) (hr : Reads .u8 w a xs.length xs) (hx : ∀ c ∈ xs, c < 256) (hl : xs.length ≤ 140737488355328) :
    Calls Try.prog 12 #[.slice a xs.length c] w fun e w' => ∃ b, e = .returned (.pointer (some ⟨b, 0, none⟩)) ∧ w.heap.size ≤ b ∧ EyeAt 62 b (xs, 0) w' ∧ Below w.heap.size w w' := by
  have c0 := clone_any a xs.length c xs w hr hl
  clear hr
  go_enter Try.func12, Try.ntmps12
  go_wp2_with (go_at_call 36; (with_reducible refine c0.mono ?_); clear c0; rintro e w1 ⟨v, rfl, ho, hb⟩; obtain ⟨a1, c1, rfl, _⟩ := ownsRow_slice ho; have HO := hid ho; clear ho)
  go_ret
  exact ⟨_, rfl, hb.size, eye_new 62 w.heap.size xs w1 a1 c1 HO.out hx hl, hb.alloc hb.size _⟩
end Go.Proofs.Ytbgbboldelpjbaa.pen
