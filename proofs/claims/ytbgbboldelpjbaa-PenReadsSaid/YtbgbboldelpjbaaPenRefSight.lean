/- Contracts of the reference's eye: Count, Num and Text. No condition. -/
import Derived.Test.YtbgbboldelpjbaaPenRefEye
namespace Go.Proofs.Ytbgbboldelpjbaa.pen
open Go.RowKit Go.Proofs.Ytbgbboldelpjbaa.texts
set_option linter.unusedVariables false

set_option maxRecDepth 20000 in
theorem refSee_any (b : Nat) (s : Sight) (w : World) (h : EyeAt 39 b s w) (most : Int) (h1 : -9223372036854775808 ≤ most) (h2 : most ≤ 9223372036854775807) :
    Calls Try.prog 16 #[.pointer (some ⟨b, 0, none⟩), .int .i64 most] w (Saw 39 b (.int .i64 ((eCount most s).1 : Int)) (eCount most s).2 w) := by
  obtain ⟨r, z⟩ := s
  have HE := hid h
  obtain ⟨a, c, st⟩ := h.stand
  clear h
  unfold eCount eVar
  simp only []
  have d0 := st.rest
  have d1 := st.err
  have f0 := st.block.frozen 0
  have f1 := st.block.frozen 1
  have hlen := st.len
  by_cases hz : z = 0
  · subst hz
    rw [show ((0 : Nat) : Int) = 0 from rfl] at d1
    rw [if_neg (by simp)]
    have c1 : Calls Try.prog 40 #[.slice a r.length c] w (Quiet (grpV (grp 0 0 r)) w) := groups_any a c r _ st.reads st.room st.small st.len
    have d0' : ∀ m, (w.drewN m).cell? ⟨b, 0, none⟩ = some (.slice a r.length c) := fun m => (st.drewN m).rest
    have f0' : ∀ m, (w.drewN m).frozen? ⟨b, 0, none⟩ = false := fun m => (st.drewN m).block.frozen 0
    have d1' : ∀ m, (w.drewN m).cell? ⟨b, 1, none⟩ = some (.int .i64 0) := fun m => (st.drewN m).err
    have f1' : ∀ m, (w.drewN m).frozen? ⟨b, 1, none⟩ = false := fun m => (st.drewN m).block.frozen 1
    obtain ⟨g1, g2, g3, g4⟩ := grp_ok0 r st.small
    unfold grpV at c1
    have HGN := hid g2
    obtain ⟨V, hV⟩ : ∃ V, Hid ((grp 0 0 r).1 = V) := ⟨_, rfl⟩
    obtain ⟨N, hN⟩ : ∃ N, Hid ((grp 0 0 r).2.1 = N) := ⟨_, rfl⟩
    obtain ⟨E, hE⟩ : ∃ E, Hid ((grp 0 0 r).2.2 = E) := ⟨_, rfl⟩
    simp only [hV.out, hN.out, hE.out] at c1 g1 g3 g4 HGN ⊢
    have hF : Hid (∀ m z, Saw 39 b (.int .i64 0) (r, z) w (.returned (.int .i64 0)) ((w.drewN m).setCell ⟨b, 1, none⟩ (.int .i64 (z : Int)))) := fun m z => by
      have := (HE.out.later (below_drewN (Below.refl _ _) m)).fail z
      exact ⟨rfl, this.1, this.2⟩
    have HS := hid st
    clear st g2
    by_cases he : E = 0
    · subst he
      rw [if_neg (by simp)]
      rw [show ((0 : Nat) : Int) = 0 from rfl] at c1
      by_cases h3 : 9223372036854775807 < V
      · rw [if_pos h3]
        have q1 : (9223372036854775808 : Int) ≤ V := by omega
        go_enter Try.func16, Try.ntmps16
        go_wp2_with (go_at_call 40; (with_reducible refine c1.mono ?_); clear c1; rintro e w' ⟨rfl, m1, rfl⟩)
        go_ret
        exact hF.out _ 4
      · rw [if_neg h3]
        have q1 : ¬ (9223372036854775808 : Int) ≤ V := by omega
        have q1d : decide ((9223372036854775808 : Int) ≤ V) = false := decide_eq_false q1
        by_cases h4 : (max most 0).toNat < V
        · rw [if_pos h4]
          have q2 : max most 0 < (V : Int) := by omega
          by_cases h5 : 0 ≤ most
          · have q3 : most < (V : Int) := by omega
            have q3d : decide (most < (V : Int)) = true := decide_eq_true q3
            have em : ∀ ts t W, (Builtin.max_ ts t #[.int .i64 most, .int .i64 0]).run Try.prog W = .ok (.int .i64 most) W := fun ts t W => by rw [run_max_int2, if_neg (by omega)]
            clear q2 h3 h4
            go_enter Try.func16, Try.ntmps16
            go_wp2_with (go_at_call 40; (with_reducible refine c1.mono ?_); clear c1; rintro e w' ⟨rfl, m1, rfl⟩)
            go_ret
            exact hF.out _ 7
          · have q3 : (0 : Int) < (V : Int) := by omega
            have q3d : decide ((0 : Int) < (V : Int)) = true := decide_eq_true q3
            have q3n : 0 < V := by omega
            have q3m : decide (0 < V) = true := decide_eq_true q3n
            have em : ∀ ts t W, (Builtin.max_ ts t #[.int .i64 most, .int .i64 0]).run Try.prog W = .ok (.int .i64 0) W := fun ts t W => by rw [run_max_int2, if_pos (by omega)]
            have q4 : most < 0 := by omega
            clear q2 h3 h4
            go_enter Try.func16, Try.ntmps16
            go_wp2_with (go_at_call 40; (with_reducible refine c1.mono ?_); clear c1; rintro e w' ⟨rfl, m1, rfl⟩)
            go_ret
            exact hF.out _ 7
        · rw [if_neg h4]
          have hnl : N ≤ r.length := by have := HGN.out rfl; omega
          have e2 := fun W => cut_from W a r.length c N hnl
          have HC := hid (fun m => (HS.out.drewN m).cut N hnl)
          obtain ⟨A2, hA2⟩ : ∃ A, Hid (shift a N c = A) := ⟨_, rfl⟩
          rw [hA2.out] at e2 HC
          by_cases h5 : 0 ≤ most
          · have q3 : ¬ most < (V : Int) := by omega
            have q3d : decide (most < (V : Int)) = false := decide_eq_false q3
            have em : ∀ ts t W, (Builtin.max_ ts t #[.int .i64 most, .int .i64 0]).run Try.prog W = .ok (.int .i64 most) W := fun ts t W => by rw [run_max_int2, if_neg (by omega)]
            clear h3 h4
            go_enter Try.func16, Try.ntmps16
            go_wp2_with (go_at_call 40; (with_reducible refine c1.mono ?_); clear c1; rintro e w' ⟨rfl, m1, rfl⟩)
            go_ret
            exact ⟨rfl, (HC.out m1).1, (HC.out m1).2⟩
          · have q3 : ¬ (0 : Int) < (V : Int) := by omega
            have q3d : decide ((0 : Int) < (V : Int)) = false := decide_eq_false q3
            have q3n : ¬ 0 < V := by omega
            have q3m : decide (0 < V) = false := decide_eq_false q3n
            have em : ∀ ts t W, (Builtin.max_ ts t #[.int .i64 most, .int .i64 0]).run Try.prog W = .ok (.int .i64 0) W := fun ts t W => by rw [run_max_int2, if_pos (by omega)]
            have q4 : most < 0 := by omega
            clear h3 h4
            go_enter Try.func16, Try.ntmps16
            go_wp2_with (go_at_call 40; (with_reducible refine c1.mono ?_); clear c1; rintro e w' ⟨rfl, m1, rfl⟩)
            go_ret
            exact ⟨rfl, (HC.out m1).1, (HC.out m1).2⟩
    · rw [if_pos he]
      have q0 : ((E : Int) != 0) = true := by rw [bne_iff_ne]; omega
      have q1 : ((E : Int) == 0) = false := by rw [beq_eq_false_iff_ne]; omega
      clear he
      go_enter Try.func16, Try.ntmps16
      go_wp2_with (go_at_call 40; (with_reducible refine c1.mono ?_); clear c1; rintro e w' ⟨rfl, m1, rfl⟩)
      go_ret
      exact hF.out _ E
  · rw [if_pos hz]
    have hi : ((z : Int) != 0) = true := by rw [bne_iff_ne]; omega
    clear st hz
    go_enter Try.func16, Try.ntmps16
    go_wp2
    go_ret
    exact ⟨rfl, HE.out, But.refl _ _ _⟩
set_option maxRecDepth 8000 in
theorem refInt_any (b : Nat) (s : Sight) (w : World) (h : EyeAt 39 b s w) :
    Calls Try.prog 18 #[.pointer (some ⟨b, 0, none⟩)] w (Saw 39 b (.int .i64 (eInt s).1) (eInt s).2 w) := by
  obtain ⟨r, z⟩ := s
  have HE := hid h
  obtain ⟨a, c, st⟩ := h.stand
  clear h
  unfold eInt eVar
  simp only []
  have d0 := st.rest
  have d1 := st.err
  have f0 := st.block.frozen 0
  have f1 := st.block.frozen 1
  have hlen := st.len
  by_cases hz : z = 0
  · subst hz
    rw [show ((0 : Nat) : Int) = 0 from rfl] at d1
    rw [if_neg (by simp)]
    have c1 : Calls Try.prog 40 #[.slice a r.length c] w (Quiet (grpV (grp 0 0 r)) w) := groups_any a c r _ st.reads st.room st.small st.len
    have d0' : ∀ m, (w.drewN m).cell? ⟨b, 0, none⟩ = some (.slice a r.length c) := fun m => (st.drewN m).rest
    have f0' : ∀ m, (w.drewN m).frozen? ⟨b, 0, none⟩ = false := fun m => (st.drewN m).block.frozen 0
    have d1' : ∀ m, (w.drewN m).cell? ⟨b, 1, none⟩ = some (.int .i64 0) := fun m => (st.drewN m).err
    have f1' : ∀ m, (w.drewN m).frozen? ⟨b, 1, none⟩ = false := fun m => (st.drewN m).block.frozen 1
    obtain ⟨g1, g2, g3, g4⟩ := grp_ok0 r st.small
    unfold grpV at c1
    have HGN := hid g2
    obtain ⟨V, hV⟩ : ∃ V, Hid ((grp 0 0 r).1 = V) := ⟨_, rfl⟩
    obtain ⟨N, hN⟩ : ∃ N, Hid ((grp 0 0 r).2.1 = N) := ⟨_, rfl⟩
    obtain ⟨E, hE⟩ : ∃ E, Hid ((grp 0 0 r).2.2 = E) := ⟨_, rfl⟩
    simp only [hV.out, hN.out, hE.out] at c1 g1 g3 g4 HGN ⊢
    have hF : Hid (∀ m z, Saw 39 b (.int .i64 0) (r, z) w (.returned (.int .i64 0)) ((w.drewN m).setCell ⟨b, 1, none⟩ (.int .i64 (z : Int)))) := fun m z => by
      have := (HE.out.later (below_drewN (Below.refl _ _) m)).fail z
      exact ⟨rfl, this.1, this.2⟩
    have HS := hid st
    clear st g2
    by_cases he : E = 0
    · subst he
      rw [if_neg (by simp), if_neg (by omega), if_neg (by omega)]
      rw [show ((0 : Nat) : Int) = 0 from rfl] at c1
      have hnl : N ≤ r.length := by have := HGN.out rfl; omega
      have e2 := fun W => cut_from W a r.length c N hnl
      have HC := hid (fun m => (HS.out.drewN m).cut N hnl)
      obtain ⟨A2, hA2⟩ : ∃ A, Hid (shift a N c = A) := ⟨_, rfl⟩
      rw [hA2.out] at e2 HC
      by_cases h0 : V % 2 = 1
      · have hz : unzig V = -((V : Int) / 2) - 1 := by unfold unzig; rw [if_pos h0]; omega
        have q : ((V : Int) % 2 == 1) = true := by rw [beq_iff_eq]; omega
        simp only [hz]
        clear hz h0
        go_enter Try.func18, Try.ntmps18
        go_wp2_with (go_at_call 40; (with_reducible refine c1.mono ?_); clear c1; rintro e w' ⟨rfl, m1, rfl⟩)
        go_ret
        exact ⟨rfl, (HC.out m1).1, (HC.out m1).2⟩
      · have hz : unzig V = (V : Int) / 2 := by unfold unzig; rw [if_neg h0]; omega
        have q : ((V : Int) % 2 == 1) = false := by rw [beq_eq_false_iff_ne]; omega
        simp only [hz]
        clear hz h0
        go_enter Try.func18, Try.ntmps18
        go_wp2_with (go_at_call 40; (with_reducible refine c1.mono ?_); clear c1; rintro e w' ⟨rfl, m1, rfl⟩)
        go_ret
        exact ⟨rfl, (HC.out m1).1, (HC.out m1).2⟩
    · rw [if_pos he]
      have q0 : ((E : Int) != 0) = true := by rw [bne_iff_ne]; omega
      simp only [show unzig 0 = 0 from rfl]
      clear he
      go_enter Try.func18, Try.ntmps18
      go_wp2_with (go_at_call 40; (with_reducible refine c1.mono ?_); clear c1; rintro e w' ⟨rfl, m1, rfl⟩)
      go_ret
      exact hF.out _ E
  · rw [if_pos hz]
    have hi : ((z : Int) != 0) = true := by rw [bne_iff_ne]; omega
    simp only [show unzig 0 = 0 from rfl]
    clear st hz
    go_enter Try.func18, Try.ntmps18
    go_wp2
    go_ret
    exact ⟨rfl, HE.out, But.refl _ _ _⟩

set_option maxRecDepth 8000 in
theorem refSay_any (b : Nat) (s : Sight) (w : World) (h : EyeAt 39 b s w) (most : Int) (h1 : -9223372036854775808 ≤ most) (h2 : most ≤ 9223372036854775807) :
    Calls Try.prog 22 #[.pointer (some ⟨b, 0, none⟩), .int .i64 most] w (Saw 39 b (.string (strOf (eText most s).1)) (eText most s).2 w) := by
  have c0 := refSee_any b s w h most h1 h2
  have hle := (eVar_le 9223372036854775807 (max most 0).toNat s).1
  have hle' : (eCount most s).1 ≤ 9223372036854775807 := hle
  obtain ⟨r, z⟩ := s
  obtain ⟨a, c, st⟩ := h.stand
  unfold eText
  obtain ⟨x, hx⟩ : ∃ x, Hid ((eCount most (r, z)).1 = x) := ⟨_, rfl⟩
  obtain ⟨s1, hs1⟩ : ∃ s', Hid ((eCount most (r, z)).2 = s') := ⟨_, rfl⟩
  simp only [hx.out, hs1.out] at c0 hle' ⊢
  have c1 : Hid (∀ w1, EyeAt 39 b s1 w1 → Calls Try.prog 38 #[.pointer (some ⟨b, 0, none⟩), .int .i64 (x : Int)] w1 (Took 39 b (eNext x s1).1 (eNext x s1).2 w1)) := fun w1 hE => take_any b s1 w1 hE x hle'
  obtain ⟨t, ht⟩ : ∃ t, Hid ((eNext x s1).1 = t) := ⟨_, rfl⟩
  obtain ⟨⟨r2, z2⟩, hs2⟩ : ∃ s', Hid ((eNext x s1).2 = s') := ⟨_, rfl⟩
  simp only [ht.out, hs2.out] at c1 ⊢
  obtain ⟨T, hT⟩ : ∃ T, Hid (strOf t = T) := ⟨_, rfl⟩
  rw [hT.out]
  have d0 := st.rest
  have ST := hid st
  clear h st hx hs1 ht hs2 hle hle'
  by_cases hz : z2 = 0
  · rw [if_neg (by simpa using hz)]
    subst hz
    go_enter Try.func22, Try.ntmps22
    go_wp2_with (first
      | (go_at_call 16; (with_reducible refine c0.mono ?_); clear c0; rintro e w1 ⟨rfl, hE1, hB1⟩)
      | (go_at_call 38; (with_reducible refine (c1.out _ hE1).mono ?_); clear c1 hE1; rintro e w2 ⟨a', c', rfl, _, hrd, hE2, hB2⟩; have hcv := Reads.str (P := Try.prog) hrd 25 5 Try.underlying25 Try.underlying5 c' 9 Try.underlying9; rw [hT.out] at hcv; obtain ⟨a2, k2, st2⟩ := hE2.stand; have e2 := st2.err; clear st2; have HRD := hid hrd; have HE2 := hid hE2; have HB := hid (And.intro hB1 hB2); clear hrd hE2 hB1 hB2))
    go_ret
    exact ⟨rfl, HE2.out, HB.out.1.trans (HB.out.2.mono HB.out.1.2.2.2.1)⟩
  · rw [if_pos hz]
    have q : ((z2 : Int) != 0) = true := by rw [bne_iff_ne]; omega
    clear hz
    go_enter Try.func22, Try.ntmps22
    go_wp2_with (first
      | (go_at_call 16; (with_reducible refine c0.mono ?_); clear c0; rintro e w1 ⟨rfl, hE1, hB1⟩)
      | (go_at_call 38; (with_reducible refine (c1.out _ hE1).mono ?_); clear c1 hE1; rintro e w2 ⟨a', c', rfl, _, hrd, hE2, hB2⟩; have hcv := Reads.str (P := Try.prog) hrd 25 5 Try.underlying25 Try.underlying5 c' 9 Try.underlying9; rw [hT.out] at hcv; obtain ⟨a2, k2, st2⟩ := hE2.stand; have e2 := st2.err; have e3 := st2.rest; have e4 := st2.block.frozen 0; have ST2 := hid st2; clear st2; have HRD := hid hrd; have HE2 := hid hE2; have HB := hid (And.intro hB1 hB2); clear hrd hE2 hB1 hB2))
    go_ret
    have hB : But w.heap.size b w w2 := HB.out.1.trans (HB.out.2.mono HB.out.1.2.2.2.1)
    have hB' := hB.setCell 0 (.slice a r.length c)
    have s0 := ST.out
    exact ⟨rfl, ⟨s0.small, s0.len, a, c, ST2.out.block.setCell 0 _, s0.room, reads_but s0.reads hB' s0.off, s0.off⟩, hB'⟩
end Go.Proofs.Ytbgbboldelpjbaa.pen
