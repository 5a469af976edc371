/- Contracts and lemmas that the claims of this seat share: PenRefLook, SchemaRefTakeF, FieldSpan, FieldSpanFrom, FieldRefRight, SchemaRefAt, PlanMore, SchemaExec. Each says its own conditions. -/
import Derived.Test.YtacigmnnekphmaaCmG
import Derived.Test.YtacigmnnekphmaaCmF
import Derived.Test.YtacigmnnekphmaaCmC
import Derived.Test.YtacigmnnekphmaaCmE
/- Contracts of the reference's eye: Count and Num. No condition. -/
namespace Go.Proofs.Ytacigmnnekphmaa.pen
open Go.RowKit Go.Proofs.Ytacigmnnekphmaa.texts
set_option linter.unusedVariables false

set_option maxRecDepth 20000 in
theorem refSee_any (b : Nat) (s : Sight) (w : World) (h : EyeAt 74 b s w) (most : Int) (h1 : -9223372036854775808 ≤ most) (h2 : most ≤ 9223372036854775807) :
    Calls Try.prog 47 #[.pointer (some ⟨b, 0, none⟩), .int .i64 most] w (Saw 74 b (.int .i64 ((eCount most s).1 : Int)) (eCount most s).2 w) := by
  obtain ⟨r, z⟩ := s
  have HE := hid h
  obtain ⟨a, c, st⟩ := h.stand
  clear h
  unfold eCount eVar
  simp only []
  have d0 := st.rest
  have d1 := st.err
  have f0 := st.block.frozen 0
  have f1 := st.block.frozen 1
  have hlen := st.len
  by_cases hz : z = 0
  · subst hz
    rw [show ((0 : Nat) : Int) = 0 from rfl] at d1
    rw [if_neg (by simp)]
    have c1 : Calls Try.prog 64 #[.slice a r.length c] w (Quiet (grpV (grp 0 0 r)) w) := groups_any a c r _ st.reads st.room st.small st.len
    have d0' : ∀ m, (w.drewN m).cell? ⟨b, 0, none⟩ = some (.slice a r.length c) := fun m => (st.drewN m).rest
    have f0' : ∀ m, (w.drewN m).frozen? ⟨b, 0, none⟩ = false := fun m => (st.drewN m).block.frozen 0
    have d1' : ∀ m, (w.drewN m).cell? ⟨b, 1, none⟩ = some (.int .i64 0) := fun m => (st.drewN m).err
    have f1' : ∀ m, (w.drewN m).frozen? ⟨b, 1, none⟩ = false := fun m => (st.drewN m).block.frozen 1
    obtain ⟨g1, g2, g3, g4⟩ := grp_ok0 r st.small
    unfold grpV at c1
    have HGN := hid g2
    obtain ⟨V, hV⟩ : ∃ V, Hid ((grp 0 0 r).1 = V) := ⟨_, rfl⟩
    obtain ⟨N, hN⟩ : ∃ N, Hid ((grp 0 0 r).2.1 = N) := ⟨_, rfl⟩
    obtain ⟨E, hE⟩ : ∃ E, Hid ((grp 0 0 r).2.2 = E) := ⟨_, rfl⟩
    simp only [hV.out, hN.out, hE.out] at c1 g1 g3 g4 HGN ⊢
    have hF : Hid (∀ m z, Saw 74 b (.int .i64 0) (r, z) w (.returned (.int .i64 0)) ((w.drewN m).setCell ⟨b, 1, none⟩ (.int .i64 (z : Int)))) := fun m z => by
      have := (HE.out.later (below_drewN (Below.refl _ _) m)).fail z
      exact ⟨rfl, this.1, this.2⟩
    have HS := hid st
    clear st g2
    by_cases he : E = 0
    · subst he
      rw [if_neg (by simp)]
      rw [show ((0 : Nat) : Int) = 0 from rfl] at c1
      by_cases h3 : 9223372036854775807 < V
      · rw [if_pos h3]
        have q1 : (9223372036854775808 : Int) ≤ V := by omega
        go_enter Try.func47, Try.ntmps47
        go_wp2_with (go_at_call 64; (with_reducible refine c1.mono ?_); clear c1; rintro e w' ⟨rfl, m1, rfl⟩)
        go_ret
        exact hF.out _ 4
      · rw [if_neg h3]
        have q1 : ¬ (9223372036854775808 : Int) ≤ V := by omega
        have q1d : decide ((9223372036854775808 : Int) ≤ V) = false := decide_eq_false q1
        by_cases h4 : (max most 0).toNat < V
        · rw [if_pos h4]
          have q2 : max most 0 < (V : Int) := by omega
          by_cases h5 : 0 ≤ most
          · have q3 : most < (V : Int) := by omega
            have q3d : decide (most < (V : Int)) = true := decide_eq_true q3
            have em : ∀ ts t W, (Builtin.max_ ts t #[.int .i64 most, .int .i64 0]).run Try.prog W = .ok (.int .i64 most) W := fun ts t W => by rw [run_max_int2, if_neg (by omega)]
            clear q2 h3 h4
            go_enter Try.func47, Try.ntmps47
            go_wp2_with (go_at_call 64; (with_reducible refine c1.mono ?_); clear c1; rintro e w' ⟨rfl, m1, rfl⟩)
            go_ret
            exact hF.out _ 7
          · have q3 : (0 : Int) < (V : Int) := by omega
            have q3d : decide ((0 : Int) < (V : Int)) = true := decide_eq_true q3
            have q3n : 0 < V := by omega
            have q3m : decide (0 < V) = true := decide_eq_true q3n
            have em : ∀ ts t W, (Builtin.max_ ts t #[.int .i64 most, .int .i64 0]).run Try.prog W = .ok (.int .i64 0) W := fun ts t W => by rw [run_max_int2, if_pos (by omega)]
            have q4 : most < 0 := by omega
            clear q2 h3 h4
            go_enter Try.func47, Try.ntmps47
            go_wp2_with (go_at_call 64; (with_reducible refine c1.mono ?_); clear c1; rintro e w' ⟨rfl, m1, rfl⟩)
            go_ret
            exact hF.out _ 7
        · rw [if_neg h4]
          have hnl : N ≤ r.length := by have := HGN.out rfl; omega
          have e2 := fun W => cut_from W a r.length c N hnl
          have HC := hid (fun m => (HS.out.drewN m).cut N hnl)
          obtain ⟨A2, hA2⟩ : ∃ A, Hid (shift a N c = A) := ⟨_, rfl⟩
          rw [hA2.out] at e2 HC
          by_cases h5 : 0 ≤ most
          · have q3 : ¬ most < (V : Int) := by omega
            have q3d : decide (most < (V : Int)) = false := decide_eq_false q3
            have em : ∀ ts t W, (Builtin.max_ ts t #[.int .i64 most, .int .i64 0]).run Try.prog W = .ok (.int .i64 most) W := fun ts t W => by rw [run_max_int2, if_neg (by omega)]
            clear h3 h4
            go_enter Try.func47, Try.ntmps47
            go_wp2_with (go_at_call 64; (with_reducible refine c1.mono ?_); clear c1; rintro e w' ⟨rfl, m1, rfl⟩)
            go_ret
            exact ⟨rfl, (HC.out m1).1, (HC.out m1).2⟩
          · have q3 : ¬ (0 : Int) < (V : Int) := by omega
            have q3d : decide ((0 : Int) < (V : Int)) = false := decide_eq_false q3
            have q3n : ¬ 0 < V := by omega
            have q3m : decide (0 < V) = false := decide_eq_false q3n
            have em : ∀ ts t W, (Builtin.max_ ts t #[.int .i64 most, .int .i64 0]).run Try.prog W = .ok (.int .i64 0) W := fun ts t W => by rw [run_max_int2, if_pos (by omega)]
            have q4 : most < 0 := by omega
            clear h3 h4
            go_enter Try.func47, Try.ntmps47
            go_wp2_with (go_at_call 64; (with_reducible refine c1.mono ?_); clear c1; rintro e w' ⟨rfl, m1, rfl⟩)
            go_ret
            exact ⟨rfl, (HC.out m1).1, (HC.out m1).2⟩
    · rw [if_pos he]
      have q0 : ((E : Int) != 0) = true := by rw [bne_iff_ne]; omega
      have q1 : ((E : Int) == 0) = false := by rw [beq_eq_false_iff_ne]; omega
      clear he
      go_enter Try.func47, Try.ntmps47
      go_wp2_with (go_at_call 64; (with_reducible refine c1.mono ?_); clear c1; rintro e w' ⟨rfl, m1, rfl⟩)
      go_ret
      exact hF.out _ E
  · rw [if_pos hz]
    have hi : ((z : Int) != 0) = true := by rw [bne_iff_ne]; omega
    clear st hz
    go_enter Try.func47, Try.ntmps47
    go_wp2
    go_ret
    exact ⟨rfl, HE.out, But.refl _ _ _⟩
set_option maxRecDepth 8000 in
theorem refInt_any (b : Nat) (s : Sight) (w : World) (h : EyeAt 74 b s w) :
    Calls Try.prog 65 #[.pointer (some ⟨b, 0, none⟩)] w (Saw 74 b (.int .i64 (eInt s).1) (eInt s).2 w) := by
  obtain ⟨r, z⟩ := s
  have HE := hid h
  obtain ⟨a, c, st⟩ := h.stand
  clear h
  unfold eInt eVar
  simp only []
  have d0 := st.rest
  have d1 := st.err
  have f0 := st.block.frozen 0
  have f1 := st.block.frozen 1
  have hlen := st.len
  by_cases hz : z = 0
  · subst hz
    rw [show ((0 : Nat) : Int) = 0 from rfl] at d1
    rw [if_neg (by simp)]
    have c1 : Calls Try.prog 64 #[.slice a r.length c] w (Quiet (grpV (grp 0 0 r)) w) := groups_any a c r _ st.reads st.room st.small st.len
    have d0' : ∀ m, (w.drewN m).cell? ⟨b, 0, none⟩ = some (.slice a r.length c) := fun m => (st.drewN m).rest
    have f0' : ∀ m, (w.drewN m).frozen? ⟨b, 0, none⟩ = false := fun m => (st.drewN m).block.frozen 0
    have d1' : ∀ m, (w.drewN m).cell? ⟨b, 1, none⟩ = some (.int .i64 0) := fun m => (st.drewN m).err
    have f1' : ∀ m, (w.drewN m).frozen? ⟨b, 1, none⟩ = false := fun m => (st.drewN m).block.frozen 1
    obtain ⟨g1, g2, g3, g4⟩ := grp_ok0 r st.small
    unfold grpV at c1
    have HGN := hid g2
    obtain ⟨V, hV⟩ : ∃ V, Hid ((grp 0 0 r).1 = V) := ⟨_, rfl⟩
    obtain ⟨N, hN⟩ : ∃ N, Hid ((grp 0 0 r).2.1 = N) := ⟨_, rfl⟩
    obtain ⟨E, hE⟩ : ∃ E, Hid ((grp 0 0 r).2.2 = E) := ⟨_, rfl⟩
    simp only [hV.out, hN.out, hE.out] at c1 g1 g3 g4 HGN ⊢
    have hF : Hid (∀ m z, Saw 74 b (.int .i64 0) (r, z) w (.returned (.int .i64 0)) ((w.drewN m).setCell ⟨b, 1, none⟩ (.int .i64 (z : Int)))) := fun m z => by
      have := (HE.out.later (below_drewN (Below.refl _ _) m)).fail z
      exact ⟨rfl, this.1, this.2⟩
    have HS := hid st
    clear st g2
    by_cases he : E = 0
    · subst he
      rw [if_neg (by simp), if_neg (by omega), if_neg (by omega)]
      rw [show ((0 : Nat) : Int) = 0 from rfl] at c1
      have hnl : N ≤ r.length := by have := HGN.out rfl; omega
      have e2 := fun W => cut_from W a r.length c N hnl
      have HC := hid (fun m => (HS.out.drewN m).cut N hnl)
      obtain ⟨A2, hA2⟩ : ∃ A, Hid (shift a N c = A) := ⟨_, rfl⟩
      rw [hA2.out] at e2 HC
      by_cases h0 : V % 2 = 1
      · have hz : unzig V = -((V : Int) / 2) - 1 := by unfold unzig; rw [if_pos h0]; omega
        have q : ((V : Int) % 2 == 1) = true := by rw [beq_iff_eq]; omega
        simp only [hz]
        clear hz h0
        go_enter Try.func65, Try.ntmps65
        go_wp2_with (go_at_call 64; (with_reducible refine c1.mono ?_); clear c1; rintro e w' ⟨rfl, m1, rfl⟩)
        go_ret
        exact ⟨rfl, (HC.out m1).1, (HC.out m1).2⟩
      · have hz : unzig V = (V : Int) / 2 := by unfold unzig; rw [if_neg h0]; omega
        have q : ((V : Int) % 2 == 1) = false := by rw [beq_eq_false_iff_ne]; omega
        simp only [hz]
        clear hz h0
        go_enter Try.func65, Try.ntmps65
        go_wp2_with (go_at_call 64; (with_reducible refine c1.mono ?_); clear c1; rintro e w' ⟨rfl, m1, rfl⟩)
        go_ret
        exact ⟨rfl, (HC.out m1).1, (HC.out m1).2⟩
    · rw [if_pos he]
      have q0 : ((E : Int) != 0) = true := by rw [bne_iff_ne]; omega
      simp only [show unzig 0 = 0 from rfl]
      clear he
      go_enter Try.func65, Try.ntmps65
      go_wp2_with (go_at_call 64; (with_reducible refine c1.mono ?_); clear c1; rintro e w' ⟨rfl, m1, rfl⟩)
      go_ret
      exact hF.out _ E
  · rw [if_pos hz]
    have hi : ((z : Int) != 0) = true := by rw [bne_iff_ne]; omega
    simp only [show unzig 0 = 0 from rfl]
    clear st hz
    go_enter Try.func65, Try.ntmps65
    go_wp2
    go_ret
    exact ⟨rfl, HE.out, But.refl _ _ _⟩

end Go.Proofs.Ytacigmnnekphmaa.pen
/- Contract of the reference of layer 13 (schema): TakeField. No condition. -/
namespace Go.Proofs.Ytacigmnnekphmaa.schema
open Go.RowKit Go.Proofs.Ytacigmnnekphmaa.pen
set_option linter.unusedVariables false

set_option maxRecDepth 20000 in
set_option maxHeartbeats 1600000 in
theorem takeField_any (b : Nat) (s : Sight) (w : World) (h : EyeAt 74 b s w) : Calls Try.prog 48 #[.pointer (some ⟨b, 0, none⟩)] w (Saw 74 b ((takeF s).1.val) (takeF s).2 w) := by
  obtain ⟨A, s1, hA⟩ : ∃ A s1, eCount 255 s = (A, s1) := ⟨_, _, rfl⟩
  obtain ⟨K, s2, hK⟩ : ∃ K s2, eCount 4 s1 = (K, s2) := ⟨_, _, rfl⟩
  have hK4 : K ≤ 4 := by have := eCount_le 4 s1; rw [show ((4 : Nat) : Int) = 4 from rfl, hK] at this; exact this
  have hlt := h.lt
  have hb0 := field.newB w (.cells #[.int .i64 0, .int .i64 0, .int .i64 0, .int .i64 0, .int .i64 0] 50)
  have c1 := refSee_any b s _ (h.later hb0) 255 (by omega) (by omega)
  have HR0 := hid (Block.new w 50 [.int .i64 0, .int .i64 0, .int .i64 0, .int .i64 0, .int .i64 0])
  have c2 := fun w' hE => refSee_any b s1 w' hE 4 (by omega) (by omega)
  rw [hA] at c1
  rw [hK] at c2
  have HB0 := hid hb0
  have hT : takeF s = (if K = 1 then (⟨A, 1, (eInt s2).1, (eInt (eInt s2).2).1, 0⟩, (eInt (eInt s2).2).2) else if K = 3 ∨ K = 4 then (⟨A, K, 0, 0, (eCount 1000 s2).1⟩, (eCount 1000 s2).2) else (⟨A, K, 0, 0, 0⟩, s2)) := by
    unfold takeF
    rw [hA]; simp only; rw [hK]
  rw [hT]
  have hne : w.heap.size ≠ b := by omega
  clear hT hA hK h hb0
  simp only at c1 c2
  by_cases h1 : K = 1
  · subst h1
    rw [if_pos rfl]
    simp only [field.Fd.val]
    have c3 := fun w' hE => refInt_any b s2 w' hE
    have c4 := fun w' hE => refInt_any b (eInt s2).2 w' hE
    generalize (eInt (eInt s2).2).1 = hi at *
    generalize (eInt (eInt s2).2).2 = s4 at *
    generalize (eInt s2).1 = lo at *
    generalize (eInt s2).2 = s3 at *
    unfold Saw at c1 c2 c3 c4 ⊢
    go_enter Try.func48, Try.ntmps48
    go_wp2_with (first
      | (go_at_call 47; ((with_reducible refine c1.mono ?_); rintro e w1 ⟨rfl, hE1, hu1⟩; have HR1 := hid (blk_but HR0.out hu1 hne); have hFn := Block.new w1 50 [.int .i64 (A : Int), .int .i64 0, .int .i64 0, .int .i64 0, .int .i64 0]; have hbF : b < w1.heap.size := hE1.lt; have hRF : w.heap.size < w1.heap.size := HR1.out.lt; have hRF2 : w.heap.size ≠ w1.heap.size := Nat.ne_of_lt hRF; have hFb : w1.heap.size ≠ b := Nat.ne_of_gt hbF))
      | (go_at_call 47; ((with_reducible refine (c2 _ (hE1.later (field.newB _ _))).mono ?_); rintro e w2 ⟨rfl, hE2, hu2⟩; have hR2 := blk_but (HR1.out.alloc _) hu2 hne; have hF2 := blk_but hFn hu2 hFb; have hE2' := eye_past hE2 hbF ((But.refl _ w1.heap.size w2).setCell 1 (.int .i64 1)); have y0 := hF2.cell 0; have y1 := hF2.cell 1; have y2 := hF2.cell 2; have y3 := hF2.cell 3; have y4 := hF2.cell 4; have q1 := hF2.frozen 1; have x0 := hR2.cell 0; have x1 := hR2.cell 1; have x2 := hR2.cell 2; have x3 := hR2.cell 3; have x4 := hR2.cell 4; have p0 := hR2.frozen 0; have p1 := hR2.frozen 1; have p2 := hR2.frozen 2; have p3 := hR2.frozen 3; have p4 := hR2.frozen 4))
      | (go_at_call 65; ((with_reducible refine (c3 _ hE2').mono ?_); rintro e w3 ⟨rfl, hE3, hu3⟩; have hR3 := blk_but (blk_but hR2 ((But.refl _ w1.heap.size w2).setCell 1 (.int .i64 1)) hRF2) hu3 hne; have hF3 := blk_but (hF2.setCell 1 (.int .i64 1)) hu3 hFb; have hE3' := eye_past hE3 hbF ((But.refl _ w1.heap.size w3).setCell 2 (.int .i64 lo)); have x0 := hR3.cell 0; have x1 := hR3.cell 1; have x2 := hR3.cell 2; have x3 := hR3.cell 3; have x4 := hR3.cell 4; have p0 := hR3.frozen 0; have p1 := hR3.frozen 1; have p2 := hR3.frozen 2; have p3 := hR3.frozen 3; have p4 := hR3.frozen 4; have y0 := hF3.cell 0; have y1 := hF3.cell 1; have y2 := hF3.cell 2; have y3 := hF3.cell 3; have y4 := hF3.cell 4; have q2 := hF3.frozen 2))
      | (go_at_call 65; ((with_reducible refine (c4 _ hE3').mono ?_); rintro e w4 ⟨rfl, hE4, hu4⟩; have hR4 := blk_but (blk_but hR3 ((But.refl _ w1.heap.size w3).setCell 2 (.int .i64 lo)) hRF2) hu4 hne; have hF4 := blk_but (hF3.setCell 2 (.int .i64 lo)) hu4 hFb; have x0 := hR4.cell 0; have x1 := hR4.cell 1; have x2 := hR4.cell 2; have x3 := hR4.cell 3; have x4 := hR4.cell 4; have p0 := hR4.frozen 0; have p1 := hR4.frozen 1; have p2 := hR4.frozen 2; have p3 := hR4.frozen 3; have p4 := hR4.frozen 4; have y0 := hF4.cell 0; have y1 := hF4.cell 1; have y2 := hF4.cell 2; have y3 := hF4.cell 3; have y4 := hF4.cell 4; have q3 := hF4.frozen 3)))
    have hs1 : w.heap.size ≤ w1.heap.size := Nat.le_of_lt hRF
    have hb1 := (Below.but (g := b) HB0.out).trans (hu1.mono HB0.out.size)
    have hs1' : w.heap.size ≤ (w1.alloc (.cells #[.int .i64 (A : Int), .int .i64 0, .int .i64 0, .int .i64 0, .int .i64 0] 50)).heap.size := Nat.le_trans hs1 (field.newB w1 _).size
    have hb2 := but_store ((hb1.trans (Below.but (g := b) ((field.newB w1 (.cells #[.int .i64 (A : Int), .int .i64 0, .int .i64 0, .int .i64 0, .int .i64 0] 50)).mono hs1))).trans (hu2.mono hs1')) hs1 1 (.int .i64 1)
    have hg2 := hb2.2.2.2.1
    have hb3 := but_store (hb2.trans (hu3.mono hg2)) hs1 2 (.int .i64 lo)
    have hb4 := but_store (hb3.trans (hu4.mono hb3.2.2.2.1)) hs1 3 (.int .i64 hi)
    have hE5 := eye_past hE4 hbF ((But.refl _ w1.heap.size w4).setCell 3 (.int .i64 hi))
    have hR5 := blk_but hR4 ((But.refl _ w1.heap.size w4).setCell 3 (.int .i64 hi)) hRF2
    obtain ⟨k1, k2, k3⟩ := take_end (w := w) ⟨A, 1, lo, hi, 0⟩ hE5 hR5 hne (Nat.le_refl _) hb4
    exact bodyPost_ret (results_cell (b := w.heap.size) (o := 0) rfl rfl k2.whole Try.underlying50 rfl (fd5_info _ _ _ _ _)) rfl ⟨rfl, k1, k3⟩
  · rw [if_neg h1]
    by_cases h34 : K = 3 ∨ K = 4
    · rw [if_pos h34]
      simp only [field.Fd.val]
      have c3 := fun w' hE => refSee_any b s2 w' hE 1000 (by omega) (by omega)
      generalize (eCount 1000 s2).1 = M at *
      generalize (eCount 1000 s2).2 = s3 at *
      unfold Saw at c1 c2 c3 ⊢
      clear h1
      rcases h34 with rfl | rfl
      · go_enter Try.func48, Try.ntmps48
        go_wp2_with (first
          | (go_at_call 47; ((with_reducible refine c1.mono ?_); rintro e w1 ⟨rfl, hE1, hu1⟩; have HR1 := hid (blk_but HR0.out hu1 hne); have hFn := Block.new w1 50 [.int .i64 (A : Int), .int .i64 0, .int .i64 0, .int .i64 0, .int .i64 0]; have hbF : b < w1.heap.size := hE1.lt; have hRF : w.heap.size < w1.heap.size := HR1.out.lt; have hRF2 : w.heap.size ≠ w1.heap.size := Nat.ne_of_lt hRF; have hFb : w1.heap.size ≠ b := Nat.ne_of_gt hbF))
          | (go_at_call 47; ((with_reducible refine (c2 _ (hE1.later (field.newB _ _))).mono ?_); rintro e w2 ⟨rfl, hE2, hu2⟩; have hR2 := blk_but (HR1.out.alloc _) hu2 hne; have hF2 := blk_but hFn hu2 hFb; have hE2' := eye_past hE2 hbF ((But.refl _ w1.heap.size w2).setCell 1 (.int .i64 3)); have y0 := hF2.cell 0; have y1 := hF2.cell 1; have y2 := hF2.cell 2; have y3 := hF2.cell 3; have y4 := hF2.cell 4; have q1 := hF2.frozen 1; have x0 := hR2.cell 0; have x1 := hR2.cell 1; have x2 := hR2.cell 2; have x3 := hR2.cell 3; have x4 := hR2.cell 4; have p0 := hR2.frozen 0; have p1 := hR2.frozen 1; have p2 := hR2.frozen 2; have p3 := hR2.frozen 3; have p4 := hR2.frozen 4))
          | (go_at_call 47; ((with_reducible refine (c3 _ hE2').mono ?_); rintro e w3 ⟨rfl, hE3, hu3⟩; have hR3 := blk_but (blk_but hR2 ((But.refl _ w1.heap.size w2).setCell 1 (.int .i64 3)) hRF2) hu3 hne; have hF3 := blk_but (hF2.setCell 1 (.int .i64 3)) hu3 hFb; have x0 := hR3.cell 0; have x1 := hR3.cell 1; have x2 := hR3.cell 2; have x3 := hR3.cell 3; have x4 := hR3.cell 4; have p0 := hR3.frozen 0; have p1 := hR3.frozen 1; have p2 := hR3.frozen 2; have p3 := hR3.frozen 3; have p4 := hR3.frozen 4; have y0 := hF3.cell 0; have y1 := hF3.cell 1; have y2 := hF3.cell 2; have y3 := hF3.cell 3; have y4 := hF3.cell 4; have q4 := hF3.frozen 4)))
        have hs1 : w.heap.size ≤ w1.heap.size := Nat.le_of_lt hRF
        have hb1 := (Below.but (g := b) HB0.out).trans (hu1.mono HB0.out.size)
        have hs1' : w.heap.size ≤ (w1.alloc (.cells #[.int .i64 (A : Int), .int .i64 0, .int .i64 0, .int .i64 0, .int .i64 0] 50)).heap.size := Nat.le_trans hs1 (field.newB w1 _).size
        have hb2 := but_store ((hb1.trans (Below.but (g := b) ((field.newB w1 (.cells #[.int .i64 (A : Int), .int .i64 0, .int .i64 0, .int .i64 0, .int .i64 0] 50)).mono hs1))).trans (hu2.mono hs1')) hs1 1 (.int .i64 3)
        have hg2 := hb2.2.2.2.1
        have hb3 := but_store (hb2.trans (hu3.mono hg2)) hs1 4 (.int .i64 (M : Int))
        have hE5 := eye_past hE3 hbF ((But.refl _ w1.heap.size w3).setCell 4 (.int .i64 (M : Int)))
        have hR5 := blk_but hR3 ((But.refl _ w1.heap.size w3).setCell 4 (.int .i64 (M : Int))) hRF2
        obtain ⟨k1, k2, k3⟩ := take_end (w := w) ⟨A, 3, 0, 0, M⟩ hE5 hR5 hne (Nat.le_refl _) hb3
        exact bodyPost_ret (results_cell (b := w.heap.size) (o := 0) rfl rfl k2.whole Try.underlying50 rfl (fd5_info _ _ _ _ _)) rfl ⟨rfl, k1, k3⟩
      · go_enter Try.func48, Try.ntmps48
        go_wp2_with (first
          | (go_at_call 47; ((with_reducible refine c1.mono ?_); rintro e w1 ⟨rfl, hE1, hu1⟩; have HR1 := hid (blk_but HR0.out hu1 hne); have hFn := Block.new w1 50 [.int .i64 (A : Int), .int .i64 0, .int .i64 0, .int .i64 0, .int .i64 0]; have hbF : b < w1.heap.size := hE1.lt; have hRF : w.heap.size < w1.heap.size := HR1.out.lt; have hRF2 : w.heap.size ≠ w1.heap.size := Nat.ne_of_lt hRF; have hFb : w1.heap.size ≠ b := Nat.ne_of_gt hbF))
          | (go_at_call 47; ((with_reducible refine (c2 _ (hE1.later (field.newB _ _))).mono ?_); rintro e w2 ⟨rfl, hE2, hu2⟩; have hR2 := blk_but (HR1.out.alloc _) hu2 hne; have hF2 := blk_but hFn hu2 hFb; have hE2' := eye_past hE2 hbF ((But.refl _ w1.heap.size w2).setCell 1 (.int .i64 4)); have y0 := hF2.cell 0; have y1 := hF2.cell 1; have y2 := hF2.cell 2; have y3 := hF2.cell 3; have y4 := hF2.cell 4; have q1 := hF2.frozen 1; have x0 := hR2.cell 0; have x1 := hR2.cell 1; have x2 := hR2.cell 2; have x3 := hR2.cell 3; have x4 := hR2.cell 4; have p0 := hR2.frozen 0; have p1 := hR2.frozen 1; have p2 := hR2.frozen 2; have p3 := hR2.frozen 3; have p4 := hR2.frozen 4))
          | (go_at_call 47; ((with_reducible refine (c3 _ hE2').mono ?_); rintro e w3 ⟨rfl, hE3, hu3⟩; have hR3 := blk_but (blk_but hR2 ((But.refl _ w1.heap.size w2).setCell 1 (.int .i64 4)) hRF2) hu3 hne; have hF3 := blk_but (hF2.setCell 1 (.int .i64 4)) hu3 hFb; have x0 := hR3.cell 0; have x1 := hR3.cell 1; have x2 := hR3.cell 2; have x3 := hR3.cell 3; have x4 := hR3.cell 4; have p0 := hR3.frozen 0; have p1 := hR3.frozen 1; have p2 := hR3.frozen 2; have p3 := hR3.frozen 3; have p4 := hR3.frozen 4; have y0 := hF3.cell 0; have y1 := hF3.cell 1; have y2 := hF3.cell 2; have y3 := hF3.cell 3; have y4 := hF3.cell 4; have q4 := hF3.frozen 4)))
        have hs1 : w.heap.size ≤ w1.heap.size := Nat.le_of_lt hRF
        have hb1 := (Below.but (g := b) HB0.out).trans (hu1.mono HB0.out.size)
        have hs1' : w.heap.size ≤ (w1.alloc (.cells #[.int .i64 (A : Int), .int .i64 0, .int .i64 0, .int .i64 0, .int .i64 0] 50)).heap.size := Nat.le_trans hs1 (field.newB w1 _).size
        have hb2 := but_store ((hb1.trans (Below.but (g := b) ((field.newB w1 (.cells #[.int .i64 (A : Int), .int .i64 0, .int .i64 0, .int .i64 0, .int .i64 0] 50)).mono hs1))).trans (hu2.mono hs1')) hs1 1 (.int .i64 4)
        have hg2 := hb2.2.2.2.1
        have hb3 := but_store (hb2.trans (hu3.mono hg2)) hs1 4 (.int .i64 (M : Int))
        have hE5 := eye_past hE3 hbF ((But.refl _ w1.heap.size w3).setCell 4 (.int .i64 (M : Int)))
        have hR5 := blk_but hR3 ((But.refl _ w1.heap.size w3).setCell 4 (.int .i64 (M : Int))) hRF2
        obtain ⟨k1, k2, k3⟩ := take_end (w := w) ⟨A, 4, 0, 0, M⟩ hE5 hR5 hne (Nat.le_refl _) hb3
        exact bodyPost_ret (results_cell (b := w.heap.size) (o := 0) rfl rfl k2.whole Try.underlying50 rfl (fd5_info _ _ _ _ _)) rfl ⟨rfl, k1, k3⟩
    · rw [if_neg h34]
      simp only [field.Fd.val]
      unfold Saw at c1 c2 ⊢
      have d1 : ((K : Int) == 1) = false := by rw [beq_eq_false_iff_ne]; omega
      have d3 : ((K : Int) == 3) = false := by rw [beq_eq_false_iff_ne]; omega
      have d4 : ((K : Int) == 4) = false := by rw [beq_eq_false_iff_ne]; omega
      clear h1 h34
      go_enter Try.func48, Try.ntmps48
      go_wp2_with (first
        | (go_at_call 47; ((with_reducible refine c1.mono ?_); rintro e w1 ⟨rfl, hE1, hu1⟩; have HR1 := hid (blk_but HR0.out hu1 hne); have hFn := Block.new w1 50 [.int .i64 (A : Int), .int .i64 0, .int .i64 0, .int .i64 0, .int .i64 0]; have hbF : b < w1.heap.size := hE1.lt; have hRF : w.heap.size < w1.heap.size := HR1.out.lt; have hRF2 : w.heap.size ≠ w1.heap.size := Nat.ne_of_lt hRF; have hFb : w1.heap.size ≠ b := Nat.ne_of_gt hbF))
        | (go_at_call 47; ((with_reducible refine (c2 _ (hE1.later (field.newB _ _))).mono ?_); rintro e w2 ⟨rfl, hE2, hu2⟩; have hR2 := blk_but (HR1.out.alloc _) hu2 hne; have hF2 := blk_but hFn hu2 hFb; have hE2' := eye_past hE2 hbF ((But.refl _ w1.heap.size w2).setCell 1 (.int .i64 (K : Int))); have y0 := hF2.cell 0; have y1 := hF2.cell 1; have y2 := hF2.cell 2; have y3 := hF2.cell 3; have y4 := hF2.cell 4; have q1 := hF2.frozen 1; have x0 := hR2.cell 0; have x1 := hR2.cell 1; have x2 := hR2.cell 2; have x3 := hR2.cell 3; have x4 := hR2.cell 4; have p0 := hR2.frozen 0; have p1 := hR2.frozen 1; have p2 := hR2.frozen 2; have p3 := hR2.frozen 3; have p4 := hR2.frozen 4)))
      have hs1 : w.heap.size ≤ w1.heap.size := Nat.le_of_lt hRF
      have hb1 := (Below.but (g := b) HB0.out).trans (hu1.mono HB0.out.size)
      have hs1' : w.heap.size ≤ (w1.alloc (.cells #[.int .i64 (A : Int), .int .i64 0, .int .i64 0, .int .i64 0, .int .i64 0] 50)).heap.size := Nat.le_trans hs1 (field.newB w1 _).size
      have hb2 := but_store ((hb1.trans (Below.but (g := b) ((field.newB w1 (.cells #[.int .i64 (A : Int), .int .i64 0, .int .i64 0, .int .i64 0, .int .i64 0] 50)).mono hs1))).trans (hu2.mono hs1')) hs1 1 (.int .i64 (K : Int))
      have hR5 := blk_but hR2 ((But.refl _ w1.heap.size w2).setCell 1 (.int .i64 (K : Int))) hRF2
      obtain ⟨k1, k2, k3⟩ := take_end (w := w) ⟨A, K, 0, 0, 0⟩ hE2' hR5 hne (Nat.le_refl _) hb2
      exact bodyPost_ret (results_cell (b := w.heap.size) (o := 0) rfl rfl k2.whole Try.underlying50 rfl (fd5_info _ _ _ _ _)) rfl ⟨rfl, k1, k3⟩
end Go.Proofs.Ytacigmnnekphmaa.schema
/- Contract of the reference's Span of layer 12 (field). No condition. -/
namespace Go.Proofs.Ytacigmnnekphmaa.field
open Go.RowKit
set_option linter.unusedVariables false

theorem results_tmp4 {fn : Func} {t u v x : Tmp} (h : fn.results = #[.tmp t, .tmp u, .tmp v, .tmp x]) (tmps : Array Value) (P : Program) (w : World) :
    (results fn tmps).run P w = .ok (.tuple #[tmps.getD t undef, tmps.getD u undef, tmps.getD v undef, tmps.getD x undef]) w := by
  simp [results, h]
/-- a triple of numbers and a no -/
def SpanNo (w : World) (e : Ending) (w' : World) : Prop := (∃ a b c : Int, e = .returned (.tuple #[.int .i64 a, .int .i64 b, .int .i64 c, .bool false])) ∧ Below w.heap.size w w'
def SpanYes (a b c : Int) (w : World) (e : Ending) (w' : World) : Prop := e = .returned (.tuple #[.int .i64 a, .int .i64 b, .int .i64 c, .bool true]) ∧ Below w.heap.size w w'
theorem span_yes (f : Fd) (h : f.Right) (w : World) : Calls Try.prog 51 #[.agg #[.int .i64 f.id, .int .i64 f.kind, .int .i64 f.lo, .int .i64 f.hi, .int .i64 f.most]] w (SpanYes f.lo f.great f.long w) := by
  have HB := hid (belowF f w)
  obtain ⟨i, k, lo, hi, m⟩ := f
  obtain ⟨⟨h1, h2⟩, h⟩ := h
  simp only at h h1 h2 HB ⊢
  have g1 : i ≥ 0 := h1
  unfold SpanYes
  rcases h with ⟨rfl, h3, h4, h5, rfl⟩ | ⟨rfl, ⟨rfl, rfl⟩, rfl⟩ | ⟨rfl, ⟨rfl, rfl⟩, h3, h4⟩ | ⟨rfl, ⟨rfl, rfl⟩, h3, h4⟩
  · have g4 : lo ≥ -1099511627776 := h4
    rw [show Fd.great ⟨i, 1, lo, hi, 0⟩ = hi from rfl, show Fd.long ⟨i, 1, lo, hi, 0⟩ = 0 from rfl]
    go_enter Try.func51, Try.ntmps51
    go_wp2
    go_quiet (fail)
    go_wp2
    refine bodyPost_ret (results_tmp4 rfl _ _ _) rfl ?_
    exact ⟨rfl, HB.out _ (below_drewN (Below.refl _ _) _)⟩
  · rw [show Fd.great ⟨i, 2, 0, 0, 0⟩ = 1 from rfl, show Fd.long ⟨i, 2, 0, 0, 0⟩ = 0 from rfl]
    go_enter Try.func51, Try.ntmps51
    go_wp2
    go_quiet (fail)
    go_wp2
    refine bodyPost_ret (results_tmp4 rfl _ _ _) rfl ?_
    exact ⟨rfl, HB.out _ (below_drewN (Below.refl _ _) _)⟩
  · rw [show Fd.great ⟨i, 3, 0, 0, m⟩ = m - 1 from rfl, show Fd.long ⟨i, 3, 0, 0, m⟩ = 0 from rfl]
    have g3 : m ≥ 1 := h3
    go_enter Try.func51, Try.ntmps51
    go_wp2
    go_quiet (fail)
    go_wp2
    refine bodyPost_ret (results_tmp4 rfl _ _ _) rfl ?_
    exact ⟨rfl, HB.out _ (below_drewN (Below.refl _ _) _)⟩
  · rw [show Fd.great ⟨i, 4, 0, 0, m⟩ = 0 from rfl, show Fd.long ⟨i, 4, 0, 0, m⟩ = m from rfl]
    have g3 : m ≥ 0 := h3
    go_enter Try.func51, Try.ntmps51
    go_wp2
    go_quiet (fail)
    go_wp2
    refine bodyPost_ret (results_tmp4 rfl _ _ _) rfl ?_
    exact ⟨rfl, HB.out _ (below_drewN (Below.refl _ _) _)⟩
set_option maxHeartbeats 4000000 in
theorem span_no (f : Fd) (h : ¬ f.Right) (w : World) : Calls Try.prog 51 #[.agg #[.int .i64 f.id, .int .i64 f.kind, .int .i64 f.lo, .int .i64 f.hi, .int .i64 f.most]] w (SpanNo w) := by
  have HB := hid (belowF f w)
  obtain ⟨i, k, lo, hi, m⟩ := f
  replace h := Fd.wrong h
  simp only at h HB ⊢
  unfold SpanNo
  by_cases a0 : (0 ≤ i ∧ i ≤ 255)
  · have h : _ := Or.resolve_left h (by omega)
    obtain ⟨⟨h1, h2⟩, h⟩ := h
    have g1 : i ≥ 0 := h1
    clear a0
    rcases h with ⟨rfl, h⟩ | ⟨rfl, h⟩ | ⟨rfl, h⟩ | ⟨rfl, h⟩ | ⟨n1, n2, n3, n4⟩
    · by_cases c1 : lo ≥ -1099511627776
      · by_cases c2 : hi ≤ 1099511627776
        · by_cases c3 : lo ≤ hi
          · have hd : (m == 0) = false := by rw [beq_eq_false_iff_ne]; omega
            clear h
            go_enter Try.func51, Try.ntmps51
            go_wp2
            go_quiet (fail)
            go_wp2
            refine bodyPost_ret (results_tmp4 rfl _ _ _) rfl ?_
            exact ⟨⟨_, _, _, rfl⟩, HB.out _ (below_drewN (Below.refl _ _) _)⟩
          · have hd : decide (lo ≤ hi) = false := decide_eq_false c3
            clear h c3
            go_enter Try.func51, Try.ntmps51
            go_wp2
            go_quiet (fail)
            go_wp2
            refine bodyPost_ret (results_tmp4 rfl _ _ _) rfl ?_
            exact ⟨⟨_, _, _, rfl⟩, HB.out _ (below_drewN (Below.refl _ _) _)⟩
        · have hd : decide (hi ≤ 1099511627776) = false := decide_eq_false c2
          clear h c2
          go_enter Try.func51, Try.ntmps51
          go_wp2
          go_quiet (fail)
          go_wp2
          refine bodyPost_ret (results_tmp4 rfl _ _ _) rfl ?_
          exact ⟨⟨_, _, _, rfl⟩, HB.out _ (below_drewN (Below.refl _ _) _)⟩
      · have hd : decide (lo ≥ -1099511627776) = false := decide_eq_false c1
        clear h c1
        go_enter Try.func51, Try.ntmps51
        go_wp2
        go_quiet (fail)
        go_wp2
        refine bodyPost_ret (results_tmp4 rfl _ _ _) rfl ?_
        exact ⟨⟨_, _, _, rfl⟩, HB.out _ (below_drewN (Below.refl _ _) _)⟩
    · by_cases c1 : lo = 0
      · by_cases c2 : hi = 0
        · subst c1 c2
          have hd : (m == 0) = false := by rw [beq_eq_false_iff_ne]; omega
          clear h
          go_enter Try.func51, Try.ntmps51
          go_wp2
          go_quiet (fail)
          go_wp2
          refine bodyPost_ret (results_tmp4 rfl _ _ _) rfl ?_
          exact ⟨⟨_, _, _, rfl⟩, HB.out _ (below_drewN (Below.refl _ _) _)⟩
        · subst c1
          have hd : (hi == 0) = false := by rw [beq_eq_false_iff_ne]; omega
          clear h c2
          go_enter Try.func51, Try.ntmps51
          go_wp2
          go_quiet (fail)
          go_wp2
          refine bodyPost_ret (results_tmp4 rfl _ _ _) rfl ?_
          exact ⟨⟨_, _, _, rfl⟩, HB.out _ (below_drewN (Below.refl _ _) _)⟩
      · have hd : (lo == 0) = false := by rw [beq_eq_false_iff_ne]; omega
        clear h c1
        go_enter Try.func51, Try.ntmps51
        go_wp2
        go_quiet (fail)
        go_wp2
        refine bodyPost_ret (results_tmp4 rfl _ _ _) rfl ?_
        exact ⟨⟨_, _, _, rfl⟩, HB.out _ (below_drewN (Below.refl _ _) _)⟩
    · by_cases c1 : lo = 0
      · by_cases c2 : hi = 0
        · subst c1 c2
          by_cases c3 : m ≥ 1
          · have hd : decide (m ≤ 1000) = false := decide_eq_false (by omega)
            clear h
            go_enter Try.func51, Try.ntmps51
            go_wp2
            go_quiet (fail)
            go_wp2
            refine bodyPost_ret (results_tmp4 rfl _ _ _) rfl ?_
            exact ⟨⟨_, _, _, rfl⟩, HB.out _ (below_drewN (Below.refl _ _) _)⟩
          · have hd : decide (m ≥ 1) = false := decide_eq_false c3
            clear h c3
            go_enter Try.func51, Try.ntmps51
            go_wp2
            go_quiet (fail)
            go_wp2
            refine bodyPost_ret (results_tmp4 rfl _ _ _) rfl ?_
            exact ⟨⟨_, _, _, rfl⟩, HB.out _ (below_drewN (Below.refl _ _) _)⟩
        · subst c1
          have hd : (hi == 0) = false := by rw [beq_eq_false_iff_ne]; omega
          clear h c2
          go_enter Try.func51, Try.ntmps51
          go_wp2
          go_quiet (fail)
          go_wp2
          refine bodyPost_ret (results_tmp4 rfl _ _ _) rfl ?_
          exact ⟨⟨_, _, _, rfl⟩, HB.out _ (below_drewN (Below.refl _ _) _)⟩
      · have hd : (lo == 0) = false := by rw [beq_eq_false_iff_ne]; omega
        clear h c1
        go_enter Try.func51, Try.ntmps51
        go_wp2
        go_quiet (fail)
        go_wp2
        refine bodyPost_ret (results_tmp4 rfl _ _ _) rfl ?_
        exact ⟨⟨_, _, _, rfl⟩, HB.out _ (below_drewN (Below.refl _ _) _)⟩
    · by_cases c1 : lo = 0
      · by_cases c2 : hi = 0
        · subst c1 c2
          by_cases c3 : m ≥ 0
          · have hd : decide (m ≤ 32) = false := decide_eq_false (by omega)
            clear h
            go_enter Try.func51, Try.ntmps51
            go_wp2
            go_quiet (fail)
            go_wp2
            refine bodyPost_ret (results_tmp4 rfl _ _ _) rfl ?_
            exact ⟨⟨_, _, _, rfl⟩, HB.out _ (below_drewN (Below.refl _ _) _)⟩
          · have hd : decide (m ≥ 0) = false := decide_eq_false c3
            clear h c3
            go_enter Try.func51, Try.ntmps51
            go_wp2
            go_quiet (fail)
            go_wp2
            refine bodyPost_ret (results_tmp4 rfl _ _ _) rfl ?_
            exact ⟨⟨_, _, _, rfl⟩, HB.out _ (below_drewN (Below.refl _ _) _)⟩
        · subst c1
          have hd : (hi == 0) = false := by rw [beq_eq_false_iff_ne]; omega
          clear h c2
          go_enter Try.func51, Try.ntmps51
          go_wp2
          go_quiet (fail)
          go_wp2
          refine bodyPost_ret (results_tmp4 rfl _ _ _) rfl ?_
          exact ⟨⟨_, _, _, rfl⟩, HB.out _ (below_drewN (Below.refl _ _) _)⟩
      · have hd : (lo == 0) = false := by rw [beq_eq_false_iff_ne]; omega
        clear h c1
        go_enter Try.func51, Try.ntmps51
        go_wp2
        go_quiet (fail)
        go_wp2
        refine bodyPost_ret (results_tmp4 rfl _ _ _) rfl ?_
        exact ⟨⟨_, _, _, rfl⟩, HB.out _ (below_drewN (Below.refl _ _) _)⟩
    · have e1 : (k == 1) = false := by rw [beq_eq_false_iff_ne]; exact n1
      have e2 : (k == 2) = false := by rw [beq_eq_false_iff_ne]; exact n2
      have e3 : (k == 3) = false := by rw [beq_eq_false_iff_ne]; exact n3
      have e4 : (k == 4) = false := by rw [beq_eq_false_iff_ne]; exact n4
      clear n1 n2 n3 n4
      go_enter Try.func51, Try.ntmps51
      go_wp2
      go_wp2
      refine bodyPost_ret (results_tmp4 rfl _ _ _) rfl ?_
      exact ⟨⟨_, _, _, rfl⟩, HB.out _ (Below.refl _ _)⟩
  · clear h
    by_cases a1 : i ≥ 0
    · have hd : decide (i ≤ 255) = false := decide_eq_false (by omega)
      clear a0
      by_cases k1 : k = 1
      · subst k1
        go_enter Try.func51, Try.ntmps51
        go_wp2
        go_quiet (fail)
        go_wp2
        refine bodyPost_ret (results_tmp4 rfl _ _ _) rfl ?_
        exact ⟨⟨_, _, _, rfl⟩, HB.out _ (below_drewN (Below.refl _ _) _)⟩
      · by_cases k2 : k = 2
        · subst k2
          go_enter Try.func51, Try.ntmps51
          go_wp2
          go_quiet (fail)
          go_wp2
          refine bodyPost_ret (results_tmp4 rfl _ _ _) rfl ?_
          exact ⟨⟨_, _, _, rfl⟩, HB.out _ (below_drewN (Below.refl _ _) _)⟩
        · by_cases k3 : k = 3
          · subst k3
            go_enter Try.func51, Try.ntmps51
            go_wp2
            go_quiet (fail)
            go_wp2
            refine bodyPost_ret (results_tmp4 rfl _ _ _) rfl ?_
            exact ⟨⟨_, _, _, rfl⟩, HB.out _ (below_drewN (Below.refl _ _) _)⟩
          · by_cases k4 : k = 4
            · subst k4
              go_enter Try.func51, Try.ntmps51
              go_wp2
              go_quiet (fail)
              go_wp2
              refine bodyPost_ret (results_tmp4 rfl _ _ _) rfl ?_
              exact ⟨⟨_, _, _, rfl⟩, HB.out _ (below_drewN (Below.refl _ _) _)⟩
            · have e1 : (k == 1) = false := by rw [beq_eq_false_iff_ne]; exact k1
              have e2 : (k == 2) = false := by rw [beq_eq_false_iff_ne]; exact k2
              have e3 : (k == 3) = false := by rw [beq_eq_false_iff_ne]; exact k3
              have e4 : (k == 4) = false := by rw [beq_eq_false_iff_ne]; exact k4
              clear k1 k2 k3 k4
              go_enter Try.func51, Try.ntmps51
              go_wp2
              go_wp2
              refine bodyPost_ret (results_tmp4 rfl _ _ _) rfl ?_
              exact ⟨⟨_, _, _, rfl⟩, HB.out _ (Below.refl _ _)⟩
    · have hd : decide (i ≥ 0) = false := decide_eq_false a1
      clear a0 a1
      by_cases k1 : k = 1
      · subst k1
        go_enter Try.func51, Try.ntmps51
        go_wp2
        go_quiet (fail)
        go_wp2
        refine bodyPost_ret (results_tmp4 rfl _ _ _) rfl ?_
        exact ⟨⟨_, _, _, rfl⟩, HB.out _ (below_drewN (Below.refl _ _) _)⟩
      · by_cases k2 : k = 2
        · subst k2
          go_enter Try.func51, Try.ntmps51
          go_wp2
          go_quiet (fail)
          go_wp2
          refine bodyPost_ret (results_tmp4 rfl _ _ _) rfl ?_
          exact ⟨⟨_, _, _, rfl⟩, HB.out _ (below_drewN (Below.refl _ _) _)⟩
        · by_cases k3 : k = 3
          · subst k3
            go_enter Try.func51, Try.ntmps51
            go_wp2
            go_quiet (fail)
            go_wp2
            refine bodyPost_ret (results_tmp4 rfl _ _ _) rfl ?_
            exact ⟨⟨_, _, _, rfl⟩, HB.out _ (below_drewN (Below.refl _ _) _)⟩
          · by_cases k4 : k = 4
            · subst k4
              go_enter Try.func51, Try.ntmps51
              go_wp2
              go_quiet (fail)
              go_wp2
              refine bodyPost_ret (results_tmp4 rfl _ _ _) rfl ?_
              exact ⟨⟨_, _, _, rfl⟩, HB.out _ (below_drewN (Below.refl _ _) _)⟩
            · have e1 : (k == 1) = false := by rw [beq_eq_false_iff_ne]; exact k1
              have e2 : (k == 2) = false := by rw [beq_eq_false_iff_ne]; exact k2
              have e3 : (k == 3) = false := by rw [beq_eq_false_iff_ne]; exact k3
              have e4 : (k == 4) = false := by rw [beq_eq_false_iff_ne]; exact k4
              clear k1 k2 k3 k4
              go_enter Try.func51, Try.ntmps51
              go_wp2
              go_wp2
              refine bodyPost_ret (results_tmp4 rfl _ _ _) rfl ?_
              exact ⟨⟨_, _, _, rfl⟩, HB.out _ (Below.refl _ _)⟩
end Go.Proofs.Ytacigmnnekphmaa.field
/- Contract of the reference's Span, seen from an elder world. No condition. -/
namespace Go.Proofs.Ytacigmnnekphmaa.field
open Go.RowKit
set_option linter.unusedVariables false

theorem span_from (f : Fd) (h : f.Right) {w0 w : World} (hb : Below w0.heap.size w0 w) : Calls Try.prog 51 #[.agg #[.int .i64 f.id, .int .i64 f.kind, .int .i64 f.lo, .int .i64 f.hi, .int .i64 f.most]] w fun e w' => e = .returned (.tuple #[.int .i64 f.lo, .int .i64 f.great, .int .i64 f.long, .bool true]) ∧ Below w0.heap.size w0 w' :=
  (span_yes f h w).mono fun _ _ ⟨he, hw⟩ => ⟨he, hb.trans (hw.mono hb.size)⟩
theorem span_from_no (f : Fd) (h : ¬ f.Right) {w0 w : World} (hb : Below w0.heap.size w0 w) : Calls Try.prog 51 #[.agg #[.int .i64 f.id, .int .i64 f.kind, .int .i64 f.lo, .int .i64 f.hi, .int .i64 f.most]] w fun e w' => (∃ a b c : Int, e = .returned (.tuple #[.int .i64 a, .int .i64 b, .int .i64 c, .bool false])) ∧ Below w0.heap.size w0 w' :=
  (span_no f h w).mono fun _ _ ⟨he, hw⟩ => ⟨he, hb.trans (hw.mono hb.size)⟩
end Go.Proofs.Ytacigmnnekphmaa.field
/- Contracts of the reference's Right, wide, Size of layer 12 (field). No condition. -/
namespace Go.Proofs.Ytacigmnnekphmaa.field
open Go.RowKit
set_option linter.unusedVariables false

theorem refRight_any (f : Fd) (w : World) : Calls Try.prog 30 #[.agg #[.int .i64 f.id, .int .i64 f.kind, .int .i64 f.lo, .int .i64 f.hi, .int .i64 f.most]] w (Gives (.bool (decide f.Right)) w) := by
  have HB := hid (belowF f w)
  unfold Gives
  by_cases h : f.Right
  · rw [decide_eq_true h]
    have cs := span_from f h (w0 := (w.alloc (.cells #[.int .i64 f.id, .int .i64 f.kind, .int .i64 f.lo, .int .i64 f.hi, .int .i64 f.most] 50))) (Below.refl _ _)
    clear h
    generalize f.great = G at *
    generalize f.long = L at *
    go_enter Try.func30, Try.ntmps30
    go_wp2_with (go_at_call 51; (with_reducible refine cs.mono ?_); rintro e w1 ⟨rfl, hb1⟩)
    go_ret
    exact ⟨rfl, HB.out _ hb1⟩
  · rw [decide_eq_false h]
    have cs := span_from_no f h (w0 := (w.alloc (.cells #[.int .i64 f.id, .int .i64 f.kind, .int .i64 f.lo, .int .i64 f.hi, .int .i64 f.most] 50))) (Below.refl _ _)
    clear h
    go_enter Try.func30, Try.ntmps30
    go_wp2_with (go_at_call 51; (with_reducible refine cs.mono ?_); rintro e w1 ⟨⟨a, b, c, rfl⟩, hb1⟩)
    go_ret
    exact ⟨rfl, HB.out _ hb1⟩
theorem refWide_any (n : Nat) (hn : n < 281474976710656) (w : World) : Calls Try.prog 54 #[.int .i64 (n : Int)] w (Quiet (.int .i64 (wide n : Int)) w) := by
  go_enter Try.func54, Try.ntmps54
  go_wp2
  go_loopw [0, 3] (fun m k wr => ∃ (q j : Nat), m = .int .i64 (q : Int) ∧ k = .int .i64 (j : Int) ∧ q ≤ n ∧ j ≤ 100 ∧ Hid (j + wide q = wide n) ∧ w = wr) (fun m k wr => (intOf m).toNat)
  case atStart => exact ⟨n, 0, rfl, rfl, Nat.le_refl _, by omega, hid (by omega), rfl⟩
  case round =>
    obtain ⟨q, j, rfl, rfl, hq, hj, hw, rfl⟩ := hrel
    by_cases hlt : 0 < q
    · have hd := wide_div hlt (by omega)
      have hw6 := wide_le n
      have := hw.out
      have hj6 : j < 7 := by omega
      have HN : Hid (j + 1 + wide (q / 256) = wide n) := hid (by omega)
      clear hw hd this
      go_wp2
      go_round
      · exact ⟨q / 256, j + 1, by simp, by simp, by omega, by omega, HN, trivial⟩
      · simp [intOf]; omega
    · obtain rfl : q = 0 := by omega
      have hj2 := hw.out
      rw [show wide 0 = 0 from rfl] at hj2
      obtain rfl : j = wide n := by omega
      clear hw hj2 hlt
      generalize wide n = W at *
      go_wp2
      go_ret
      exact ⟨rfl, 0, rfl⟩
theorem refSize_any (f : Fd) (w : World) : Calls Try.prog 32 #[.agg #[.int .i64 f.id, .int .i64 f.kind, .int .i64 f.lo, .int .i64 f.hi, .int .i64 f.most]] w (Gives (.int .i64 (f.size : Int)) w) := by
  have HB := hid (belowF f w)
  have HS := hid (five f w)
  have hsz : f.size = if f.Right then (if f.kind = 4 then 1 + f.most.toNat else wide (f.great - f.lo).toNat) else 0 := rfl
  rw [hsz]
  unfold Gives
  by_cases hr : f.Right
  · rw [if_pos hr]
    have cs := span_from f hr (w0 := (w.alloc (.cells #[.int .i64 f.id, .int .i64 f.kind, .int .i64 f.lo, .int .i64 f.hi, .int .i64 f.most] 50))) (Below.refl _ _)
    have hsp := hr.span
    by_cases h4 : f.kind = 4
    · rw [if_pos h4]
      have hl : f.long = f.most := by unfold Fd.long; rw [if_pos h4]
      rw [hl] at cs
      have hm : 0 ≤ f.most ∧ f.most ≤ 32 := by unfold Fd.Right at hr; omega
      obtain ⟨M, hM⟩ := Int.eq_ofNat_of_zero_le hm.1
      rw [hM] at cs HB HS ⊢
      rw [show ((M : Int)).toNat = M from rfl]
      have m2 : M ≤ 32 := by omega
      have e4 : (f.kind == 4) = true := by rw [beq_iff_eq]; exact h4
      clear hl hm hsp hr hsz h4
      generalize f.great = G at *
      go_enter Try.func32, Try.ntmps32
      go_wp2_with (go_at_call 51; go_loud ((with_reducible refine cs.mono ?_); rintro e w1 ⟨rfl, hb1⟩; have hk1 := HS.out _ hb1))
      go_ret
      exact ⟨ret_int (by omega), HB.out _ hb1⟩
    · rw [if_neg h4]
      obtain ⟨T, hT⟩ : ∃ T : Nat, f.great - f.lo = (T : Int) := ⟨(f.great - f.lo).toNat, by omega⟩
      have hTb : T ≤ 2199023255552 := by omega
      rw [hT]
      rw [show ((T : Int)).toNat = T from rfl]
      have cw := refWide_any T (by omega)
      have e4 : (f.kind == 4) = false := by rw [beq_eq_false_iff_ne]; exact h4
      have s1 := hsp.2.2.1
      have s2 := hsp.2.2.2.1
      clear hsp hr hsz h4
      generalize f.great = G at *
      generalize f.long = L at *
      obtain rfl : G = f.lo + (T : Int) := by omega
      clear hT
      have hsub : f.lo + (T : Int) - f.lo = (T : Int) := by omega
      go_enter Try.func32, Try.ntmps32
      go_wp2_with (first
        | (go_at_call 51; (with_reducible refine cs.mono ?_); rintro e w1 ⟨rfl, hb1⟩; have hk1 := HS.out _ hb1)
        | (go_at_call 54; (try rw [hsub]); (with_reducible refine (cw _).mono ?_); rintro e w2 ⟨rfl, nd, rfl⟩))
      go_ret
      exact ⟨rfl, HB.out _ (below_drewN hb1 _)⟩
  · rw [if_neg hr]
    have cs := span_from_no f hr (w0 := (w.alloc (.cells #[.int .i64 f.id, .int .i64 f.kind, .int .i64 f.lo, .int .i64 f.hi, .int .i64 f.most] 50))) (Below.refl _ _)
    clear hr hsz
    go_enter Try.func32, Try.ntmps32
    go_wp2_with (go_at_call 51; (with_reducible refine cs.mono ?_); rintro e w1 ⟨⟨a, b, c, rfl⟩, hb1⟩; have hk1 := HS.out _ hb1)
    go_ret
    exact ⟨rfl, HB.out _ hb1⟩
end Go.Proofs.Ytacigmnnekphmaa.field
/- Contracts of the reference of layer 13 (schema): At, Find, Long. No condition. -/
namespace Go.Proofs.Ytacigmnnekphmaa.schema
open Go.RowKit
open Go.Proofs.Ytacigmnnekphmaa.field (Gives newB gives_from refSize_any)
set_option linter.unusedVariables false

theorem refAt_any (i : Int) (a : Option Addr) (cap : Nat) (L : List field.Fd) (x : Int) (w : World) (h : field.Fds w a L) (hL : L.length ≤ maxLen) :
    Calls Try.prog 16 #[.agg #[.int .i64 i, .slice a L.length cap], .int .i64 x] w (Gives (.int .i64 (firstAt (ids L) x)) w) := by
  have hml : (L.length : Int) ≤ 9223372036854775807 := by unfold maxLen at hL; omega
  have HX := hid (boxM i a L cap w)
  have HF := hid (h.below (newB w (.cells #[.int .i64 i, .slice a L.length cap] 29)))
  obtain ⟨r, hr⟩ : ∃ r : Int, Hid (firstAt (ids L) x = r) := ⟨_, rfl⟩
  rw [hr.out]
  unfold Gives
  clear h hL
  go_enter Try.func16, Try.ntmps16
  go_wp2
  go_loopw [5] (fun n wr => ∃ k : Nat, k ≤ L.length ∧ n = .int .i64 (k : Int) ∧ Hid (x ∉ (ids L).take k) ∧ Hid (Below (w.alloc (.cells #[.int .i64 i, .slice a L.length cap] 29)).heap.size (w.alloc (.cells #[.int .i64 i, .slice a L.length cap] 29)) wr)) (fun n _ => L.length - (intOf n).toNat)
  case atStart => exact ⟨0, Nat.zero_le _, rfl, hid (by simp), hid (Below.refl _ _)⟩
  case round =>
    obtain ⟨k, hk, rfl, HNO, HB⟩ := hrel
    obtain ⟨z0, z1, hbo⟩ := HX.out _ HB.out
    by_cases hlt : k < L.length
    · obtain ⟨b, off, p, rfl, hbl, hp, c0, c1, c2, c3, c4⟩ := field_at HF.out HB.out hlt
      have i1 : (k : Int) < L.length := by omega
      have HHIT := hid (fun e => first_hit HNO.out ((ids_at hp).trans (congrArg some e)))
      have HNX := hid (fun e => not_take_succ HNO.out (ids_at hp) e)
      clear hp
      by_cases hx : p.id = x
      · have hd : (p.id == x) = true := beq_iff_eq.2 hx
        obtain rfl : (k : Int) = r := by rw [← hr.out]; exact (HHIT.out hx).symm
        clear hx
        go_wp2
        go_ret
        exact ⟨rfl, hbo⟩
      · have hd : (p.id == x) = false := beq_eq_false_iff_ne.2 hx
        have HXX := hid hx
        clear hx
        go_wp2
        exact ⟨⟨k + 1, by omega, by go_num, hid (HNX.out HXX.out), HB⟩, by simp [intOf]; omega⟩
    · obtain rfl : k = L.length := by omega
      obtain rfl : -1 = r := by rw [← hr.out]; have := HNO.out; rw [List.take_of_length_le (by rw [ids_length]; exact Nat.le_refl _)] at this; exact (first_none this).symm
      go_wp2
      go_ret
      exact ⟨rfl, hbo⟩
theorem refFind_any (i : Int) (a : Option Addr) (cap : Nat) (L : List Fm) (x : Int) (w : World) (h : FmL w a L) (hL : L.length ≤ maxLen) :
    Calls Try.prog 9 #[.agg #[.int .i64 i, .slice a L.length cap], .int .i64 x] w (Gives (.int .i64 (firstAt (fids L) x)) w) := by
  have hml : (L.length : Int) ≤ 9223372036854775807 := by unfold maxLen at hL; omega
  have HX := hid (boxS i a L cap w)
  have HF := hid (h.below (newB w (.cells #[.int .i64 i, .slice a L.length cap] 24)))
  obtain ⟨r, hr⟩ : ∃ r : Int, Hid (firstAt (fids L) x = r) := ⟨_, rfl⟩
  rw [hr.out]
  unfold Gives
  clear h hL
  go_enter Try.func9, Try.ntmps9
  go_wp2
  go_loopw [5] (fun n wr => ∃ k : Nat, k ≤ L.length ∧ n = .int .i64 (k : Int) ∧ Hid (x ∉ (fids L).take k) ∧ Hid (Below (w.alloc (.cells #[.int .i64 i, .slice a L.length cap] 24)).heap.size (w.alloc (.cells #[.int .i64 i, .slice a L.length cap] 24)) wr)) (fun n _ => L.length - (intOf n).toNat)
  case atStart => exact ⟨0, Nat.zero_le _, rfl, hid (by simp), hid (Below.refl _ _)⟩
  case round =>
    obtain ⟨k, hk, rfl, HNO, HB⟩ := hrel
    obtain ⟨z0, z1, hbo⟩ := HX.out _ HB.out
    by_cases hlt : k < L.length
    · obtain ⟨b, off, p, rfl, hbl, hp, c0, c1, _, _⟩ := form_at HF.out HB.out hlt
      have i1 : (k : Int) < L.length := by omega
      have HHIT := hid (fun e => first_hit HNO.out ((fids_at hp).trans (congrArg some e)))
      have HNX := hid (fun e => not_take_succ HNO.out (fids_at hp) e)
      clear hp
      by_cases hx : p.id = x
      · have hd : (p.id == x) = true := beq_iff_eq.2 hx
        obtain rfl : (k : Int) = r := by rw [← hr.out]; exact (HHIT.out hx).symm
        clear hx
        go_wp2
        go_ret
        exact ⟨rfl, hbo⟩
      · have hd : (p.id == x) = false := beq_eq_false_iff_ne.2 hx
        have HXX := hid hx
        clear hx
        go_wp2
        exact ⟨⟨k + 1, by omega, by go_num, hid (HNX.out HXX.out), HB⟩, by simp [intOf]; omega⟩
    · obtain rfl : k = L.length := by omega
      obtain rfl : -1 = r := by rw [← hr.out]; have := HNO.out; rw [List.take_of_length_le (by rw [fids_length]; exact Nat.le_refl _)] at this; exact (first_none this).symm
      go_wp2
      go_ret
      exact ⟨rfl, hbo⟩
theorem refLong_any (i : Int) (a : Option Addr) (cap : Nat) (L : List field.Fd) (w : World) (h : field.Fds w a L) (hL : L.length ≤ 40) :
    Calls Try.prog 14 #[.agg #[.int .i64 i, .slice a L.length cap]] w (Gives (.int .i64 (size L : Int)) w) := by
  have HX := hid (boxM i a L cap w)
  have HF := hid (h.below (newB w (.cells #[.int .i64 i, .slice a L.length cap] 29)))
  obtain ⟨S, hS⟩ : ∃ S : Nat, Hid (size L = S) := ⟨_, rfl⟩
  rw [hS.out]
  unfold Gives
  clear h
  go_enter Try.func14, Try.ntmps14
  go_wp2
  go_loopw [3, 4] (fun s n wr => ∃ k : Nat, k ≤ L.length ∧ s = .int .i64 (size (L.take k) : Int) ∧ n = .int .i64 (k : Int) ∧ Hid (Below (w.alloc (.cells #[.int .i64 i, .slice a L.length cap] 29)).heap.size (w.alloc (.cells #[.int .i64 i, .slice a L.length cap] 29)) wr)) (fun _ n _ => L.length - (intOf n).toNat)
  case atStart => exact ⟨0, Nat.zero_le _, rfl, rfl, hid (Below.refl _ _)⟩
  case round =>
    obtain ⟨k, hk, rfl, rfl, HB⟩ := hrel
    obtain ⟨z0, z1, hbo⟩ := HX.out _ HB.out
    by_cases hlt : k < L.length
    · obtain ⟨b, off, p, rfl, hbl, hp, c0, c1, c2, c3, c4⟩ := field_at HF.out HB.out hlt
      have i1 : (k : Int) < L.length := by omega
      have HSZ := hid (size_succ hp)
      have hst := size_take L k
      have cs := fun w' => refSize_any p w'
      have hps := fd_size_le p
      clear hp
      generalize size (L.take k) = s at *
      go_wp2_with (go_at_call 32; ((with_reducible refine (cs _).mono ?_); rintro e w2 ⟨rfl, hb2⟩))
      exact ⟨⟨k + 1, by omega, by rw [HSZ.out]; go_num, by go_num, hid (HB.out.trans (hb2.mono HB.out.size))⟩, by simp [intOf]; omega⟩
    · obtain rfl : k = L.length := by omega
      go_wp2
      go_ret
      exact ⟨ret_int (by rw [← hS.out, List.take_of_length_le (Nat.le_refl _)]), hbo⟩
end Go.Proofs.Ytacigmnnekphmaa.schema
/- A region walked by a schedule that the prover names: an operation whose guard does not hold is passed by; comparisons of ints. No condition. -/
namespace Go.Proofs.Ytacigmnnekphmaa.plan
open Go Go.RowKit

section
variable {P : Program} {md : Region.Mode} {Q : Exit → Act → World → Prop} {l : List Oper}
theorem Rest.skip {f : Nat} {listed : Array Bool} {a : Act} {w : World} (i : Nat) (o : Oper) (hi : l[i]? = some o) (hs : Region.noSelect l.toArray = true) (hf : Region.free md l.toArray listed i = true)
    (hr : (Region.ready md l.toArray listed).contains i = true) (hw : Region.wanted o (yielded l.toArray a.tmps) = false)
    (h : Rest P md l Q f (listed.setIfInBounds i true) (a.put o.dst undef) w) : Rest P md l Q (f + 1) listed a w :=
  wpAnyH_take (by simpa using hi) hs hf hr (fun c a' w' h => h) (.inr ⟨hw, rfl⟩) (Below.refl _ _) h
end
theorem eqg (t : TypeId) (x y : Operand) (k : IntKind) (n m : Int) (w : World) (P : Program) : (eqGuard .eql t x y (.int k n) (.int k m)).run P w = .ok () w := by simp [go_sem]
end Go.Proofs.Ytacigmnnekphmaa.plan
/- Single operations of layer 13's references, run by themselves. No condition. -/
namespace Go.Proofs.Ytacigmnnekphmaa.schema
open Go.RowKit
set_option linter.unusedVariables false
section
variable {o : Oper} {a : Act} {w : World}
theorem exec_two {op : BinOp} {t t' : TypeId} {x y : Operand} {vx vy u : Value} (ho : o.op = .binOp op t x y t') (hx : a.eval x = vx) (hy : a.eval y = vy)
    (hg : (eqGuard op t x y vx vy).run Try.prog w = .ok () w) (hr : (binOp op t vx vy).run Try.prog w = .ok u w) : (execOp a.eval o).run Try.prog w = .ok (.value u) w := by
  unfold execOp
  simp [ho, hx, hy, Sem.run_bind, hg, hr]
theorem exec_neq_int {x y : Operand} {t' : TypeId} {n m : Int} {r : Bool} (ho : o.op = .binOp .neq 3 x y t') (hx : a.eval x = .int .i64 n) (hy : a.eval y = .int .i64 m) (h : Hid ((n != m) = r)) : (execOp a.eval o).run Try.prog w = .ok (.value (.bool r)) w :=
  exec_two ho hx hy (by simp [go_sem]) (by rw [← h.out]; simp [go_sem])
theorem exec_gtr_int {x y : Operand} {t' : TypeId} {n m : Int} {r : Bool} (ho : o.op = .binOp .gtr 3 x y t') (hx : a.eval x = .int .i64 n) (hy : a.eval y = .int .i64 m) (h : Hid (decide (n > m) = r)) : (execOp a.eval o).run Try.prog w = .ok (.value (.bool r)) w :=
  exec_two ho hx hy (by simp [go_sem]) (by rw [← h.out]; simp [go_sem])
theorem exec_geq_int {x y : Operand} {t' : TypeId} {n m : Int} {r : Bool} (ho : o.op = .binOp .geq 3 x y t') (hx : a.eval x = .int .i64 n) (hy : a.eval y = .int .i64 m) (h : Hid (decide (n ≥ m) = r)) : (execOp a.eval o).run Try.prog w = .ok (.value (.bool r)) w :=
  exec_two ho hx hy (by simp [go_sem]) (by rw [← h.out]; simp [go_sem])
theorem exec_pred {x y : Operand} {t' : TypeId} {k : Nat} (ho : o.op = .binOp .sub 3 x y t') (hx : a.eval x = .int .i64 ((k + 1 : Nat) : Int)) (hy : a.eval y = .int .i64 1) (h : k < 1000000) : (execOp a.eval o).run Try.prog w = .ok (.value (.int .i64 (k : Int))) w :=
  exec_two ho hx hy (by simp [go_sem]) (by
    have : IntKind.i64.wrap (((k + 1 : Nat) : Int) - 1) = (k : Int) := by rw [show ((k + 1 : Nat) : Int) - 1 = (k : Int) by omega]; exact IntWalk.i64_in _ (by omega)
    simp only [go_sem]
    rw [this]
    simp [go_sem])
theorem exec_indexF {x y : Operand} {b off len cap i : Nat} (ho : o.op = .indexAddr 27 x y) (hx : a.eval x = .slice (some ⟨b, off, none⟩) len cap) (hy : a.eval y = .int .i64 (i : Int)) (hi : i < len) :
    (execOp a.eval o).run Try.prog w = .ok (.value (.pointer (some ⟨b, off + i * 5, none⟩))) w := by
  unfold execOp
  rw [ho]
  simp only [hx, hy]
  go_simp
theorem exec_indexM {x y : Operand} {b off len cap i : Nat} (ho : o.op = .indexAddr 22 x y) (hx : a.eval x = .slice (some ⟨b, off, none⟩) len cap) (hy : a.eval y = .int .i64 (i : Int)) (hi : i < len) :
    (execOp a.eval o).run Try.prog w = .ok (.value (.pointer (some ⟨b, off + i * 2, none⟩))) w := by
  unfold execOp
  rw [ho]
  simp only [hx, hy]
  go_simp
theorem exec_cell_int {ty : TypeId} {x : Operand} {ad : Addr} {k : IntKind} {n : Int} (ho : o.op = .load ty x) (hx : a.eval x = .pointer (some ad)) (hc : w.cell? ad = some (.int k n)) (hu : ∀ w', (isAgg ty).run Try.prog w' = .ok false w') :
    (execOp a.eval o).run Try.prog w = .ok (.value (.int k n)) w := by
  unfold execOp
  rw [ho]
  simp only [hx]
  go_simp
theorem exec_cell_slice {ty : TypeId} {x : Operand} {ad : Addr} {q : Option Addr} {n c : Nat} (ho : o.op = .load ty x) (hx : a.eval x = .pointer (some ad)) (hc : w.cell? ad = some (.slice q n c)) (hu : ∀ w', (isAgg ty).run Try.prog w' = .ok false w') :
    (execOp a.eval o).run Try.prog w = .ok (.value (.slice q n c)) w := by
  unfold execOp
  rw [ho]
  simp only [hx]
  go_simp
theorem exec_load_at {ty : TypeId} {x : Operand} {b off : Nat} {cs : List Value} {d : TypeDesc} (ho : o.op = .load ty x) (hx : a.eval x = .pointer (some ⟨b, off, none⟩)) (hc : w.rangeAt b off cs)
    (hu : Try.prog.underlying ty = some d) (hd : d.isRow = true) (hi : (Try.prog.info? ty).map (·.size) = some cs.length) : (execOp a.eval o).run Try.prog w = .ok (.value (.agg cs.toArray)) w := by
  unfold execOp
  simp [ho, hx, run_loadAt_mid w b off ty cs d hc hu hd hi]
end
theorem info_fd : Hid ((Try.prog.info? 50).map (·.size) = some 5) := by show _ = _; kernel_rfl
theorem info_fm : Hid ((Try.prog.info? 29).map (·.size) = some 2) := by show _ = _; kernel_rfl
theorem range_later {w w' : World} {b o : Nat} {cs : List Value} (h : w.rangeAt b o cs) (hb : Below w.heap.size w w') (hlt : b < w.heap.size) : w'.rangeAt b o cs := fun j v hj => (hb.cell (p := ⟨b, o + j, none⟩) hlt).trans (h j v hj)
theorem range5 {w : World} {b o : Nat} {v0 v1 v2 v3 v4 : Value} (h0 : w.cell? ⟨b, o, none⟩ = some v0) (h1 : w.cell? ⟨b, o + 1, none⟩ = some v1) (h2 : w.cell? ⟨b, o + 2, none⟩ = some v2) (h3 : w.cell? ⟨b, o + 3, none⟩ = some v3) (h4 : w.cell? ⟨b, o + 4, none⟩ = some v4) : w.rangeAt b o [v0, v1, v2, v3, v4]
  | 0, v, hj => by cases hj; exact h0
  | 1, v, hj => by cases hj; exact h1
  | 2, v, hj => by cases hj; exact h2
  | 3, v, hj => by cases hj; exact h3
  | 4, v, hj => by cases hj; exact h4
  | n + 5, v, hj => by simp at hj
theorem range2 {w : World} {b o : Nat} {v0 v1 : Value} (h0 : w.cell? ⟨b, o, none⟩ = some v0) (h1 : w.cell? ⟨b, o + 1, none⟩ = some v1) : w.rangeAt b o [v0, v1]
  | 0, v, hj => by cases hj; exact h0
  | 1, v, hj => by cases hj; exact h1
  | n + 2, v, hj => by simp at hj
theorem idxOf_lt_of_take : ∀ (l : List Int) (k : Nat) (x : Int), x ∈ l.take k → l.idxOf x < k
  | l, 0, x, h => by simp at h
  | [], k + 1, x, h => by simp at h
  | y :: l, k + 1, x, h => by
    by_cases hy : y = x
    · subst hy; simp
    · have hb : (y == x) = false := beq_eq_false_iff_ne.2 hy
      rw [List.take_succ_cons, List.mem_cons] at h
      have := idxOf_lt_of_take l k x (h.resolve_left (Ne.symm hy))
      rw [List.idxOf_cons, hb]
      show l.idxOf x + 1 < k + 1
      omega
/-- the first place of what stands at k is k where it does not stand ahead -/
theorem at_iff {l : List Int} {k : Nat} {x : Int} (h : l[k]? = some x) : firstAt l x = k ↔ x ∉ l.take k := by
  constructor
  · intro he hm
    have := idxOf_lt_of_take l k x hm
    unfold firstAt at he
    rw [if_pos (List.mem_of_getElem? h)] at he
    omega
  · intro hn; exact first_hit hn h
theorem ids_take (L : List field.Fd) (k : Nat) : ids (L.take k) = (ids L).take k := by unfold ids; rw [List.map_take]
end Go.Proofs.Ytacigmnnekphmaa.schema
