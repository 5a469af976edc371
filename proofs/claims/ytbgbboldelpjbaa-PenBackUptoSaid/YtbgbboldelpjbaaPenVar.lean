/- Contracts of the eye's calls varint, Count, Num and Text, and of Of. No condition. -/
import Derived.Test.YtbgbboldelpjbaaPenFirst
namespace Go.Proofs.Ytbgbboldelpjbaa.pen
open Go.RowKit Go.Proofs.Ytbgbboldelpjbaa.texts
set_option linter.unusedVariables false

theorem but_drew {B g : Nat} {w w' : World} {m : Nat} (h : But B g (w.drewN m) w') : But B g w w' := h
set_option maxRecDepth 8000 in
theorem eyeVarint_any (b : Nat) (s : Sight) (w : World) (h : EyeAt 62 b s w) (fits most : Nat) (hf : fits < 18446744073709551616) (hm : most < 18446744073709551616) :
    Calls Try.prog 39 #[.pointer (some ⟨b, 0, none⟩), .int .u64 (fits : Int), .int .u64 (most : Int)] w (Saw 62 b (.int .u64 ((eVar fits most s).1 : Int)) (eVar fits most s).2 w) := by
  obtain ⟨r, z⟩ := s
  have c0 := bad_any b (r, z) w h
  simp only at c0
  have HE := hid h
  obtain ⟨a, c, st⟩ := h.stand
  clear h
  unfold eVar
  simp only []
  by_cases hz : z = 0
  · subst hz
    rw [show ((0 : Nat) : Int) = 0 from rfl] at c0
    rw [if_neg (by simp)]
    have c1 : ∀ m, Calls Try.prog 46 #[.slice a r.length c] (w.drewN m) (Quiet (grpV (grp 0 0 r)) (w.drewN m)) := fun m => first_any a c r _ (st.reads.drewN m) st.room st.small st.len
    have d0 : ∀ m, (w.drewN m).cell? ⟨b, 0, none⟩ = some (.slice a r.length c) := fun m => (st.drewN m).rest
    have d1 : ∀ m, (w.drewN m).cell? ⟨b, 1, none⟩ = some (.int .i64 0) := fun m => (st.drewN m).err
    have f1 : ∀ m, (w.drewN m).frozen? ⟨b, 1, none⟩ = false := fun m => (st.drewN m).block.frozen 1
    have hlen := st.len
    obtain ⟨g1, g2, g3, g4⟩ := grp_ok0 r st.small
    unfold grpV at c1
    have HGN := hid g2
    obtain ⟨V, hV⟩ : ∃ V, Hid ((grp 0 0 r).1 = V) := ⟨_, rfl⟩
    obtain ⟨N, hN⟩ : ∃ N, Hid ((grp 0 0 r).2.1 = N) := ⟨_, rfl⟩
    obtain ⟨E, hE⟩ : ∃ E, Hid ((grp 0 0 r).2.2 = E) := ⟨_, rfl⟩
    simp only [hV.out, hN.out, hE.out] at c1 g1 g3 g4 HGN ⊢
    have hF : Hid (∀ m z, Saw 62 b (.int .u64 0) (r, z) w (.returned (.int .u64 0)) ((w.drewN m).setCell ⟨b, 1, none⟩ (.int .i64 (z : Int)))) := fun m z => by
      have := (HE.out.later (below_drewN (Below.refl _ _) m)).fail z
      exact ⟨rfl, this.1, this.2⟩
    clear st g2
    by_cases he : E = 0
    · subst he
      rw [if_neg (by simp)]
      rw [show ((0 : Nat) : Int) = 0 from rfl] at c1
      by_cases h1 : fits < V
      · rw [if_pos h1]
        have q1 : (fits : Int) < V := by omega
        go_enter Try.func39, Try.ntmps39
        go_wp2_with (first
          | (go_at_call 24; (with_reducible refine c0.mono ?_); clear c0; rintro e w' ⟨rfl, m, rfl⟩)
          | (go_at_call 46; (with_reducible refine (c1 _).mono ?_); clear c1; rintro e w' ⟨rfl, m1, rfl⟩))
        go_ret
        exact hF.out _ 4
      · rw [if_neg h1]
        have q1 : ¬ (fits : Int) < V := by omega
        by_cases h2 : most < V
        · rw [if_pos h2]
          have q2 : (most : Int) < V := by omega
          go_enter Try.func39, Try.ntmps39
          go_wp2_with (first
            | (go_at_call 24; (with_reducible refine c0.mono ?_); clear c0; rintro e w' ⟨rfl, m, rfl⟩)
            | (go_at_call 46; (with_reducible refine (c1 _).mono ?_); clear c1; rintro e w' ⟨rfl, m1, rfl⟩))
          go_ret
          exact hF.out _ 7
        · rw [if_neg h2]
          have q2 : ¬ (most : Int) < V := by omega
          have hnl : N ≤ r.length := by have := HGN.out rfl; omega
          have c2 : ∀ m, Calls Try.prog 42 #[.pointer (some ⟨b, 0, none⟩), .int .i64 (N : Int)] (w.drewN m) (Took 62 b (r.take N) (r.drop N, 0) (w.drewN m)) := fun m => by
            have := next_any b (r, 0) (w.drewN m) (HE.out.later (below_drewN (Below.refl _ _) m)) N (by omega)
            rwa [eNext_take N r hnl] at this
          go_enter Try.func39, Try.ntmps39
          go_wp2_with (first
            | (go_at_call 24; (with_reducible refine c0.mono ?_); clear c0; rintro e w' ⟨rfl, m, rfl⟩)
            | (go_at_call 46; (with_reducible refine (c1 _).mono ?_); clear c1; rintro e w' ⟨rfl, m1, rfl⟩)
            | (go_at_call 42; (with_reducible refine (c2 _).mono ?_); clear c2; rintro e w' ⟨a', c', rfl, _, _, hE2, hB2⟩))
          go_ret
          exact ⟨rfl, hE2, but_drew hB2⟩
    · rw [if_pos he]
      have q0 : ((E : Int) != 0) = true := by rw [bne_iff_ne]; omega
      clear he
      go_enter Try.func39, Try.ntmps39
      go_wp2_with (first
        | (go_at_call 24; (with_reducible refine c0.mono ?_); clear c0; rintro e w' ⟨rfl, m, rfl⟩)
        | (go_at_call 46; (with_reducible refine (c1 _).mono ?_); clear c1; rintro e w' ⟨rfl, m1, rfl⟩))
      go_ret
      exact hF.out _ E
  · rw [if_pos hz]
    have hi : ((z : Int) != 0) = true := by rw [bne_iff_ne]; omega
    clear st hz
    go_enter Try.func39, Try.ntmps39
    go_wp2_with (go_at_call 24; (with_reducible refine c0.mono ?_); rintro e w' ⟨rfl, m, rfl⟩)
    go_ret
    exact ⟨rfl, HE.out.later (below_drewN (Below.refl _ _) m), But.drew m⟩
theorem eyeVarint_nil (x y : Int) (w : World) : Calls Try.prog 39 #[.pointer none, .int .u64 x, .int .u64 y] w (Quiet (.int .u64 0) w) := by
  go_enter Try.func39, Try.ntmps39
  go_wp2_with (go_at_call 24; (with_reducible refine (bad_nil _).mono ?_); rintro e w' ⟨rfl, m, rfl⟩)
  go_ret
  exact ⟨rfl, _, rfl⟩

theorem unzigzag_any (u : Nat) (hu : u < 18446744073709551616) (w : World) : Calls Try.prog 41 #[.int .u64 (u : Int)] w (Quiet (.int .i64 (unzig u)) w) := by
  have hn := i64_not ((u / 2 : Nat) : Int) (by omega) (by omega)
  have hsg : IntKind.i64.signed = true := rfl
  rw [Int.natCast_ediv] at hn
  simp only [Int.cast_ofNat_Int] at hn
  by_cases h0 : u % 2 = 1
  · have hz : unzig u = -((u : Int) / 2) - 1 := by unfold unzig; rw [if_pos h0]; omega
    have q : ((u : Int) % 2 != 0) = true := by rw [bne_iff_ne]; omega
    rw [hz]
    clear hz h0
    go_enter Try.func41, Try.ntmps41
    go_wp2
    go_ret
    exact ⟨rfl, 0, rfl⟩
  · have hz : unzig u = (u : Int) / 2 := by unfold unzig; rw [if_neg h0]; omega
    have q : ((u : Int) % 2 != 0) = false := by rw [bne_eq_false_iff_eq]; omega
    rw [hz]
    clear hz h0
    go_enter Try.func41, Try.ntmps41
    go_wp2
    go_ret
    exact ⟨rfl, 0, rfl⟩
end Go.Proofs.Ytbgbboldelpjbaa.pen
