/- Contracts and lemmas that the claims of this seat share: SchemaBackMath, StepBackMath. Each says its own conditions. -/
import Derived.Test.YtpdnfiofjkbeiaaCmB
/- A right schema's bytes are read as it was; what is read is, as bytes, what was read. No condition. -/
namespace Go.Proofs.Ytpdnfiofjkbeiaa.schema
open Go.RowKit Go.Proofs.Ytpdnfiofjkbeiaa.pen
set_option linter.unusedVariables false

/-! there and back -/
theorem eCount_vb (most : Int) (x : Nat) (r : List Nat) (hx : (x : Int) ≤ most) (hm : most ≤ 9223372036854775807) : eCount most (vb x ++ r, 0) = (x, (r, 0)) := by
  unfold eCount
  exact eVar_vb _ _ _ _ (by omega) (by omega) (by omega)
theorem eInt_vb (n : Int) (h1 : -9223372036854775808 ≤ n) (h2 : n ≤ 9223372036854775807) (r : List Nat) : eInt (vb (zig n) ++ r, 0) = (n, (r, 0)) := by
  have hz := zig_lt n h1 h2
  unfold eInt
  rw [eVar_vb _ _ _ _ hz (by omega) (by omega), unzig_zig]
theorem takeF_lay {f : field.Fd} (h : f.Right) (r : List Nat) : takeF (fieldB f ++ r, 0) = (f, (r, 0)) := by
  have hs := right_span h
  have hk : f.kind = 1 ∨ f.kind = 2 ∨ f.kind = 3 ∨ f.kind = 4 := by omega
  unfold field.Fd.Right at h
  obtain ⟨i, k, lo, hi, m⟩ := f
  simp only at h hs hk
  have hi0 : ((i.toNat : Nat) : Int) = i := by omega
  unfold takeF fieldB
  simp only [List.append_assoc]
  rcases hk with rfl | rfl | rfl | rfl
  · rw [eCount_vb 255 _ _ (by omega) (by omega)]
    simp only [if_true, List.append_assoc]
    rw [eCount_vb 4 _ _ (by omega) (by omega)]
    simp only []
    rw [if_pos (by decide), eInt_vb lo (by omega) (by omega)]
    simp only []
    rw [eInt_vb hi (by omega) (by omega)]
    simp only [hi0]
    rw [show m = 0 by omega]
  · rw [eCount_vb 255 _ _ (by omega) (by omega)]
    simp only [Int.reduceEq, if_false, or_self, List.nil_append]
    rw [eCount_vb 4 _ _ (by omega) (by omega)]
    simp only []
    rw [if_neg (by decide), if_neg (by decide), hi0, show lo = 0 by omega, show hi = 0 by omega, show m = 0 by omega]
    rfl
  · rw [eCount_vb 255 _ _ (by omega) (by omega)]
    simp only [Int.reduceEq, if_false, true_or, if_true]
    rw [eCount_vb 4 _ _ (by omega) (by omega)]
    simp only []
    rw [if_neg (by decide), if_pos (by decide), eCount_vb 1000 _ _ (by omega) (by omega)]
    simp only [hi0]
    rw [show lo = 0 by omega, show hi = 0 by omega, show ((m.toNat : Nat) : Int) = m by omega]
    rfl
  · rw [eCount_vb 255 _ _ (by omega) (by omega)]
    simp only [Int.reduceEq, if_false, or_true, if_true]
    rw [eCount_vb 4 _ _ (by omega) (by omega)]
    simp only []
    rw [if_neg (by decide), if_pos (by decide), eCount_vb 1000 _ _ (by omega) (by omega)]
    simp only [hi0]
    rw [show lo = 0 by omega, show hi = 0 by omega, show ((m.toNat : Nat) : Int) = m by omega]
    rfl
theorem fieldsB_drop {L : List field.Fd} {k : Nat} {x : field.Fd} (h : L[k]? = some x) : fieldsB (L.drop k) = fieldB x ++ fieldsB (L.drop (k + 1)) := by
  have hk := (List.getElem?_eq_some_iff.1 h).1
  rw [List.drop_eq_getElem_cons hk]
  have : L[k] = x := (List.getElem?_eq_some_iff.1 h).2
  rw [this]; simp [fieldsB]
theorem takeFs_lay {L : List field.Fd} (h : ∀ f ∈ L, f.Right) (r : List Nat) : ∀ k, k ≤ L.length → takeFs k (fieldsB L ++ r, 0) = (L.take k, (fieldsB (L.drop k) ++ r, 0))
  | 0, _ => by simp [takeFs]
  | k + 1, hk => by
    have ih := takeFs_lay h r k (by omega)
    have hx : L[k]? = some L[k] := List.getElem?_eq_getElem (by omega)
    rw [takeFs, ih]
    simp only []
    rw [fieldsB_drop hx, List.append_assoc, takeF_lay (h _ (List.mem_of_getElem? hx)), take_succ_at hx]
theorem takeFm_lay {p : Form} (h : Fine p) (r : List Nat) : takeFm (formB p ++ r, 0) = (p, (r, 0)) := by
  have h1 := h.1
  have h2 := h.2.1
  unfold takeFm formB
  simp only [List.append_assoc]
  rw [eCount_vb 200 _ _ (by omega) (by omega)]
  simp only []
  rw [eCount_vb 8 _ _ (by omega) (by omega)]
  simp only []
  rw [takeFs_lay h.2.2.1.1 r _ (Nat.le_refl _), List.take_of_length_le (Nat.le_refl _), List.drop_of_length_le (Nat.le_refl _)]
  simp only [fieldsB, List.map_nil, List.flatten_nil, List.nil_append]
  rw [show ((p.1.toNat : Nat) : Int) = p.1 by omega]
theorem formsB_drop {F : List Form} {k : Nat} {x : Form} (h : F[k]? = some x) : formsB (F.drop k) = formB x ++ formsB (F.drop (k + 1)) := by
  have hk := (List.getElem?_eq_some_iff.1 h).1
  rw [List.drop_eq_getElem_cons hk]
  have : F[k] = x := (List.getElem?_eq_some_iff.1 h).2
  rw [this]; simp [formsB]
theorem takeFms_lay {F : List Form} (h : ∀ p ∈ F, Fine p) (r : List Nat) : ∀ k, k ≤ F.length → takeFms k (formsB F ++ r, 0) = (F.take k, (formsB (F.drop k) ++ r, 0))
  | 0, _ => by simp [takeFms]
  | k + 1, hk => by
    have ih := takeFms_lay h r k (by omega)
    have hx : F[k]? = some F[k] := List.getElem?_eq_getElem (by omega)
    rw [takeFms, ih]
    simp only []
    rw [formsB_drop hx, List.append_assoc, takeFm_lay (h _ (List.mem_of_getElem? hx)), take_succ_at hx]
theorem parsed_lay {v : Int} {F : List Form} (h : Right v F) : parsed (schemaB v F) = (v, F, 0) := by
  have h1 := h.1
  have h2 := h.2.1
  have hV : readV (schemaB v F) = (v.toNat, (vb F.length ++ formsB F, 0)) := by
    unfold readV schemaB
    rw [List.append_assoc, eCount_vb 65535 _ _ (by omega) (by omega)]
  have hN : readN (schemaB v F) = (F.length, (formsB F, 0)) := by
    unfold readN
    rw [hV]
    exact eCount_vb 8 _ _ (by omega) (by omega)
  have hF : readF (schemaB v F) = (F, ([], 0)) := by
    unfold readF
    rw [hN]
    have := takeFms_lay h.2.2.1 [] F.length (Nat.le_refl _)
    rw [List.append_nil, List.take_of_length_le (Nat.le_refl _), List.drop_of_length_le (Nat.le_refl _)] at this
    simpa [formsB] using this
  unfold parsed
  rw [hF, hV]
  have hv : ((v.toNat : Nat) : Int) = v := by omega
  rw [if_neg (by simp [eEnd]), hv, if_pos h]

/-! back -/
theorem grp_inv : ∀ (l : List Nat) (i u v n : Nat), i ≤ 9 → (∀ c ∈ l, c < 256) → grp i u l = (v, n, 0) → ∃ x, v = u + x * 128 ^ i ∧ (i = 0 ∨ 0 < x) ∧ ∃ r, l = vb x ++ r ∧ n = i + (vb x).length
  | [], i, u, v, n, _, _, h => by rw [grp] at h; simp at h
  | c :: r, i, u, v, n, hi, hc, h => by
    rw [grp] at h
    by_cases h1 : i = 9 ∧ 1 < c
    · rw [if_pos h1] at h; simp at h
    · rw [if_neg h1] at h
      by_cases h2 : 0 < i ∧ c = 0
      · rw [if_pos h2] at h; simp at h
      · rw [if_neg h2] at h
        by_cases h3 : c < 128
        · rw [if_pos h3] at h
          simp only [Prod.mk.injEq] at h
          refine ⟨c, h.1.symm, by omega, r, by rw [vb_small h3]; rfl, by rw [vb_small h3]; simp; omega⟩
        · rw [if_neg h3] at h
          have hc8 := hc c (by simp)
          obtain ⟨y, hv, hy, q, hr, hn⟩ := grp_inv r (i + 1) _ v n (by omega) (fun d hd => hc d (by simp [hd])) h
          have hy0 : 0 < y := by omega
          have hx : ¬ (c - 128 + 128 * y) < 128 := by omega
          refine ⟨c - 128 + 128 * y, ?_, by omega, q, ?_, ?_⟩
          · rw [hv, Nat.add_mul, Nat.pow_succ, Nat.add_assoc]
            congr 2
            rw [Nat.mul_comm (128 ^ i) 128, ← Nat.mul_assoc, Nat.mul_comm y 128]
          · rw [vb_big hx, hr, List.cons_append]
            congr 1
            · omega
            · congr 2; omega
          · rw [vb_big hx, hn, List.length_cons]
            rw [show (c - 128 + 128 * y) / 128 = y by omega]
            omega
def Small (s : Sight) : Prop := ∀ c ∈ s.1, c < 256
theorem eVar_inv {fits most : Nat} {s : Sight} (hs : Small s) (h : (eVar fits most s).2.2 = 0) : s.2 = 0 ∧ s.1 = vb (eVar fits most s).1 ++ (eVar fits most s).2.1 := by
  unfold eVar at h ⊢
  by_cases h0 : s.2 ≠ 0
  · rw [if_pos h0] at h; exact absurd h h0
  · rw [if_neg h0] at h ⊢
    by_cases h1 : (grp 0 0 s.1).2.2 ≠ 0
    · rw [if_pos h1] at h; exact absurd h h1
    · rw [if_neg h1] at h ⊢
      by_cases h2 : fits < (grp 0 0 s.1).1
      · rw [if_pos h2] at h; simp at h
      · rw [if_neg h2] at h ⊢
        by_cases h3 : most < (grp 0 0 s.1).1
        · rw [if_pos h3] at h; simp at h
        · rw [if_neg h3]
          obtain ⟨x, hv, _, r, hl, hn⟩ := grp_inv s.1 0 0 (grp 0 0 s.1).1 (grp 0 0 s.1).2.1 (by omega) hs (Prod.ext rfl (Prod.ext rfl (show (grp 0 0 s.1).2.2 = 0 by omega)))
          refine ⟨by omega, ?_⟩
          simp only [Nat.pow_zero, Nat.mul_one, Nat.zero_add] at hv hn
          show s.1 = vb (grp 0 0 s.1).1 ++ s.1.drop (grp 0 0 s.1).2.1
          rw [hv, hn]
          conv => lhs; rw [hl]
          congr 1
          rw [hl]; simp
theorem small_rest {s : Sight} {a r : List Nat} {e : Nat} (h : Small s) (hr : s.1 = a ++ r) : Small (r, e) := fun c hc => h c (by rw [hr]; exact List.mem_append.2 (.inr hc))
theorem eCount_inv {most : Int} {s : Sight} (hs : Small s) (h : (eCount most s).2.2 = 0) : s.2 = 0 ∧ s.1 = vb (eCount most s).1 ++ (eCount most s).2.1 := eVar_inv hs h
theorem zig_unzig (u : Nat) : zig (unzig u) = u := by
  unfold zig unzig
  by_cases h : u % 2 = 1
  · rw [if_pos h, if_pos (by omega)]; omega
  · rw [if_neg h, if_neg (by omega)]; omega
theorem eInt_inv {s : Sight} (hs : Small s) (h : (eInt s).2.2 = 0) : s.2 = 0 ∧ s.1 = vb (zig (eInt s).1) ++ (eInt s).2.1 := by
  unfold eInt at h ⊢
  simp only [zig_unzig]
  exact eVar_inv hs h
theorem small_eq {s : Sight} {a : List Nat} {t : Sight} (h : Small s) (hr : s.1 = a ++ t.1) : Small t := fun c hc => h c (by rw [hr]; exact List.mem_append.2 (.inr hc))
theorem takeF_inv {s : Sight} (hs : Small s) (h : (takeF s).2.2 = 0) : s.2 = 0 ∧ s.1 = fieldB (takeF s).1 ++ (takeF s).2.1 := by
  obtain ⟨A, s1, hA⟩ : ∃ A s1, eCount 255 s = (A, s1) := ⟨_, _, rfl⟩
  obtain ⟨k, s2, hK⟩ : ∃ K s2, eCount 4 s1 = (K, s2) := ⟨_, _, rfl⟩
  have i1 := eCount_inv (most := 255) (s := s) hs
  rw [hA] at i1
  have i2 := fun hq => eCount_inv (most := 4) (s := s1) hq
  rw [hK] at i2
  unfold takeF at h ⊢
  simp only [hA, hK] at h ⊢
  simp only at i1 i2
  by_cases h1 : k = 1
  · rw [if_pos h1] at h ⊢
    have i3 := fun hq => eInt_inv (s := s2) hq
    have i4 := fun hq => eInt_inv (s := (eInt s2).2) hq
    -- the errors backwards
    have z4 : ∀ q : Sight, (eInt q).2.2 = 0 → q.2 = 0 := by
      intro q hq
      by_cases h0 : q.2 = 0
      · exact h0
      · unfold eInt eVar at hq; rw [if_pos h0] at hq; exact hq
    have z2 : ∀ (m : Int) (q : Sight), (eCount m q).2.2 = 0 → q.2 = 0 := by
      intro m q hq
      by_cases h0 : q.2 = 0
      · exact h0
      · unfold eCount eVar at hq; rw [if_pos h0] at hq; exact hq
    simp only at h
    have e3 := z4 _ h
    have e2 := z4 _ e3
    have e1 := z2 4 s1 (by rw [hK]; exact e2)
    obtain ⟨r0, r1⟩ := i1 e1
    have m1 := small_eq hs r1
    obtain ⟨_, r2⟩ := i2 m1 e2
    have m2 := small_eq m1 r2
    obtain ⟨_, r3⟩ := i3 m2 e3
    have m3 := small_eq m2 r3
    obtain ⟨_, r4⟩ := i4 m3 h
    refine ⟨r0, ?_⟩
    subst h1
    simp only [fieldB, if_true, Int.toNat_natCast]
    rw [r1, r2, r3, r4]
    simp only [List.append_assoc]
    rfl
  · rw [if_neg h1] at h ⊢
    have z2 : ∀ (m : Int) (q : Sight), (eCount m q).2.2 = 0 → q.2 = 0 := by
      intro m q hq
      by_cases h0 : q.2 = 0
      · exact h0
      · unfold eCount eVar at hq; rw [if_pos h0] at hq; exact hq
    have hk1 : ¬ ((k : Int) = 1) := by omega
    by_cases h3 : k = 3 ∨ k = 4
    · rw [if_pos h3] at h ⊢
      have i3 := fun hq => eCount_inv (most := 1000) (s := s2) hq
      simp only at h
      have e2 := z2 _ _ h
      have e1 := z2 4 s1 (by rw [hK]; exact e2)
      obtain ⟨r0, r1⟩ := i1 e1
      have m1 := small_eq hs r1
      obtain ⟨_, r2⟩ := i2 m1 e2
      have m2 := small_eq m1 r2
      obtain ⟨_, r3⟩ := i3 m2 h
      refine ⟨r0, ?_⟩
      simp only [fieldB, Int.toNat_natCast]
      rw [if_neg hk1, if_pos (by omega), r1, r2, r3]
      simp only [List.append_assoc]
    · rw [if_neg h3] at h ⊢
      simp only at h
      have e1 := z2 4 s1 (by rw [hK]; exact h)
      obtain ⟨r0, r1⟩ := i1 e1
      have m1 := small_eq hs r1
      obtain ⟨_, r2⟩ := i2 m1 h
      refine ⟨r0, ?_⟩
      simp only [fieldB, Int.toNat_natCast]
      rw [if_neg hk1, if_neg (by omega), r1, r2]
      simp only [List.append_assoc, List.append_nil]
theorem takeFs_inv (n : Nat) {s : Sight} (hs : Small s) : (takeFs n s).2.2 = 0 → s.2 = 0 ∧ s.1 = fieldsB (takeFs n s).1 ++ (takeFs n s).2.1 := by
  induction n with
  | zero => intro h; exact ⟨h, rfl⟩
  | succ n ih =>
    intro h
    rw [takeFs] at h ⊢
    simp only at h ⊢
    -- the sight behind n fields is small
    have hsm : Small (takeFs n s).2 ∨ (takeFs n s).2.2 ≠ 0 := by
      by_cases h0 : (takeFs n s).2.2 = 0
      · exact .inl (small_eq hs (ih h0).2)
      · exact .inr h0
    have h0 : (takeFs n s).2.2 = 0 := by
      rcases hsm with h1 | h1
      · exact (takeF_inv h1 h).1
      · exfalso
        apply h1
        have hc : ∀ (m : Int) (q : Sight), q.2 ≠ 0 → eCount m q = (0, q) := fun m q hq => by unfold eCount eVar; rw [if_pos hq]
        have : (takeF (takeFs n s).2).2 = (takeFs n s).2 := by
          unfold takeF
          rw [hc 255 _ h1]
          simp only []
          rw [hc 4 _ h1]
          simp
        rw [this] at h
        exact h
    have h1 := ih h0
    have h2 := takeF_inv (small_eq hs h1.2) h
    refine ⟨h1.1, ?_⟩
    rw [h1.2, h2.2]
    simp [fieldsB]
theorem takeFm_inv {s : Sight} (hs : Small s) (h : (takeFm s).2.2 = 0) : s.2 = 0 ∧ s.1 = formB (takeFm s).1 ++ (takeFm s).2.1 := by
  obtain ⟨A, s1, hA⟩ : ∃ A s1, eCount 200 s = (A, s1) := ⟨_, _, rfl⟩
  obtain ⟨n, s2, hN⟩ : ∃ K s2, eCount 8 s1 = (K, s2) := ⟨_, _, rfl⟩
  have i1 := eCount_inv (most := 200) (s := s) hs
  rw [hA] at i1
  have i2 := fun hq => eCount_inv (most := 8) (s := s1) hq
  rw [hN] at i2
  unfold takeFm at h ⊢
  simp only [hA, hN] at h ⊢
  simp only at i1 i2
  have hc : ∀ (m : Int) (q : Sight), q.2 ≠ 0 → eCount m q = (0, q) := fun m q hq => by unfold eCount eVar; rw [if_pos hq]
  have e1 : s1.2 = 0 := by
    by_cases h0 : s1.2 = 0
    · exact h0
    · rw [hc 8 s1 h0] at hN
      simp only [Prod.mk.injEq] at hN
      obtain ⟨rfl, rfl⟩ := hN
      exact h
  obtain ⟨r0, r1⟩ := i1 e1
  have m1 := small_eq hs r1
  have e2 : s2.2 = 0 := by
    by_cases h0 : s2.2 = 0
    · exact h0
    · exfalso
      have hst : ∀ n, (takeFs n s2).2 = s2 := by
        intro n
        induction n with
        | zero => rfl
        | succ n ih =>
          rw [takeFs]
          simp only [ih]
          unfold takeF
          rw [hc 255 _ h0]
          simp only []
          rw [hc 4 _ h0]
          simp
      rw [hst] at h
      exact h0 h
  obtain ⟨_, r2⟩ := i2 m1 e2
  have m2 := small_eq m1 r2
  have r3 := takeFs_inv n m2 h
  refine ⟨r0, ?_⟩
  simp only [formB, Int.toNat_natCast, takeFs_len]
  rw [r1, r2, r3.2]
  simp only [List.append_assoc]
theorem takeFms_inv (n : Nat) {s : Sight} (hs : Small s) : (takeFms n s).2.2 = 0 → s.2 = 0 ∧ s.1 = formsB (takeFms n s).1 ++ (takeFms n s).2.1 := by
  induction n with
  | zero => intro h; exact ⟨h, rfl⟩
  | succ n ih =>
    intro h
    rw [takeFms] at h ⊢
    simp only at h ⊢
    have h0 : (takeFms n s).2.2 = 0 := by
      by_cases h1 : (takeFms n s).2.2 = 0
      · exact h1
      · exfalso
        have hc : ∀ (m : Int) (q : Sight), q.2 ≠ 0 → eCount m q = (0, q) := fun m q hq => by unfold eCount eVar; rw [if_pos hq]
        have : (takeFm (takeFms n s).2).2 = (takeFms n s).2 := by
          unfold takeFm
          rw [hc 200 _ h1]
          simp only []
          rw [hc 8 _ h1]
          rfl
        rw [this] at h
        exact h1 h
    have h1 := ih h0
    have h2 := takeFm_inv (small_eq hs h1.2) h
    refine ⟨h1.1, ?_⟩
    rw [h1.2, h2.2]
    simp [formsB]
theorem parsed_inv {xs : List Nat} (hx : ∀ c ∈ xs, c < 256) (h : (parsed xs).2.2 = 0) : Right (parsed xs).1 (parsed xs).2.1 ∧ schemaB (parsed xs).1 (parsed xs).2.1 = xs := by
  unfold parsed at h ⊢
  by_cases h1 : eEnd (readF xs).2 ≠ 0
  · rw [if_pos h1] at h; exact absurd h h1
  · rw [if_neg h1] at h ⊢
    by_cases h2 : Right (readV xs).1 (readF xs).1
    · rw [if_pos h2]
      refine ⟨h2, ?_⟩
      simp only
      have hend : (readF xs).2.2 = 0 ∧ (readF xs).2.1 = [] := by
        unfold eEnd at h1
        by_cases h3 : (readF xs).2.2 = 0 ∧ 0 < (readF xs).2.1.length
        · rw [if_pos h3] at h1; omega
        · rw [if_neg h3] at h1
          refine ⟨by omega, List.eq_nil_of_length_eq_zero ?_⟩
          omega
      have hc : ∀ (m : Int) (q : Sight), q.2 ≠ 0 → eCount m q = (0, q) := fun m q hq => by unfold eCount eVar; rw [if_pos hq]
      have hs0 : Small (xs, 0) := hx
      have hN0 : (readN xs).2.2 = 0 := by
        by_cases h0 : (readN xs).2.2 = 0
        · exact h0
        · exfalso
          have hst : ∀ n, (takeFms n (readN xs).2).2 = (readN xs).2 := by
            intro n
            induction n with
            | zero => rfl
            | succ n ih =>
              rw [takeFms]
              simp only [ih]
              unfold takeFm
              rw [hc 200 _ h0]
              simp only []
              rw [hc 8 _ h0]
              rfl
          have h5 := hend.1
          unfold readF at h5
          rw [hst] at h5
          exact h0 h5
      have hV0 : (readV xs).2.2 = 0 := by
        by_cases h0 : (readV xs).2.2 = 0
        · exact h0
        · exfalso
          have h5 := hN0
          unfold readN at h5
          rw [hc 8 _ h0] at h5
          exact h0 h5
      have r1 := (eCount_inv (most := 65535) hs0 hV0).2
      have m1 := small_eq hs0 r1
      have r2 := (eCount_inv (most := 8) m1 hN0).2
      have m2 := small_eq m1 r2
      have r3 := (takeFms_inv (readN xs).1 m2 hend.1).2
      have hlen : (readF xs).1.length = (readN xs).1 := takeFms_len _ _
      unfold schemaB
      rw [hlen, Int.toNat_natCast]
      have e1 : xs = vb (readV xs).1 ++ (readV xs).2.1 := r1
      have e2 : (readV xs).2.1 = vb (readN xs).1 ++ (readN xs).2.1 := r2
      have e3 : (readN xs).2.1 = formsB (readF xs).1 ++ (readF xs).2.1 := r3
      rw [hend.2, List.append_nil] at e3
      rw [List.append_assoc, ← e3, ← e2]
      exact e1.symm
    · rw [if_neg h2] at h; simp at h
end Go.Proofs.Ytpdnfiofjkbeiaa.schema
/- Right steps' bytes are read as they were; what is read is, as bytes, what was read. No condition. -/
namespace Go.Proofs.Ytpdnfiofjkbeiaa.step
open Go.RowKit Go.Proofs.Ytpdnfiofjkbeiaa.pen
open Go.Proofs.Ytpdnfiofjkbeiaa.schema (take_succ_at eCount_vb eInt_vb Small eCount_inv eInt_inv small_eq eVar_inv)
open Go.Proofs.Ytpdnfiofjkbeiaa.field (bytesOf bytesOf_length bytesOf_lt strOf_bytes bytes_strOf strOf_size)
set_option linter.unusedVariables false

/-! there and back -/
theorem eText_lay (t : ByteArray) (ht : t.size ≤ 32) (r : List Nat) : eText 32 (vb t.size ++ (bytesOf t ++ r), 0) = (bytesOf t, (r, 0)) := by
  unfold eText
  rw [eCount_vb 32 _ _ (by omega) (by omega)]
  simp only []
  rw [eNext_enc t.size (bytesOf t) r (bytesOf_length t)]
  simp
def FieldOk (f : field.Fd) : Prop := (0 ≤ f.id ∧ f.id ≤ 255) ∧ (0 ≤ f.kind ∧ f.kind ≤ 4) ∧ InOk f.lo ∧ InOk f.hi ∧ (0 ≤ f.most ∧ f.most ≤ 1000)
theorem right_ok {f : field.Fd} (h : f.Right) : FieldOk f := by
  have := schema.right_span h
  unfold FieldOk InOk
  omega
theorem takeA_lay {f : field.Fd} (h : FieldOk f) (r : List Nat) : takeA (fieldA f ++ r, 0) = (f, (r, 0)) := by
  obtain ⟨⟨a1, a2⟩, ⟨b1, b2⟩, c1, d1, e1, e2⟩ := h
  obtain ⟨i, k, lo, hi, m⟩ := f
  simp only at *
  unfold takeA fieldA
  simp only [List.append_assoc]
  rw [eCount_vb 255 _ _ (by omega) (by omega)]
  simp only []
  rw [eCount_vb 4 _ _ (by omega) (by omega)]
  simp only []
  rw [eInt_vb lo c1.1 c1.2]
  simp only []
  rw [eInt_vb hi d1.1 d1.2]
  simp only []
  rw [eCount_vb 1000 _ _ (by omega) (by omega)]
  simp only [show ((i.toNat : Nat) : Int) = i by omega, show ((k.toNat : Nat) : Int) = k by omega, show ((m.toNat : Nat) : Int) = m by omega]
theorem fieldsA_drop {L : List field.Fd} {k : Nat} {x : field.Fd} (h : L[k]? = some x) : fieldsA (L.drop k) = fieldA x ++ fieldsA (L.drop (k + 1)) := by
  have hk := (List.getElem?_eq_some_iff.1 h).1
  rw [List.drop_eq_getElem_cons hk]
  have : L[k] = x := (List.getElem?_eq_some_iff.1 h).2
  rw [this]; simp [fieldsA]
theorem numsA_drop {L : List Int} {k : Nat} {x : Int} (h : L[k]? = some x) : numsA (L.drop k) = vb x.toNat ++ numsA (L.drop (k + 1)) := by
  have hk := (List.getElem?_eq_some_iff.1 h).1
  rw [List.drop_eq_getElem_cons hk]
  have : L[k] = x := (List.getElem?_eq_some_iff.1 h).2
  rw [this]; simp [numsA]
theorem takeAs_lay {L : List field.Fd} (h : ∀ f ∈ L, FieldOk f) (r : List Nat) : ∀ k, k ≤ L.length → takeAs k (fieldsA L ++ r, 0) = (L.take k, (fieldsA (L.drop k) ++ r, 0))
  | 0, _ => by simp [takeAs]
  | k + 1, hk => by
    have ih := takeAs_lay h r k (by omega)
    have hx : L[k]? = some L[k] := List.getElem?_eq_getElem (by omega)
    rw [takeAs, ih]
    simp only []
    rw [fieldsA_drop hx, List.append_assoc, takeA_lay (h _ (List.mem_of_getElem? hx)), take_succ_at hx]
theorem takeNs_lay {L : List Int} (h : ∀ n ∈ L, 0 ≤ n ∧ n ≤ 1000) (r : List Nat) : ∀ k, k ≤ L.length → takeNs k (numsA L ++ r, 0) = (L.take k, (numsA (L.drop k) ++ r, 0))
  | 0, _ => by simp [takeNs]
  | k + 1, hk => by
    have ih := takeNs_lay h r k (by omega)
    have hx : L[k]? = some L[k] := List.getElem?_eq_getElem (by omega)
    have h1 := h _ (List.mem_of_getElem? hx)
    rw [takeNs, ih]
    simp only []
    rw [numsA_drop hx, List.append_assoc, eCount_vb 1000 _ _ (by omega) (by omega), take_succ_at hx]
    simp only [show ((L[k].toNat : Nat) : Int) = L[k] by omega]
/-- what a letter may hold, to be read as it was -/
def Sp.Ok (s : Sp) (c : UInt8) : Prop :=
  if c = 102 then 0 ≤ s.fm ∧ s.fm ≤ 200 else if c = 100 then 0 ≤ s.fd ∧ s.fd ≤ 255 else if c = 112 then 0 ≤ s.pl ∧ s.pl ≤ 8 else if c = 116 then 0 ≤ s.tt ∧ s.tt ≤ 255 else if c = 97 then 0 ≤ s.a ∧ s.a ≤ 1048576
  else if c = 98 then InOk s.a ∧ InOk s.b else if c = 70 then FieldOk s.f else if c = 86 then InOk s.v.n ∧ s.v.s.size ≤ 32 else if c = 84 then s.t.length ≤ 64 ∧ ∀ n ∈ s.t, 0 ≤ n ∧ n ≤ 1000
  else s.l.length ≤ 8 ∧ ∀ f ∈ s.l, FieldOk f
/-- a letter of s put into x -/
def Sp.mix (s x : Sp) (c : UInt8) : Sp :=
  if c = 102 then { x with fm := s.fm } else if c = 100 then { x with fd := s.fd } else if c = 112 then { x with pl := s.pl } else if c = 116 then { x with tt := s.tt } else if c = 97 then { x with a := s.a }
  else if c = 98 then { x with a := s.a, b := s.b } else if c = 70 then { x with f := s.f } else if c = 86 then { x with v := s.v } else if c = 84 then { x with t := s.t } else { x with l := s.l }
theorem takeL_lay {s x : Sp} {c : UInt8} (hc : Letter c) (h : s.Ok c) (ht : c = 84 → x.t = []) (hl : c = 76 → x.l = []) (r : List Nat) : takeL c x (s.letB c ++ r, 0) = (s.mix x c, (r, 0)) := by
  rcases hc with rfl | rfl | rfl | rfl | rfl | rfl | rfl | rfl | rfl | rfl
  · replace h : 0 ≤ s.fm ∧ s.fm ≤ 200 := h
    show ({ x with fm := ((eCount 200 (vb s.fm.toNat ++ r, 0)).1 : Int) }, (eCount 200 (vb s.fm.toNat ++ r, 0)).2) = ({ x with fm := s.fm }, (r, 0))
    rw [eCount_vb 200 _ _ (by omega) (by omega)]
    simp only [show ((s.fm.toNat : Nat) : Int) = s.fm by omega]
  · replace h : 0 ≤ s.fd ∧ s.fd ≤ 255 := h
    show ({ x with fd := ((eCount 255 (vb s.fd.toNat ++ r, 0)).1 : Int) }, (eCount 255 (vb s.fd.toNat ++ r, 0)).2) = ({ x with fd := s.fd }, (r, 0))
    rw [eCount_vb 255 _ _ (by omega) (by omega)]
    simp only [show ((s.fd.toNat : Nat) : Int) = s.fd by omega]
  · replace h : 0 ≤ s.pl ∧ s.pl ≤ 8 := h
    show ({ x with pl := ((eCount 8 (vb s.pl.toNat ++ r, 0)).1 : Int) }, (eCount 8 (vb s.pl.toNat ++ r, 0)).2) = ({ x with pl := s.pl }, (r, 0))
    rw [eCount_vb 8 _ _ (by omega) (by omega)]
    simp only [show ((s.pl.toNat : Nat) : Int) = s.pl by omega]
  · replace h : 0 ≤ s.tt ∧ s.tt ≤ 255 := h
    show ({ x with tt := ((eCount 255 (vb s.tt.toNat ++ r, 0)).1 : Int) }, (eCount 255 (vb s.tt.toNat ++ r, 0)).2) = ({ x with tt := s.tt }, (r, 0))
    rw [eCount_vb 255 _ _ (by omega) (by omega)]
    simp only [show ((s.tt.toNat : Nat) : Int) = s.tt by omega]
  · replace h : 0 ≤ s.a ∧ s.a ≤ 1048576 := h
    show ({ x with a := ((eCount 1048576 (vb s.a.toNat ++ r, 0)).1 : Int) }, (eCount 1048576 (vb s.a.toNat ++ r, 0)).2) = ({ x with a := s.a }, (r, 0))
    rw [eCount_vb 1048576 _ _ (by omega) (by omega)]
    simp only [show ((s.a.toNat : Nat) : Int) = s.a by omega]
  · replace h : InOk s.a ∧ InOk s.b := h
    have e : (vb (zig s.a) ++ vb (zig s.b) ++ r, 0) = ((vb (zig s.a) ++ (vb (zig s.b) ++ r), 0) : Sight) := by rw [List.append_assoc]
    show ({ x with a := (eInt (vb (zig s.a) ++ vb (zig s.b) ++ r, 0)).1, b := (eInt (eInt (vb (zig s.a) ++ vb (zig s.b) ++ r, 0)).2).1 }, (eInt (eInt (vb (zig s.a) ++ vb (zig s.b) ++ r, 0)).2).2) = ({ x with a := s.a, b := s.b }, (r, 0))
    rw [e, eInt_vb _ h.1.1 h.1.2]
    simp only []
    rw [eInt_vb _ h.2.1 h.2.2]
  · replace h : FieldOk s.f := h
    show ({ x with f := (takeA (fieldA s.f ++ r, 0)).1 }, (takeA (fieldA s.f ++ r, 0)).2) = ({ x with f := s.f }, (r, 0))
    rw [takeA_lay h]
  · replace h : InOk s.v.n ∧ s.v.s.size ≤ 32 := h
    have e : (vb (zig s.v.n) ++ (vb s.v.s.size ++ bytesOf s.v.s) ++ r, 0) = ((vb (zig s.v.n) ++ (vb s.v.s.size ++ (bytesOf s.v.s ++ r)), 0) : Sight) := by simp only [List.append_assoc]
    show ({ x with v := ⟨(eInt (vb (zig s.v.n) ++ (vb s.v.s.size ++ bytesOf s.v.s) ++ r, 0)).1, strOf (eText 32 (eInt (vb (zig s.v.n) ++ (vb s.v.s.size ++ bytesOf s.v.s) ++ r, 0)).2).1⟩ }, (eText 32 (eInt (vb (zig s.v.n) ++ (vb s.v.s.size ++ bytesOf s.v.s) ++ r, 0)).2).2) = ({ x with v := s.v }, (r, 0))
    rw [e, eInt_vb _ h.1.1 h.1.2]
    simp only []
    rw [eText_lay _ h.2]
    simp only [strOf_bytes]
  · replace h : s.t.length ≤ 64 ∧ ∀ n ∈ s.t, 0 ≤ n ∧ n ≤ 1000 := h
    have e : (vb s.t.length ++ numsA s.t ++ r, 0) = ((vb s.t.length ++ (numsA s.t ++ r), 0) : Sight) := by rw [List.append_assoc]
    show ({ x with t := x.t ++ (takeNs (eCount 64 (vb s.t.length ++ numsA s.t ++ r, 0)).1 (eCount 64 (vb s.t.length ++ numsA s.t ++ r, 0)).2).1 }, (takeNs (eCount 64 (vb s.t.length ++ numsA s.t ++ r, 0)).1 (eCount 64 (vb s.t.length ++ numsA s.t ++ r, 0)).2).2) = ({ x with t := s.t }, (r, 0))
    rw [e, eCount_vb 64 _ _ (by omega) (by omega), ht rfl]
    simp only []
    rw [takeNs_lay h.2 r _ (Nat.le_refl _), List.take_of_length_le (Nat.le_refl _), List.drop_of_length_le (Nat.le_refl _)]
    simp [numsA]
  · replace h : s.l.length ≤ 8 ∧ ∀ f ∈ s.l, FieldOk f := h
    have e : (vb s.l.length ++ fieldsA s.l ++ r, 0) = ((vb s.l.length ++ (fieldsA s.l ++ r), 0) : Sight) := by rw [List.append_assoc]
    show ({ x with l := x.l ++ (takeAs (eCount 8 (vb s.l.length ++ fieldsA s.l ++ r, 0)).1 (eCount 8 (vb s.l.length ++ fieldsA s.l ++ r, 0)).2).1 }, (takeAs (eCount 8 (vb s.l.length ++ fieldsA s.l ++ r, 0)).1 (eCount 8 (vb s.l.length ++ fieldsA s.l ++ r, 0)).2).2) = ({ x with l := s.l }, (r, 0))
    rw [e, eCount_vb 8 _ _ (by omega) (by omega), hl rfl]
    simp only []
    rw [takeAs_lay h.2 r _ (Nat.le_refl _), List.take_of_length_le (Nat.le_refl _), List.drop_of_length_le (Nat.le_refl _)]
    simp [fieldsA]
theorem mix_t (s x : Sp) {c : UInt8} (h : c ≠ 84) : (s.mix x c).t = x.t := by
  unfold Sp.mix
  repeat' split
  all_goals first | rfl | exact absurd (by assumption) h
theorem mix_l (s x : Sp) {c : UInt8} (hc : Letter c) (h : c ≠ 76) : (s.mix x c).l = x.l := by
  rcases hc with rfl | rfl | rfl | rfl | rfl | rfl | rfl | rfl | rfl | rfl
  all_goals first | rfl | exact absurd rfl h
theorem run_lay {s : Sp} : ∀ (cs : List UInt8) (x : Sp) (r : List Nat), (∀ c ∈ cs, Letter c ∧ s.Ok c) → cs.Nodup → (84 ∈ cs → x.t = []) → (76 ∈ cs → x.l = []) → run cs (x, ((cs.map s.letB).flatten ++ r, 0)) = (cs.foldl s.mix x, (r, 0))
  | [], x, r, _, _, _, _ => rfl
  | c :: cs, x, r, h, hn, ht, hl => by
    have h1 := h c (by simp)
    have hn' := List.nodup_cons.1 hn
    have e1 := takeL_lay h1.1 h1.2 (fun e => ht (by simp [e])) (fun e => hl (by simp [e])) ((cs.map s.letB).flatten ++ r)
    have ih := run_lay cs (s.mix x c) r (fun d hd => h d (by simp [hd])) hn'.2 (fun hm => by rw [mix_t s x (c := c) (fun e => hn'.1 (by rw [e]; exact hm))]; exact ht (by simp [hm])) (fun hm => by rw [mix_l s x h1.1 (fun e => hn'.1 (by rw [e]; exact hm))]; exact hl (by simp [hm]))
    show run cs (takeL c x (((c :: cs).map s.letB).flatten ++ r, 0)) = _
    rw [List.map_cons, List.flatten_cons, List.append_assoc, e1, ih]
    rfl
theorem has_ok {f : field.Fd} {v : field.Va} (h : f.Has v) : InOk v.n ∧ v.s.size ≤ 32 := by
  obtain ⟨h1, h2, h3⟩ := h
  unfold field.Fd.Right at h1
  unfold field.Fd.great at h2
  unfold field.Fd.long at h3
  unfold InOk
  obtain ⟨_, h1 | h1 | h1 | h1⟩ := h1
  all_goals
    rw [h1.1] at h2 h3
    simp only [Int.reduceEq, if_false, if_true] at h2 h3
    omega
theorem fine_ok {s : Sp} {m : Nat} (hm : m < 12) (h : s.Fine m) : ∀ c ∈ lets m, s.Ok c := by
  match m, hm with
  | 0, _ => intro c hc; obtain rfl := List.mem_singleton.1 hc; exact h
  | 1, _ => intro c hc; obtain rfl := List.mem_singleton.1 hc; exact h
  | 2, _ => intro c hc; obtain rfl := List.mem_singleton.1 hc; exact h
  | 3, _ => intro c hc; obtain rfl := List.mem_singleton.1 hc; exact h.1
  | 4, _ =>
    intro c hc; obtain rfl := List.mem_singleton.1 hc
    replace h : 2 ≤ s.a ∧ s.a ≤ 1048576 := h
    show 0 ≤ s.a ∧ s.a ≤ 1048576
    omega
  | 5, _ =>
    intro c hc; obtain rfl := List.mem_singleton.1 hc
    replace h : ((-1048576 ≤ s.a ∧ s.a ≤ 1048576) ∧ s.a ≠ 0) ∧ (-1099511627776 ≤ s.b ∧ s.b ≤ 1099511627776) := h
    show InOk s.a ∧ InOk s.b
    unfold InOk; omega
  | 6, _ =>
    replace h : (1 ≤ s.a ∧ s.a ≤ 1000) ∧ Table s.t s.a := h
    intro c hc
    have hc' : c = 97 ∨ c = 84 := by simpa [lets] using hc
    rcases hc' with rfl | rfl
    · show 0 ≤ s.a ∧ s.a ≤ 1048576
      omega
    · refine ⟨h.2.1.2, fun n hn => ?_⟩
      have := h.2.2.1 n hn
      omega
  | 7, _ =>
    replace h : Table s.t 1000 := h
    intro c hc; obtain rfl := List.mem_singleton.1 hc
    refine ⟨h.1.2, fun n hn => ?_⟩
    have := h.2.1 n hn
    omega
  | 8, _ => intro c hc; obtain rfl := List.mem_singleton.1 hc; exact right_ok h.1
  | 9, _ =>
    replace h : s.f.Has s.v := h
    intro c hc
    have hc' : c = 70 ∨ c = 86 := by simpa [lets] using hc
    rcases hc' with rfl | rfl
    · exact right_ok h.1
    · exact has_ok h
  | 10, _ =>
    replace h : (-1099511627776 ≤ s.v.n ∧ s.v.n ≤ 1099511627776) ∧ s.v.s.size ≤ 32 := h
    intro c hc; obtain rfl := List.mem_singleton.1 hc
    show InOk s.v.n ∧ s.v.s.size ≤ 32
    unfold InOk; omega
  | 11, _ =>
    replace h : schema.Fine (s.fm, s.l) := h
    intro c hc; obtain rfl := List.mem_singleton.1 hc
    exact ⟨h.2.1.2, fun f hf => right_ok (h.2.2.1.1 f hf)⟩
theorem Sp.Right.ok {s : Sp} (h : s.Right) : ∀ c ∈ uses s.op, Letter c ∧ s.Ok c := by
  intro c hc
  refine ⟨uses_letter _ c hc, ?_⟩
  rw [uses_mem] at hc
  obtain ⟨l, hl, hcl⟩ := List.mem_flatten.1 hc
  obtain ⟨m, hm, rfl⟩ := List.mem_map.1 hl
  exact fine_ok (mem_lt _ m hm) (h.1 m hm) c hcl
theorem uses_nodup (op : Int) : (uses op).Nodup := by
  refine all_ops (Q := fun op => (uses op).Nodup) ?_ ?_ ?_ ?_ ?_ ?_ ?_ ?_ ?_ ?_ ?_ ?_ ?_ ?_ ?_ ?_ ?_ ?_ ?_ ?_ ?h0 op
  case h0 => intro op h1 h2; rw [h2]; simp
  all_goals decide
/-- what is cleared is what is put in -/
theorem mixed {s : Sp} (h : (mem s.op).foldl Sp.clear { s with op := 0 } = Sp.zero) : (uses s.op).foldl s.mix (startS s.op) = s := by
  obtain ⟨op, fm, fd, pl, tt, a, b, f, v, t, l⟩ := s
  revert h
  show (mem op).foldl Sp.clear (⟨0, fm, fd, pl, tt, a, b, f, v, t, l⟩ : Sp) = Sp.zero → (uses op).foldl (Sp.mix ⟨op, fm, fd, pl, tt, a, b, f, v, t, l⟩) (startS op) = ⟨op, fm, fd, pl, tt, a, b, f, v, t, l⟩
  refine all_ops (Q := fun op => (mem op).foldl Sp.clear (⟨0, fm, fd, pl, tt, a, b, f, v, t, l⟩ : Sp) = Sp.zero → (uses op).foldl (Sp.mix ⟨op, fm, fd, pl, tt, a, b, f, v, t, l⟩) (startS op) = ⟨op, fm, fd, pl, tt, a, b, f, v, t, l⟩) ?_ ?_ ?_ ?_ ?_ ?_ ?_ ?_ ?_ ?_ ?_ ?_ ?_ ?_ ?_ ?_ ?_ ?_ ?_ ?_ ?h0 op
  case h0 =>
    intro op h1 h2 h
    rw [h1] at h
    rw [h2]
    simp only [List.foldl_nil, Sp.zero, Sp.mk.injEq, true_and] at h
    obtain ⟨rfl, rfl, rfl, rfl, rfl, rfl, rfl, rfl, rfl, rfl⟩ := h
    rfl
  all_goals
    intro h
    simp [mem, Sp.clear] at h
    simp [uses, Sp.mix, startS, h]
theorem takeS_lay {s : Sp} (h : s.Right) (r : List Nat) : takeS (s.stepB ++ r, 0) = (s, (r, 0)) := by
  have hs := mem_span h.2.1
  unfold takeS Sp.stepB
  rw [List.append_assoc, eCount_vb 30 _ _ (by omega) (by omega)]
  simp only [show ((s.op.toNat : Nat) : Int) = s.op by omega]
  rw [run_lay (s := s) _ _ r h.ok (uses_nodup _) (fun _ => rfl) (fun _ => rfl), mixed h.2.2]
theorem stepsB_drop {L : List Sp} {k : Nat} {x : Sp} (h : L[k]? = some x) : ((L.drop k).map Sp.stepB).flatten = x.stepB ++ ((L.drop (k + 1)).map Sp.stepB).flatten := by
  have hk := (List.getElem?_eq_some_iff.1 h).1
  rw [List.drop_eq_getElem_cons hk]
  have : L[k] = x := (List.getElem?_eq_some_iff.1 h).2
  rw [this]; simp
theorem takeSs_lay {L : List Sp} (h : Rights L) (r : List Nat) : ∀ k, k ≤ L.length → takeSs k ((L.map Sp.stepB).flatten ++ r, 0) = (L.take k, (((L.drop k).map Sp.stepB).flatten ++ r, 0))
  | 0, _ => by simp [takeSs]
  | k + 1, hk => by
    have ih := takeSs_lay h r k (by omega)
    have hx : L[k]? = some L[k] := List.getElem?_eq_getElem (by omega)
    rw [takeSs, ih]
    simp only []
    rw [stepsB_drop hx, List.append_assoc, takeS_lay (h _ (List.mem_of_getElem? hx)), take_succ_at hx]
theorem parsed_lay {L : List Sp} (h : Rights L) (hl : L.length ≤ 40) : parsed (listB L) = (L, 0) := by
  have e : readL (listB L) = (L, ([], 0)) := by
    unfold readL listB
    rw [eCount_vb 40 _ _ (by omega) (by omega)]
    simp only []
    have := takeSs_lay h [] L.length (Nat.le_refl _)
    rw [List.append_nil] at this
    rw [this, List.take_of_length_le (Nat.le_refl _), List.drop_of_length_le (Nat.le_refl _)]
    rfl
  unfold parsed
  rw [e]
  simp only [eEnd]
  rw [if_neg (by simp), if_pos h]

/-! and back again -/
theorem eCount_stuck (m : Int) {e : Sight} (h : e.2 ≠ 0) : eCount m e = (0, e) := by unfold eCount eVar; rw [if_pos h]
theorem eInt_stuck {e : Sight} (h : e.2 ≠ 0) : (eInt e).2 = e := by unfold eInt eVar; rw [if_pos h]
theorem eText_stuck (m : Int) {e : Sight} (h : e.2 ≠ 0) : (eText m e).2 = e := by
  unfold eText
  rw [eCount_stuck m h]
  simp only []
  have : eNext 0 e = ([], e) := by unfold eNext; rw [if_pos h]
  rw [this]
  simp only []
  rw [if_pos h]
/-- a reader that does nothing behind an error -/
theorem gone {g : Sight → Sight} (hg : ∀ e : Sight, e.2 ≠ 0 → g e = e) {e : Sight} (h : (g e).2 = 0) : e.2 = 0 := by
  by_cases h0 : e.2 = 0
  · exact h0
  · rw [hg e h0] at h; exact h
theorem takeA_stuck (e : Sight) (h : e.2 ≠ 0) : (takeA e).2 = e := by
  unfold takeA
  simp only [eCount_stuck _ h, eInt_stuck h]
theorem takeAs_stuck (n : Nat) (e : Sight) (h : e.2 ≠ 0) : (takeAs n e).2 = e := by
  induction n with
  | zero => rfl
  | succ n ih => rw [takeAs]; simp only [ih]; exact takeA_stuck e h
theorem takeNs_stuck (n : Nat) (e : Sight) (h : e.2 ≠ 0) : (takeNs n e).2 = e := by
  induction n with
  | zero => rfl
  | succ n ih => rw [takeNs]; simp only [ih, eCount_stuck _ h]
theorem takeL_stuck (c : UInt8) (s : Sp) (e : Sight) (h : e.2 ≠ 0) : (takeL c s e).2 = e := by
  unfold takeL
  simp only [eCount_stuck _ h, eInt_stuck h, takeA_stuck _ h, eText_stuck _ h, takeNs_stuck _ _ h, takeAs_stuck _ _ h]
  repeat' split
  all_goals rfl
theorem run_stuck : ∀ (cs : List UInt8) (s : Sp) (e : Sight), e.2 ≠ 0 → (run cs (s, e)).2 = e
  | [], _, _, _ => rfl
  | c :: cs, s, e, h => by
    show (run cs (takeL c s e)).2 = e
    have h1 := takeL_stuck c s e h
    have h2 := run_stuck cs (takeL c s e).1 (takeL c s e).2 (by rw [h1]; exact h)
    rw [h1] at h2
    have h3 : takeL c s e = ((takeL c s e).1, e) := Prod.ext rfl h1
    rw [h3]
    exact h2
theorem takeS_stuck (e : Sight) (h : e.2 ≠ 0) : (takeS e).2 = e := by
  unfold takeS
  rw [eCount_stuck _ h]
  exact run_stuck _ _ _ h
theorem takeSs_stuck (n : Nat) (e : Sight) (h : e.2 ≠ 0) : (takeSs n e).2 = e := by
  induction n with
  | zero => rfl
  | succ n ih => rw [takeSs]; simp only [ih]; exact takeS_stuck e h
theorem takeA_inv {e : Sight} (hs : Small e) (h : (takeA e).2.2 = 0) : e.2 = 0 ∧ e.1 = fieldA (takeA e).1 ++ (takeA e).2.1 := by
  obtain ⟨A, e1, hA⟩ : ∃ A s, eCount 255 e = (A, s) := ⟨_, _, rfl⟩
  obtain ⟨K, e2, hK⟩ : ∃ A s, eCount 4 e1 = (A, s) := ⟨_, _, rfl⟩
  obtain ⟨l, e3, hl⟩ : ∃ A s, eInt e2 = (A, s) := ⟨_, _, rfl⟩
  obtain ⟨g, e4, hg⟩ : ∃ A s, eInt e3 = (A, s) := ⟨_, _, rfl⟩
  obtain ⟨M, e5, hM⟩ : ∃ A s, eCount 1000 e4 = (A, s) := ⟨_, _, rfl⟩
  have hT : takeA e = (⟨A, K, l, g, M⟩, e5) := by unfold takeA; simp only [hA, hK, hl, hg, hM]
  rw [hT] at h ⊢
  have z5 : (eCount 1000 e4).2.2 = 0 := by rw [hM]; exact h
  have z4 : (eInt e3).2.2 = 0 := by rw [hg]; exact gone (g := fun e => (eCount 1000 e).2) (fun e he => by rw [eCount_stuck _ he]) z5
  have z3 : (eInt e2).2.2 = 0 := by rw [hl]; exact gone (g := fun e => (eInt e).2) (fun e he => eInt_stuck he) z4
  have z2 : (eCount 4 e1).2.2 = 0 := by rw [hK]; exact gone (g := fun e => (eInt e).2) (fun e he => eInt_stuck he) z3
  have z1 : (eCount 255 e).2.2 = 0 := by rw [hA]; exact gone (g := fun e => (eCount 4 e).2) (fun e he => by rw [eCount_stuck _ he]) z2
  have i1 := eCount_inv hs z1
  have i2 := eCount_inv (s := e1) (by have := small_eq hs i1.2; rw [hA] at this; exact this) z2
  have s1 : Small e1 := by have := small_eq hs i1.2; rw [hA] at this; exact this
  have s2 : Small e2 := by have := small_eq s1 i2.2; rw [hK] at this; exact this
  have i3 := eInt_inv s2 z3
  have s3 : Small e3 := by have := small_eq s2 i3.2; rw [hl] at this; exact this
  have i4 := eInt_inv s3 z4
  have s4 : Small e4 := by have := small_eq s3 i4.2; rw [hg] at this; exact this
  have i5 := eCount_inv s4 z5
  rw [hA] at i1
  rw [hK] at i2
  rw [hl] at i3
  rw [hg] at i4
  rw [hM] at i5
  refine ⟨i1.1, ?_⟩
  rw [i1.2, i2.2, i3.2, i4.2, i5.2]
  simp [fieldA]
theorem takeAs_inv (n : Nat) {e : Sight} (hs : Small e) : (takeAs n e).2.2 = 0 → e.2 = 0 ∧ e.1 = fieldsA (takeAs n e).1 ++ (takeAs n e).2.1 := by
  induction n with
  | zero => intro h; exact ⟨h, rfl⟩
  | succ n ih =>
    intro h
    rw [takeAs] at h ⊢
    simp only at h ⊢
    have h1 := ih (gone (g := fun e => (takeA e).2) takeA_stuck h)
    have h2 := takeA_inv (small_eq hs h1.2) h
    refine ⟨h1.1, ?_⟩
    rw [h1.2, h2.2]
    simp [fieldsA]
theorem takeNs_inv (n : Nat) {e : Sight} (hs : Small e) : (takeNs n e).2.2 = 0 → e.2 = 0 ∧ e.1 = numsA (takeNs n e).1 ++ (takeNs n e).2.1 := by
  induction n with
  | zero => intro h; exact ⟨h, rfl⟩
  | succ n ih =>
    intro h
    rw [takeNs] at h ⊢
    simp only at h ⊢
    have h1 := ih (gone (g := fun e => (eCount 1000 e).2) (fun e he => by rw [eCount_stuck _ he]) h)
    have h2 := eCount_inv (small_eq hs h1.2) h
    refine ⟨h1.1, ?_⟩
    rw [h1.2, h2.2]
    simp [numsA]
theorem eText_inv {e : Sight} (hs : Small e) (h : (eText 32 e).2.2 = 0) : e.2 = 0 ∧ e.1 = vb (strOf (eText 32 e).1).size ++ bytesOf (strOf (eText 32 e).1) ++ (eText 32 e).2.1 := by
  obtain ⟨N, e1, hN⟩ : ∃ A s, eCount 32 e = (A, s) := ⟨_, _, rfl⟩
  unfold eText at h ⊢
  rw [hN] at h ⊢
  simp only at h ⊢
  have h0 : ¬ (eNext N e1).2.2 ≠ 0 := by
    intro hq
    rw [if_pos hq] at h
    exact hq h
  rw [if_neg h0] at h ⊢
  have h1 : e1.2 = 0 := by
    by_cases hq : e1.2 = 0
    · exact hq
    · unfold eNext at h; rw [if_pos hq] at h; exact h
  have hlt : ¬ e1.1.length < N := by
    intro hq
    unfold eNext at h
    rw [if_neg (by omega), if_pos hq] at h
    simp at h
  have hx : eNext N e1 = (e1.1.take N, (e1.1.drop N, 0)) := by unfold eNext; rw [if_neg (by omega), if_neg hlt]
  rw [hx]
  simp only
  have i1 := eCount_inv (most := 32) hs (by rw [hN]; exact h1)
  have s1 : Small e1 := by have := small_eq hs i1.2; rw [hN] at this; exact this
  rw [hN] at i1
  have hsm : ∀ x ∈ e1.1.take N, x < 256 := fun x hx => s1 x (List.mem_of_mem_take hx)
  refine ⟨i1.1, ?_⟩
  rw [bytes_strOf hsm, strOf_size, List.length_take, Nat.min_eq_left (by omega), List.append_assoc, List.take_append_drop]
  exact i1.2
theorem takeL_inv {c : UInt8} {s : Sp} {e : Sight} (hc : Letter c) (ht : c = 84 → s.t = []) (hl : c = 76 → s.l = []) (hs : Small e) (h : (takeL c s e).2.2 = 0) : e.2 = 0 ∧ e.1 = (takeL c s e).1.letB c ++ (takeL c s e).2.1 := by
  rcases hc with rfl | rfl | rfl | rfl | rfl | rfl | rfl | rfl | rfl | rfl
  · exact eCount_inv (most := 200) hs h
  · exact eCount_inv (most := 255) hs h
  · exact eCount_inv (most := 8) hs h
  · exact eCount_inv (most := 255) hs h
  · exact eCount_inv (most := 1048576) hs h
  · replace h : (eInt (eInt e).2).2.2 = 0 := h
    have z1 : (eInt e).2.2 = 0 := gone (g := fun e => (eInt e).2) (fun e he => eInt_stuck he) h
    have i1 := eInt_inv hs z1
    have i2 := eInt_inv (small_eq hs i1.2) h
    refine ⟨i1.1, ?_⟩
    show e.1 = vb (zig (eInt e).1) ++ vb (zig (eInt (eInt e).2).1) ++ (eInt (eInt e).2).2.1
    rw [i1.2, i2.2]
    simp
  · exact takeA_inv hs h
  · replace h : (eText 32 (eInt e).2).2.2 = 0 := h
    have z1 : (eInt e).2.2 = 0 := gone (g := fun e => (eText 32 e).2) (fun e he => eText_stuck 32 he) h
    have i1 := eInt_inv hs z1
    have i2 := eText_inv (small_eq hs i1.2) h
    refine ⟨i1.1, ?_⟩
    show e.1 = vb (zig (eInt e).1) ++ (vb (strOf (eText 32 (eInt e).2).1).size ++ bytesOf (strOf (eText 32 (eInt e).2).1)) ++ (eText 32 (eInt e).2).2.1
    rw [i1.2, i2.2]
    simp
  · replace h : (takeNs (eCount 64 e).1 (eCount 64 e).2).2.2 = 0 := h
    have z1 : (eCount 64 e).2.2 = 0 := gone (g := fun q => (takeNs (eCount 64 e).1 q).2) (fun q hq => takeNs_stuck _ q hq) h
    have i1 := eCount_inv (most := 64) hs z1
    have i2 := takeNs_inv _ (small_eq hs i1.2) h
    refine ⟨i1.1, ?_⟩
    show e.1 = vb (s.t ++ (takeNs (eCount 64 e).1 (eCount 64 e).2).1).length ++ numsA (s.t ++ (takeNs (eCount 64 e).1 (eCount 64 e).2).1) ++ (takeNs (eCount 64 e).1 (eCount 64 e).2).2.1
    rw [ht rfl, List.nil_append, takeNs_len, i1.2, i2.2]
    simp
  · replace h : (takeAs (eCount 8 e).1 (eCount 8 e).2).2.2 = 0 := h
    have z1 : (eCount 8 e).2.2 = 0 := gone (g := fun q => (takeAs (eCount 8 e).1 q).2) (fun q hq => takeAs_stuck _ q hq) h
    have i1 := eCount_inv (most := 8) hs z1
    have i2 := takeAs_inv _ (small_eq hs i1.2) h
    refine ⟨i1.1, ?_⟩
    show e.1 = vb (s.l ++ (takeAs (eCount 8 e).1 (eCount 8 e).2).1).length ++ fieldsA (s.l ++ (takeAs (eCount 8 e).1 (eCount 8 e).2).1) ++ (takeAs (eCount 8 e).1 (eCount 8 e).2).2.1
    rw [hl rfl, List.nil_append, takeAs_len, i1.2, i2.2]
    simp
/-- two letters that do not touch one another -/
def Apart (c d : UInt8) : Prop := c ≠ d ∧ ¬ (c = 97 ∧ d = 98) ∧ ¬ (c = 98 ∧ d = 97)
instance (c d : UInt8) : Decidable (Apart c d) := by unfold Apart; infer_instance
theorem letB_keep {c d : UInt8} (s : Sp) (e : Sight) (hc : Letter c) (hd : Letter d) (h : Apart c d) : (takeL d s e).1.letB c = s.letB c := by
  rcases hc with rfl | rfl | rfl | rfl | rfl | rfl | rfl | rfl | rfl | rfl <;> rcases hd with rfl | rfl | rfl | rfl | rfl | rfl | rfl | rfl | rfl | rfl <;> first | rfl | exact absurd h (by decide)
theorem keep_t {d : UInt8} (s : Sp) (e : Sight) (hd : Letter d) (h : d ≠ 84) : (takeL d s e).1.t = s.t := by
  rcases hd with rfl | rfl | rfl | rfl | rfl | rfl | rfl | rfl | rfl | rfl <;> first | rfl | exact absurd rfl h
theorem keep_l {d : UInt8} (s : Sp) (e : Sight) (hd : Letter d) (h : d ≠ 76) : (takeL d s e).1.l = s.l := by
  rcases hd with rfl | rfl | rfl | rfl | rfl | rfl | rfl | rfl | rfl | rfl <;> first | rfl | exact absurd rfl h
theorem keep_op {d : UInt8} (s : Sp) (e : Sight) (hd : Letter d) : (takeL d s e).1.op = s.op := by
  rcases hd with rfl | rfl | rfl | rfl | rfl | rfl | rfl | rfl | rfl | rfl <;> rfl
theorem run_keep {c : UInt8} (hc : Letter c) : ∀ (cs : List UInt8) (s : Sp) (e : Sight), (∀ d ∈ cs, Letter d ∧ Apart c d) → (run cs (s, e)).1.letB c = s.letB c
  | [], _, _, _ => rfl
  | d :: cs, s, e, h => by
    have h1 := h d (by simp)
    show (run cs ((takeL d s e).1, (takeL d s e).2)).1.letB c = _
    rw [run_keep hc cs _ _ (fun x hx => h x (by simp [hx])), letB_keep s e hc h1.1 h1.2]
theorem run_op : ∀ (cs : List UInt8) (s : Sp) (e : Sight), (∀ d ∈ cs, Letter d) → (run cs (s, e)).1.op = s.op
  | [], _, _, _ => rfl
  | d :: cs, s, e, h => by
    show (run cs ((takeL d s e).1, (takeL d s e).2)).1.op = _
    rw [run_op cs _ _ (fun x hx => h x (by simp [hx])), keep_op s e (h d (by simp))]
theorem run_inv : ∀ (cs : List UInt8) (s : Sp) (e : Sight), (∀ d ∈ cs, Letter d) → cs.Pairwise Apart → (84 ∈ cs → s.t = []) → (76 ∈ cs → s.l = []) → Small e → (run cs (s, e)).2.2 = 0 → e.2 = 0 ∧ e.1 = (cs.map (run cs (s, e)).1.letB).flatten ++ (run cs (s, e)).2.1
  | [], s, e, _, _, _, _, _, h => ⟨h, rfl⟩
  | c :: cs, s, e, hL, hp, ht, hl, hs, h => by
    replace h : (run cs ((takeL c s e).1, (takeL c s e).2)).2.2 = 0 := h
    have hc := hL c (by simp)
    have hp' := List.pairwise_cons.1 hp
    have z1 : (takeL c s e).2.2 = 0 := gone (g := fun q => (run cs ((takeL c s e).1, q)).2) (fun q hq => run_stuck cs _ q hq) h
    have i1 := takeL_inv hc (fun he => ht (by simp [he])) (fun he => hl (by simp [he])) hs z1
    have i2 := run_inv cs (takeL c s e).1 (takeL c s e).2 (fun d hd => hL d (by simp [hd])) hp'.2 (fun hm => by rw [keep_t s e hc (fun he => (hp'.1 84 hm).1 he)]; exact ht (by simp [hm])) (fun hm => by rw [keep_l s e hc (fun he => (hp'.1 76 hm).1 he)]; exact hl (by simp [hm])) (small_eq hs i1.2) h
    have hk := run_keep hc cs (takeL c s e).1 (takeL c s e).2 (fun d hd => ⟨hL d (by simp [hd]), hp'.1 d hd⟩)
    refine ⟨i1.1, ?_⟩
    show e.1 = ((c :: cs).map (run cs ((takeL c s e).1, (takeL c s e).2)).1.letB).flatten ++ (run cs ((takeL c s e).1, (takeL c s e).2)).2.1
    rw [List.map_cons, List.flatten_cons, List.append_assoc, ← i2.2, hk]
    exact i1.2
theorem uses_apart (op : Int) : (uses op).Pairwise Apart := by
  refine all_ops (Q := fun op => (uses op).Pairwise Apart) ?_ ?_ ?_ ?_ ?_ ?_ ?_ ?_ ?_ ?_ ?_ ?_ ?_ ?_ ?_ ?_ ?_ ?_ ?_ ?_ ?h0 op
  case h0 => intro op h1 h2; rw [h2]; exact List.Pairwise.nil
  all_goals decide
theorem takeS_inv {e : Sight} (hs : Small e) (h : (takeS e).2.2 = 0) : e.2 = 0 ∧ e.1 = (takeS e).1.stepB ++ (takeS e).2.1 := by
  obtain ⟨N, e1, hN⟩ : ∃ A s, eCount 30 e = (A, s) := ⟨_, _, rfl⟩
  unfold takeS at h ⊢
  rw [hN] at h ⊢
  simp only at h ⊢
  have z1 : e1.2 = 0 := gone (g := fun q => (run (uses N) (startS N, q)).2) (fun q hq => run_stuck _ _ q hq) h
  have i1 := eCount_inv (most := 30) hs (by rw [hN]; exact z1)
  have s1 : Small e1 := by have := small_eq hs i1.2; rw [hN] at this; exact this
  rw [hN] at i1
  have i2 := run_inv (uses N) (startS N) e1 (uses_letter _) (uses_apart _) (fun _ => rfl) (fun _ => rfl) s1 h
  refine ⟨i1.1, ?_⟩
  unfold Sp.stepB
  rw [run_op _ _ _ (uses_letter _)]
  show e.1 = vb ((N : Nat) : Int).toNat ++ ((uses N).map _).flatten ++ _
  rw [Int.toNat_natCast, List.append_assoc, ← i2.2]
  exact i1.2
theorem takeSs_inv (n : Nat) {e : Sight} (hs : Small e) : (takeSs n e).2.2 = 0 → e.2 = 0 ∧ e.1 = ((takeSs n e).1.map Sp.stepB).flatten ++ (takeSs n e).2.1 := by
  induction n with
  | zero => intro h; exact ⟨h, rfl⟩
  | succ n ih =>
    intro h
    rw [takeSs] at h ⊢
    simp only at h ⊢
    have h1 := ih (gone (g := fun e => (takeS e).2) takeS_stuck h)
    have h2 := takeS_inv (small_eq hs h1.2) h
    refine ⟨h1.1, ?_⟩
    rw [h1.2, h2.2]
    simp
theorem eCount_most (m : Nat) (e : Sight) : (eCount m e).1 ≤ m := by
  have := (eVar_le 9223372036854775807 (max (m : Int) 0).toNat e).2
  unfold eCount
  omega
theorem parsed_inv {xs : List Nat} (hx : ∀ c ∈ xs, c < 256) (h : (parsed xs).2 = 0) : Rights (parsed xs).1 ∧ (parsed xs).1.length ≤ 40 ∧ listB (parsed xs).1 = xs := by
  unfold parsed at h ⊢
  by_cases h1 : eEnd (readL xs).2 ≠ 0
  · rw [if_pos h1] at h; exact absurd h h1
  · rw [if_neg h1] at h ⊢
    by_cases h2 : Rights (readL xs).1
    · rw [if_pos h2]
      refine ⟨h2, ?_, ?_⟩
      · show (readL xs).1.length ≤ 40
        unfold readL
        rw [takeSs_len]
        exact eCount_most 40 _
      · have h3 : (readL xs).2.2 = 0 ∧ (readL xs).2.1 = [] := by
          unfold eEnd at h1
          by_cases hq : (readL xs).2.2 = 0 ∧ 0 < (readL xs).2.1.length
          · rw [if_pos hq] at h1; omega
          · rw [if_neg hq] at h1
            have h0 : (readL xs).2.2 = 0 := by omega
            exact ⟨h0, List.eq_nil_of_length_eq_zero (by omega)⟩
        show listB (readL xs).1 = xs
        unfold readL at h3 ⊢
        have hs : Small (xs, 0) := hx
        have z1 : (eCount 40 (xs, 0)).2.2 = 0 := gone (g := fun q => (takeSs (eCount 40 (xs, 0)).1 q).2) (fun q hq => takeSs_stuck _ q hq) h3.1
        have i1 := eCount_inv hs z1
        have i2 := takeSs_inv _ (small_eq hs i1.2) h3.1
        unfold listB
        rw [takeSs_len]
        rw [h3.2, List.append_nil] at i2
        rw [← i2.2]
        exact i1.2.symm
    · rw [if_neg h2] at h; simp at h
end Go.Proofs.Ytpdnfiofjkbeiaa.step
