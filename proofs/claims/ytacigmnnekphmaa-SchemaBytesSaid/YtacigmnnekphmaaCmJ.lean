/- Contracts and lemmas that the claims of this seat share: SchemaBackMath, SchemaFix, SchemaSame, SchemaRefSame. Each says its own conditions. -/
import Derived.Test.YtacigmnnekphmaaCmB
import Derived.Test.YtacigmnnekphmaaCmG
import Derived.Test.YtacigmnnekphmaaCmI
import Derived.Laws.StructEq
import Derived.Deep.RegionHeld3
/- A right schema's bytes are read as it was; what is read is, as bytes, what was read. No condition. -/
namespace Go.Proofs.Ytacigmnnekphmaa.schema
open Go.RowKit Go.Proofs.Ytacigmnnekphmaa.pen
set_option linter.unusedVariables false

/-! there and back -/
theorem eCount_vb (most : Int) (x : Nat) (r : List Nat) (hx : (x : Int) ≤ most) (hm : most ≤ 9223372036854775807) : eCount most (vb x ++ r, 0) = (x, (r, 0)) := by
  unfold eCount
  exact eVar_vb _ _ _ _ (by omega) (by omega) (by omega)
theorem eInt_vb (n : Int) (h1 : -9223372036854775808 ≤ n) (h2 : n ≤ 9223372036854775807) (r : List Nat) : eInt (vb (zig n) ++ r, 0) = (n, (r, 0)) := by
  have hz := zig_lt n h1 h2
  unfold eInt
  rw [eVar_vb _ _ _ _ hz (by omega) (by omega), unzig_zig]
theorem takeF_lay {f : field.Fd} (h : f.Right) (r : List Nat) : takeF (fieldB f ++ r, 0) = (f, (r, 0)) := by
  have hs := right_span h
  have hk : f.kind = 1 ∨ f.kind = 2 ∨ f.kind = 3 ∨ f.kind = 4 := by omega
  unfold field.Fd.Right at h
  obtain ⟨i, k, lo, hi, m⟩ := f
  simp only at h hs hk
  have hi0 : ((i.toNat : Nat) : Int) = i := by omega
  unfold takeF fieldB
  simp only [List.append_assoc]
  rcases hk with rfl | rfl | rfl | rfl
  · rw [eCount_vb 255 _ _ (by omega) (by omega)]
    simp only [if_true, List.append_assoc]
    rw [eCount_vb 4 _ _ (by omega) (by omega)]
    simp only []
    rw [if_pos (by decide), eInt_vb lo (by omega) (by omega)]
    simp only []
    rw [eInt_vb hi (by omega) (by omega)]
    simp only [hi0]
    rw [show m = 0 by omega]
  · rw [eCount_vb 255 _ _ (by omega) (by omega)]
    simp only [Int.reduceEq, if_false, or_self, List.nil_append]
    rw [eCount_vb 4 _ _ (by omega) (by omega)]
    simp only []
    rw [if_neg (by decide), if_neg (by decide), hi0, show lo = 0 by omega, show hi = 0 by omega, show m = 0 by omega]
    rfl
  · rw [eCount_vb 255 _ _ (by omega) (by omega)]
    simp only [Int.reduceEq, if_false, true_or, if_true]
    rw [eCount_vb 4 _ _ (by omega) (by omega)]
    simp only []
    rw [if_neg (by decide), if_pos (by decide), eCount_vb 1000 _ _ (by omega) (by omega)]
    simp only [hi0]
    rw [show lo = 0 by omega, show hi = 0 by omega, show ((m.toNat : Nat) : Int) = m by omega]
    rfl
  · rw [eCount_vb 255 _ _ (by omega) (by omega)]
    simp only [Int.reduceEq, if_false, or_true, if_true]
    rw [eCount_vb 4 _ _ (by omega) (by omega)]
    simp only []
    rw [if_neg (by decide), if_pos (by decide), eCount_vb 1000 _ _ (by omega) (by omega)]
    simp only [hi0]
    rw [show lo = 0 by omega, show hi = 0 by omega, show ((m.toNat : Nat) : Int) = m by omega]
    rfl
theorem fieldsB_drop {L : List field.Fd} {k : Nat} {x : field.Fd} (h : L[k]? = some x) : fieldsB (L.drop k) = fieldB x ++ fieldsB (L.drop (k + 1)) := by
  have hk := (List.getElem?_eq_some_iff.1 h).1
  rw [List.drop_eq_getElem_cons hk]
  have : L[k] = x := (List.getElem?_eq_some_iff.1 h).2
  rw [this]; simp [fieldsB]
theorem takeFs_lay {L : List field.Fd} (h : ∀ f ∈ L, f.Right) (r : List Nat) : ∀ k, k ≤ L.length → takeFs k (fieldsB L ++ r, 0) = (L.take k, (fieldsB (L.drop k) ++ r, 0))
  | 0, _ => by simp [takeFs]
  | k + 1, hk => by
    have ih := takeFs_lay h r k (by omega)
    have hx : L[k]? = some L[k] := List.getElem?_eq_getElem (by omega)
    rw [takeFs, ih]
    simp only []
    rw [fieldsB_drop hx, List.append_assoc, takeF_lay (h _ (List.mem_of_getElem? hx)), take_succ_at hx]
theorem takeFm_lay {p : Form} (h : Fine p) (r : List Nat) : takeFm (formB p ++ r, 0) = (p, (r, 0)) := by
  have h1 := h.1
  have h2 := h.2.1
  unfold takeFm formB
  simp only [List.append_assoc]
  rw [eCount_vb 200 _ _ (by omega) (by omega)]
  simp only []
  rw [eCount_vb 8 _ _ (by omega) (by omega)]
  simp only []
  rw [takeFs_lay h.2.2.1.1 r _ (Nat.le_refl _), List.take_of_length_le (Nat.le_refl _), List.drop_of_length_le (Nat.le_refl _)]
  simp only [fieldsB, List.map_nil, List.flatten_nil, List.nil_append]
  rw [show ((p.1.toNat : Nat) : Int) = p.1 by omega]
theorem formsB_drop {F : List Form} {k : Nat} {x : Form} (h : F[k]? = some x) : formsB (F.drop k) = formB x ++ formsB (F.drop (k + 1)) := by
  have hk := (List.getElem?_eq_some_iff.1 h).1
  rw [List.drop_eq_getElem_cons hk]
  have : F[k] = x := (List.getElem?_eq_some_iff.1 h).2
  rw [this]; simp [formsB]
theorem takeFms_lay {F : List Form} (h : ∀ p ∈ F, Fine p) (r : List Nat) : ∀ k, k ≤ F.length → takeFms k (formsB F ++ r, 0) = (F.take k, (formsB (F.drop k) ++ r, 0))
  | 0, _ => by simp [takeFms]
  | k + 1, hk => by
    have ih := takeFms_lay h r k (by omega)
    have hx : F[k]? = some F[k] := List.getElem?_eq_getElem (by omega)
    rw [takeFms, ih]
    simp only []
    rw [formsB_drop hx, List.append_assoc, takeFm_lay (h _ (List.mem_of_getElem? hx)), take_succ_at hx]
theorem parsed_lay {v : Int} {F : List Form} (h : Right v F) : parsed (schemaB v F) = (v, F, 0) := by
  have h1 := h.1
  have h2 := h.2.1
  have hV : readV (schemaB v F) = (v.toNat, (vb F.length ++ formsB F, 0)) := by
    unfold readV schemaB
    rw [List.append_assoc, eCount_vb 65535 _ _ (by omega) (by omega)]
  have hN : readN (schemaB v F) = (F.length, (formsB F, 0)) := by
    unfold readN
    rw [hV]
    exact eCount_vb 8 _ _ (by omega) (by omega)
  have hF : readF (schemaB v F) = (F, ([], 0)) := by
    unfold readF
    rw [hN]
    have := takeFms_lay h.2.2.1 [] F.length (Nat.le_refl _)
    rw [List.append_nil, List.take_of_length_le (Nat.le_refl _), List.drop_of_length_le (Nat.le_refl _)] at this
    simpa [formsB] using this
  unfold parsed
  rw [hF, hV]
  have hv : ((v.toNat : Nat) : Int) = v := by omega
  rw [if_neg (by simp [eEnd]), hv, if_pos h]

/-! back -/
theorem grp_inv : ∀ (l : List Nat) (i u v n : Nat), i ≤ 9 → (∀ c ∈ l, c < 256) → grp i u l = (v, n, 0) → ∃ x, v = u + x * 128 ^ i ∧ (i = 0 ∨ 0 < x) ∧ ∃ r, l = vb x ++ r ∧ n = i + (vb x).length
  | [], i, u, v, n, _, _, h => by rw [grp] at h; simp at h
  | c :: r, i, u, v, n, hi, hc, h => by
    rw [grp] at h
    by_cases h1 : i = 9 ∧ 1 < c
    · rw [if_pos h1] at h; simp at h
    · rw [if_neg h1] at h
      by_cases h2 : 0 < i ∧ c = 0
      · rw [if_pos h2] at h; simp at h
      · rw [if_neg h2] at h
        by_cases h3 : c < 128
        · rw [if_pos h3] at h
          simp only [Prod.mk.injEq] at h
          refine ⟨c, h.1.symm, by omega, r, by rw [vb_small h3]; rfl, by rw [vb_small h3]; simp; omega⟩
        · rw [if_neg h3] at h
          have hc8 := hc c (by simp)
          obtain ⟨y, hv, hy, q, hr, hn⟩ := grp_inv r (i + 1) _ v n (by omega) (fun d hd => hc d (by simp [hd])) h
          have hy0 : 0 < y := by omega
          have hx : ¬ (c - 128 + 128 * y) < 128 := by omega
          refine ⟨c - 128 + 128 * y, ?_, by omega, q, ?_, ?_⟩
          · rw [hv, Nat.add_mul, Nat.pow_succ, Nat.add_assoc]
            congr 2
            rw [Nat.mul_comm (128 ^ i) 128, ← Nat.mul_assoc, Nat.mul_comm y 128]
          · rw [vb_big hx, hr, List.cons_append]
            congr 1
            · omega
            · congr 2; omega
          · rw [vb_big hx, hn, List.length_cons]
            rw [show (c - 128 + 128 * y) / 128 = y by omega]
            omega
def Small (s : Sight) : Prop := ∀ c ∈ s.1, c < 256
theorem eVar_inv {fits most : Nat} {s : Sight} (hs : Small s) (h : (eVar fits most s).2.2 = 0) : s.2 = 0 ∧ s.1 = vb (eVar fits most s).1 ++ (eVar fits most s).2.1 := by
  unfold eVar at h ⊢
  by_cases h0 : s.2 ≠ 0
  · rw [if_pos h0] at h; exact absurd h h0
  · rw [if_neg h0] at h ⊢
    by_cases h1 : (grp 0 0 s.1).2.2 ≠ 0
    · rw [if_pos h1] at h; exact absurd h h1
    · rw [if_neg h1] at h ⊢
      by_cases h2 : fits < (grp 0 0 s.1).1
      · rw [if_pos h2] at h; simp at h
      · rw [if_neg h2] at h ⊢
        by_cases h3 : most < (grp 0 0 s.1).1
        · rw [if_pos h3] at h; simp at h
        · rw [if_neg h3]
          obtain ⟨x, hv, _, r, hl, hn⟩ := grp_inv s.1 0 0 (grp 0 0 s.1).1 (grp 0 0 s.1).2.1 (by omega) hs (Prod.ext rfl (Prod.ext rfl (show (grp 0 0 s.1).2.2 = 0 by omega)))
          refine ⟨by omega, ?_⟩
          simp only [Nat.pow_zero, Nat.mul_one, Nat.zero_add] at hv hn
          show s.1 = vb (grp 0 0 s.1).1 ++ s.1.drop (grp 0 0 s.1).2.1
          rw [hv, hn]
          conv => lhs; rw [hl]
          congr 1
          rw [hl]; simp
theorem small_rest {s : Sight} {a r : List Nat} {e : Nat} (h : Small s) (hr : s.1 = a ++ r) : Small (r, e) := fun c hc => h c (by rw [hr]; exact List.mem_append.2 (.inr hc))
theorem eCount_inv {most : Int} {s : Sight} (hs : Small s) (h : (eCount most s).2.2 = 0) : s.2 = 0 ∧ s.1 = vb (eCount most s).1 ++ (eCount most s).2.1 := eVar_inv hs h
theorem zig_unzig (u : Nat) : zig (unzig u) = u := by
  unfold zig unzig
  by_cases h : u % 2 = 1
  · rw [if_pos h, if_pos (by omega)]; omega
  · rw [if_neg h, if_neg (by omega)]; omega
theorem eInt_inv {s : Sight} (hs : Small s) (h : (eInt s).2.2 = 0) : s.2 = 0 ∧ s.1 = vb (zig (eInt s).1) ++ (eInt s).2.1 := by
  unfold eInt at h ⊢
  simp only [zig_unzig]
  exact eVar_inv hs h
theorem small_eq {s : Sight} {a : List Nat} {t : Sight} (h : Small s) (hr : s.1 = a ++ t.1) : Small t := fun c hc => h c (by rw [hr]; exact List.mem_append.2 (.inr hc))
theorem takeF_inv {s : Sight} (hs : Small s) (h : (takeF s).2.2 = 0) : s.2 = 0 ∧ s.1 = fieldB (takeF s).1 ++ (takeF s).2.1 := by
  obtain ⟨A, s1, hA⟩ : ∃ A s1, eCount 255 s = (A, s1) := ⟨_, _, rfl⟩
  obtain ⟨k, s2, hK⟩ : ∃ K s2, eCount 4 s1 = (K, s2) := ⟨_, _, rfl⟩
  have i1 := eCount_inv (most := 255) (s := s) hs
  rw [hA] at i1
  have i2 := fun hq => eCount_inv (most := 4) (s := s1) hq
  rw [hK] at i2
  unfold takeF at h ⊢
  simp only [hA, hK] at h ⊢
  simp only at i1 i2
  by_cases h1 : k = 1
  · rw [if_pos h1] at h ⊢
    have i3 := fun hq => eInt_inv (s := s2) hq
    have i4 := fun hq => eInt_inv (s := (eInt s2).2) hq
    -- the errors backwards
    have z4 : ∀ q : Sight, (eInt q).2.2 = 0 → q.2 = 0 := by
      intro q hq
      by_cases h0 : q.2 = 0
      · exact h0
      · unfold eInt eVar at hq; rw [if_pos h0] at hq; exact hq
    have z2 : ∀ (m : Int) (q : Sight), (eCount m q).2.2 = 0 → q.2 = 0 := by
      intro m q hq
      by_cases h0 : q.2 = 0
      · exact h0
      · unfold eCount eVar at hq; rw [if_pos h0] at hq; exact hq
    simp only at h
    have e3 := z4 _ h
    have e2 := z4 _ e3
    have e1 := z2 4 s1 (by rw [hK]; exact e2)
    obtain ⟨r0, r1⟩ := i1 e1
    have m1 := small_eq hs r1
    obtain ⟨_, r2⟩ := i2 m1 e2
    have m2 := small_eq m1 r2
    obtain ⟨_, r3⟩ := i3 m2 e3
    have m3 := small_eq m2 r3
    obtain ⟨_, r4⟩ := i4 m3 h
    refine ⟨r0, ?_⟩
    subst h1
    simp only [fieldB, if_true, Int.toNat_natCast]
    rw [r1, r2, r3, r4]
    simp only [List.append_assoc]
    rfl
  · rw [if_neg h1] at h ⊢
    have z2 : ∀ (m : Int) (q : Sight), (eCount m q).2.2 = 0 → q.2 = 0 := by
      intro m q hq
      by_cases h0 : q.2 = 0
      · exact h0
      · unfold eCount eVar at hq; rw [if_pos h0] at hq; exact hq
    have hk1 : ¬ ((k : Int) = 1) := by omega
    by_cases h3 : k = 3 ∨ k = 4
    · rw [if_pos h3] at h ⊢
      have i3 := fun hq => eCount_inv (most := 1000) (s := s2) hq
      simp only at h
      have e2 := z2 _ _ h
      have e1 := z2 4 s1 (by rw [hK]; exact e2)
      obtain ⟨r0, r1⟩ := i1 e1
      have m1 := small_eq hs r1
      obtain ⟨_, r2⟩ := i2 m1 e2
      have m2 := small_eq m1 r2
      obtain ⟨_, r3⟩ := i3 m2 h
      refine ⟨r0, ?_⟩
      simp only [fieldB, Int.toNat_natCast]
      rw [if_neg hk1, if_pos (by omega), r1, r2, r3]
      simp only [List.append_assoc]
    · rw [if_neg h3] at h ⊢
      simp only at h
      have e1 := z2 4 s1 (by rw [hK]; exact h)
      obtain ⟨r0, r1⟩ := i1 e1
      have m1 := small_eq hs r1
      obtain ⟨_, r2⟩ := i2 m1 h
      refine ⟨r0, ?_⟩
      simp only [fieldB, Int.toNat_natCast]
      rw [if_neg hk1, if_neg (by omega), r1, r2]
      simp only [List.append_assoc, List.append_nil]
theorem takeFs_inv (n : Nat) {s : Sight} (hs : Small s) : (takeFs n s).2.2 = 0 → s.2 = 0 ∧ s.1 = fieldsB (takeFs n s).1 ++ (takeFs n s).2.1 := by
  induction n with
  | zero => intro h; exact ⟨h, rfl⟩
  | succ n ih =>
    intro h
    rw [takeFs] at h ⊢
    simp only at h ⊢
    -- the sight behind n fields is small
    have hsm : Small (takeFs n s).2 ∨ (takeFs n s).2.2 ≠ 0 := by
      by_cases h0 : (takeFs n s).2.2 = 0
      · exact .inl (small_eq hs (ih h0).2)
      · exact .inr h0
    have h0 : (takeFs n s).2.2 = 0 := by
      rcases hsm with h1 | h1
      · exact (takeF_inv h1 h).1
      · exfalso
        apply h1
        have hc : ∀ (m : Int) (q : Sight), q.2 ≠ 0 → eCount m q = (0, q) := fun m q hq => by unfold eCount eVar; rw [if_pos hq]
        have : (takeF (takeFs n s).2).2 = (takeFs n s).2 := by
          unfold takeF
          rw [hc 255 _ h1]
          simp only []
          rw [hc 4 _ h1]
          simp
        rw [this] at h
        exact h
    have h1 := ih h0
    have h2 := takeF_inv (small_eq hs h1.2) h
    refine ⟨h1.1, ?_⟩
    rw [h1.2, h2.2]
    simp [fieldsB]
theorem takeFm_inv {s : Sight} (hs : Small s) (h : (takeFm s).2.2 = 0) : s.2 = 0 ∧ s.1 = formB (takeFm s).1 ++ (takeFm s).2.1 := by
  obtain ⟨A, s1, hA⟩ : ∃ A s1, eCount 200 s = (A, s1) := ⟨_, _, rfl⟩
  obtain ⟨n, s2, hN⟩ : ∃ K s2, eCount 8 s1 = (K, s2) := ⟨_, _, rfl⟩
  have i1 := eCount_inv (most := 200) (s := s) hs
  rw [hA] at i1
  have i2 := fun hq => eCount_inv (most := 8) (s := s1) hq
  rw [hN] at i2
  unfold takeFm at h ⊢
  simp only [hA, hN] at h ⊢
  simp only at i1 i2
  have hc : ∀ (m : Int) (q : Sight), q.2 ≠ 0 → eCount m q = (0, q) := fun m q hq => by unfold eCount eVar; rw [if_pos hq]
  have e1 : s1.2 = 0 := by
    by_cases h0 : s1.2 = 0
    · exact h0
    · rw [hc 8 s1 h0] at hN
      simp only [Prod.mk.injEq] at hN
      obtain ⟨rfl, rfl⟩ := hN
      exact h
  obtain ⟨r0, r1⟩ := i1 e1
  have m1 := small_eq hs r1
  have e2 : s2.2 = 0 := by
    by_cases h0 : s2.2 = 0
    · exact h0
    · exfalso
      have hst : ∀ n, (takeFs n s2).2 = s2 := by
        intro n
        induction n with
        | zero => rfl
        | succ n ih =>
          rw [takeFs]
          simp only [ih]
          unfold takeF
          rw [hc 255 _ h0]
          simp only []
          rw [hc 4 _ h0]
          simp
      rw [hst] at h
      exact h0 h
  obtain ⟨_, r2⟩ := i2 m1 e2
  have m2 := small_eq m1 r2
  have r3 := takeFs_inv n m2 h
  refine ⟨r0, ?_⟩
  simp only [formB, Int.toNat_natCast, takeFs_len]
  rw [r1, r2, r3.2]
  simp only [List.append_assoc]
theorem takeFms_inv (n : Nat) {s : Sight} (hs : Small s) : (takeFms n s).2.2 = 0 → s.2 = 0 ∧ s.1 = formsB (takeFms n s).1 ++ (takeFms n s).2.1 := by
  induction n with
  | zero => intro h; exact ⟨h, rfl⟩
  | succ n ih =>
    intro h
    rw [takeFms] at h ⊢
    simp only at h ⊢
    have h0 : (takeFms n s).2.2 = 0 := by
      by_cases h1 : (takeFms n s).2.2 = 0
      · exact h1
      · exfalso
        have hc : ∀ (m : Int) (q : Sight), q.2 ≠ 0 → eCount m q = (0, q) := fun m q hq => by unfold eCount eVar; rw [if_pos hq]
        have : (takeFm (takeFms n s).2).2 = (takeFms n s).2 := by
          unfold takeFm
          rw [hc 200 _ h1]
          simp only []
          rw [hc 8 _ h1]
          rfl
        rw [this] at h
        exact h1 h
    have h1 := ih h0
    have h2 := takeFm_inv (small_eq hs h1.2) h
    refine ⟨h1.1, ?_⟩
    rw [h1.2, h2.2]
    simp [formsB]
theorem parsed_inv {xs : List Nat} (hx : ∀ c ∈ xs, c < 256) (h : (parsed xs).2.2 = 0) : Right (parsed xs).1 (parsed xs).2.1 ∧ schemaB (parsed xs).1 (parsed xs).2.1 = xs := by
  unfold parsed at h ⊢
  by_cases h1 : eEnd (readF xs).2 ≠ 0
  · rw [if_pos h1] at h; exact absurd h h1
  · rw [if_neg h1] at h ⊢
    by_cases h2 : Right (readV xs).1 (readF xs).1
    · rw [if_pos h2]
      refine ⟨h2, ?_⟩
      simp only
      have hend : (readF xs).2.2 = 0 ∧ (readF xs).2.1 = [] := by
        unfold eEnd at h1
        by_cases h3 : (readF xs).2.2 = 0 ∧ 0 < (readF xs).2.1.length
        · rw [if_pos h3] at h1; omega
        · rw [if_neg h3] at h1
          refine ⟨by omega, List.eq_nil_of_length_eq_zero ?_⟩
          omega
      have hc : ∀ (m : Int) (q : Sight), q.2 ≠ 0 → eCount m q = (0, q) := fun m q hq => by unfold eCount eVar; rw [if_pos hq]
      have hs0 : Small (xs, 0) := hx
      have hN0 : (readN xs).2.2 = 0 := by
        by_cases h0 : (readN xs).2.2 = 0
        · exact h0
        · exfalso
          have hst : ∀ n, (takeFms n (readN xs).2).2 = (readN xs).2 := by
            intro n
            induction n with
            | zero => rfl
            | succ n ih =>
              rw [takeFms]
              simp only [ih]
              unfold takeFm
              rw [hc 200 _ h0]
              simp only []
              rw [hc 8 _ h0]
              rfl
          have h5 := hend.1
          unfold readF at h5
          rw [hst] at h5
          exact h0 h5
      have hV0 : (readV xs).2.2 = 0 := by
        by_cases h0 : (readV xs).2.2 = 0
        · exact h0
        · exfalso
          have h5 := hN0
          unfold readN at h5
          rw [hc 8 _ h0] at h5
          exact h0 h5
      have r1 := (eCount_inv (most := 65535) hs0 hV0).2
      have m1 := small_eq hs0 r1
      have r2 := (eCount_inv (most := 8) m1 hN0).2
      have m2 := small_eq m1 r2
      have r3 := (takeFms_inv (readN xs).1 m2 hend.1).2
      have hlen : (readF xs).1.length = (readN xs).1 := takeFms_len _ _
      unfold schemaB
      rw [hlen, Int.toNat_natCast]
      have e1 : xs = vb (readV xs).1 ++ (readV xs).2.1 := r1
      have e2 : (readV xs).2.1 = vb (readN xs).1 ++ (readN xs).2.1 := r2
      have e3 : (readN xs).2.1 = formsB (readF xs).1 ++ (readF xs).2.1 := r3
      rw [hend.2, List.append_nil] at e3
      rw [List.append_assoc, ← e3, ← e2]
      exact e1.symm
    · rw [if_neg h2] at h; simp at h
end Go.Proofs.Ytacigmnnekphmaa.schema
/- What Parse answers at bytes that are known; how long a schema's bytes can be. No condition. -/
namespace Go.Proofs.Ytacigmnnekphmaa.schema
open Go.RowKit Go.Proofs.Ytacigmnnekphmaa.pen
set_option linter.unusedVariables false

theorem parse_fix {a : Option Addr} {c : Nat} {xs : List Nat} {w : World} (hr : Reads .u8 w a xs.length xs) (hx : ∀ c ∈ xs, c < 256) (hl : xs.length ≤ 140737488355328) {V : Int} {P : List Form} {E : Nat} (Z : Int) (hz : Z = (E : Int)) (hP : parsed xs = (V, P, E)) :
    Calls Try.prog 23 #[.slice a xs.length c] w fun e w' => ∃ (a : Option Addr) (c : Nat) (F : List Fm), e = .returned (.tuple #[.agg #[.int .i64 V, .slice a F.length c], .int .i64 Z]) ∧ forms F = P ∧ FmL w' a F ∧ Below w.heap.size w w' := by
  have h := parse_any a c xs w hr hx hl
  unfold ParsedAs at h
  rw [hP] at h
  rw [hz]
  exact h
theorem refParse_fix {a : Option Addr} {c : Nat} {xs : List Nat} {w : World} (hr : Reads .u8 w a xs.length xs) (hc : xs.length ≤ c) (hx : ∀ c ∈ xs, c < 256) (hl : xs.length ≤ 140737488355328) {V : Int} {P : List Form} {E : Nat} (Z : Int) (hz : Z = (E : Int)) (hP : parsed xs = (V, P, E)) :
    Calls Try.prog 24 #[.slice a xs.length c] w fun e w' => ∃ (a : Option Addr) (c : Nat) (F : List Fm), e = .returned (.tuple #[.agg #[.int .i64 V, .slice a F.length c], .int .i64 Z]) ∧ forms F = P ∧ FmL w' a F ∧ Below w.heap.size w w' := by
  have h := refParse_any a c xs w hr hc hx hl
  unfold ParsedAs at h
  rw [hP] at h
  rw [hz]
  exact h
theorem parsed_len (xs : List Nat) : (parsed xs).2.1.length ≤ 8 := by
  have hN : (readN xs).1 ≤ 8 := eCount_le 8 (readV xs).2
  have hl : (readF xs).1.length = (readN xs).1 := takeFms_len _ _
  unfold parsed
  split
  · simp
  · split
    · simp only; omega
    · simp
theorem schemaB_lt (v : Int) (F : List Form) : ∀ c ∈ schemaB v F, c < 256 := by
  have hf : ∀ f, ∀ c ∈ fieldB f, c < 256 := by
    intro f c hc
    unfold fieldB at hc
    simp only [List.mem_append] at hc
    rcases hc with (h | h) | h
    · exact vb_lt _ c h
    · exact vb_lt _ c h
    · split at h
      · rcases List.mem_append.1 h with h | h <;> exact vb_lt _ c h
      · split at h
        · exact vb_lt _ c h
        · simp at h
  have hm : ∀ p, ∀ c ∈ formB p, c < 256 := by
    intro p c hc
    unfold formB fieldsB at hc
    simp only [List.mem_append, List.mem_flatten, List.mem_map] at hc
    rcases hc with (h | h) | ⟨l, ⟨f, _, rfl⟩, h⟩
    · exact vb_lt _ c h
    · exact vb_lt _ c h
    · exact hf f c h
  intro c hc
  unfold schemaB formsB at hc
  simp only [List.mem_append, List.mem_flatten, List.mem_map] at hc
  rcases hc with (h | h) | ⟨l, ⟨f, _, rfl⟩, h⟩
  · exact vb_lt _ c h
  · exact vb_lt _ c h
  · exact hm f c h
theorem schemaB_len {v : Int} {F : List Form} (h : Right v F) : (schemaB v F).length ≤ 10000 := by
  have h1 := vb_ten v.toNat (by have := h.1; omega)
  have h2 := vb_ten F.length (by have := h.2.1; omega)
  have h3 := formsB_len h.2.2.1
  have := h.2.1
  unfold schemaB
  simp only [List.length_append]
  omega

end Go.Proofs.Ytacigmnnekphmaa.schema
/- Contracts of layer 13 (schema): Same, with slices.Equal, slices.EqualFunc and its function. No condition. -/
namespace Go.Proofs.Ytacigmnnekphmaa.schema
open Go.RowKit
open Go.Proofs.Ytacigmnnekphmaa.field (Gives newB gives_from)
set_option linter.unusedVariables false

theorem neq_fd (p q : field.Fd) (w : World) : (binOp .neq 50 (.agg #[.int .i64 p.id, .int .i64 p.kind, .int .i64 p.lo, .int .i64 p.hi, .int .i64 p.most]) (.agg #[.int .i64 q.id, .int .i64 q.kind, .int .i64 q.lo, .int .i64 q.hi, .int .i64 q.most])).run Try.prog w = .ok (.bool (!decide (p = q))) w := by
  rw [run_neq_struct, show (10000 : Nat) = 9999 + 1 from rfl, run_equalIn_struct w 9999 50 _ _ (by kernel_rfl) Try.stoodInHeld50]
  go_simp
  obtain ⟨i, k, lo, hi, m⟩ := p
  obtain ⟨i', k', lo', hi', m'⟩ := q
  simp only [field.Fd.mk.injEq]
  by_cases h1 : i = i'
  · by_cases h2 : k = k'
    · by_cases h3 : lo = lo'
      · by_cases h4 : hi = hi'
        · by_cases h5 : m = m' <;> simp [h1, h2, h3, h4, h5]
        · simp [h1, h2, h3, h4]
      · simp [h1, h2, h3]
    · simp [h1, h2]
  · simp [h1]
theorem eq_take_succ {α : Type} {L M : List α} {k : Nat} {p q : α} (hp : L[k]? = some p) (hq : M[k]? = some q) : L.take (k + 1) = M.take (k + 1) ↔ L.take k = M.take k ∧ p = q := by
  rw [take_succ_at hp, take_succ_at hq]
  have h1 := (List.getElem?_eq_some_iff.1 hp).1
  have h2 := (List.getElem?_eq_some_iff.1 hq).1
  constructor
  · intro h
    have := List.append_inj' h rfl
    exact ⟨this.1, by simpa using this.2⟩
  · rintro ⟨h, rfl⟩; rw [h]
theorem equalF_any (a : Option Addr) (ca : Nat) (L : List field.Fd) (b : Option Addr) (cb : Nat) (M : List field.Fd) (w : World) (h : field.Fds w a L) (h' : field.Fds w b M) (hL : L.length ≤ maxLen) (hM : M.length ≤ maxLen) :
    Calls Try.prog 55 #[.slice a L.length ca, .slice b M.length cb] w (Gives (.bool (decide (L = M))) w) := by
  have hml : (L.length : Int) ≤ 9223372036854775807 := by unfold maxLen at hL; omega
  have hmm : (M.length : Int) ≤ 9223372036854775807 := by unfold maxLen at hM; omega
  have HF := hid h
  have HG := hid h'
  obtain ⟨r, hr⟩ : ∃ r : Bool, Hid (decide (L = M) = r) := ⟨_, rfl⟩
  rw [hr.out]
  unfold Gives
  clear h h' hL hM
  by_cases hlen : L.length = M.length
  · have HLEN := hid hlen
    rw [← hlen]
    clear hlen hmm
    go_enter Try.func55, Try.ntmps55
    go_wp2
    go_loopw [13] (fun n wr => ∃ k : Nat, k ≤ L.length ∧ n = .int .i64 (k : Int) ∧ Hid (L.take k = M.take k) ∧ Hid (Below w.heap.size w wr)) (fun n _ => L.length - (intOf n).toNat)
    case atStart => exact ⟨0, Nat.zero_le _, rfl, hid rfl, hid (Below.refl _ _)⟩
    case round =>
      obtain ⟨k, hk, rfl, HEQ, HB⟩ := hrel
      by_cases hlt : k < L.length
      · obtain ⟨g, off, p, rfl, hbl, hp, c0, c1, c2, c3, c4⟩ := field_at HF.out HB.out hlt
        obtain ⟨g', off', q, rfl, hbl', hq, d0, d1, d2, d3, d4⟩ := field_at HG.out HB.out (k := k) (by rw [← HLEN.out]; exact hlt)
        have i1 : (k : Int) < L.length := by omega
        have HS := hid (eq_take_succ hp hq)
        have hne := fun W => neq_fd p q W
        have HNE := hid (fun (hpq : ¬ p = q) => show ¬ L = M from fun e => by rw [e] at hp; exact hpq (Option.some.inj (hp.symm.trans hq)))
        clear hp hq
        by_cases hpq : p = q
        · rw [decide_eq_true hpq] at hne
          have HPQ := hid hpq
          clear hpq
          go_wp2
          go_quiet (fail)
          go_wp2
          exact ⟨⟨k + 1, by omega, by go_num, hid (HS.out.2 ⟨HEQ.out, HPQ.out⟩), hid (below_drewN HB.out _)⟩, by simp [intOf]; omega⟩
        · rw [decide_eq_false hpq] at hne
          obtain rfl : false = r := by rw [← hr.out]; exact (decide_eq_false (HNE.out hpq)).symm
          clear hpq
          go_wp2
          go_quiet (fail)
          go_wp2
          go_ret
          exact ⟨rfl, below_drewN HB.out _⟩
      · obtain rfl : k = L.length := by omega
        obtain rfl : true = r := by
          rw [← hr.out]
          have := HEQ.out
          rw [List.take_of_length_le (Nat.le_refl _), List.take_of_length_le (by rw [HLEN.out]; exact Nat.le_refl _)] at this
          exact (decide_eq_true this).symm
        go_wp2
        go_ret
        exact ⟨rfl, HB.out⟩
  · obtain rfl : false = r := by rw [← hr.out]; exact (decide_eq_false (fun e => hlen (by rw [e]))).symm
    have hd : ((L.length : Int) == (M.length : Int)) = false := by rw [beq_eq_false_iff_ne]; omega
    clear hlen
    go_enter Try.func55, Try.ntmps55
    go_wp2
    go_ret
    exact ⟨rfl, Below.refl _ _⟩
/-- the world in which two forms have been boxed -/
def WM2 (i : Int) (a : Option Addr) (L : List field.Fd) (c : Nat) (j : Int) (b : Option Addr) (M : List field.Fd) (d : Nat) (w : World) : World := (w.alloc (.cells #[.int .i64 i, .slice a L.length c] 29)).alloc (.cells #[.int .i64 j, .slice b M.length d] 29)
theorem WM2.all (i : Int) (a : Option Addr) (L : List field.Fd) (c : Nat) (j : Int) (b : Option Addr) (M : List field.Fd) (d : Nat) (w w' : World) (hb : Below (WM2 i a L c j b M d w).heap.size (WM2 i a L c j b M d w) w') :
    w'.cell? ⟨w.heap.size, 0, none⟩ = some (.int .i64 i) ∧ w'.cell? ⟨w.heap.size, 1, none⟩ = some (.slice a L.length c) ∧ w'.cell? ⟨w.heap.size + 1, 0, none⟩ = some (.int .i64 j) ∧ w'.cell? ⟨w.heap.size + 1, 1, none⟩ = some (.slice b M.length d) ∧ Below w.heap.size w w' := by
  obtain ⟨h1, h2, h3⟩ := boxM i a L c w w' (below_out hb)
  obtain ⟨h4, h5, _⟩ := boxM j b M d (w.alloc (.cells #[.int .i64 i, .slice a L.length c] 29)) w' hb
  exact ⟨h1, h2, by simpa using h4, by simpa using h5, h3⟩
theorem sameForm_any (i : Int) (a : Option Addr) (c : Nat) (L : List field.Fd) (j : Int) (b : Option Addr) (d : Nat) (M : List field.Fd) (w : World) (h : field.Fds w a L) (h' : field.Fds w b M) (hL : L.length ≤ maxLen) (hM : M.length ≤ maxLen) :
    Calls Try.prog 36 #[.agg #[.int .i64 i, .slice a L.length c], .agg #[.int .i64 j, .slice b M.length d]] w (Gives (.bool (decide ((i, L) = (j, M)))) w) := by
  have HX := hid (WM2.all i a L c j b M d w)
  have hw := (WM2.all i a L c j b M d w _ (Below.refl _ _)).2.2.2.2
  have cE := equalF_any a c L b d M (WM2 i a L c j b M d w) (h.below hw) (h'.below hw) hL hM
  have HW := hid hw
  clear h h' hL hM hw
  unfold Gives
  by_cases hij : i = j
  · subst hij
    rw [show decide ((i, L) = (i, M)) = decide (L = M) by simp]
    generalize decide (L = M) = r at *
    unfold WM2 at HX cE HW
    go_enter Try.func36, Try.ntmps36
    go_wp2_with (go_at_call 55; ((with_reducible refine cE.mono ?_); rintro e w2 ⟨rfl, hb2⟩; obtain ⟨z0, z1, z2, z3, hbo⟩ := HX.out _ hb2))
    go_ret
    exact ⟨rfl, hbo⟩
  · have hd : (i == j) = false := by rw [beq_eq_false_iff_ne]; exact hij
    rw [show decide ((i, L) = (j, M)) = false from decide_eq_false (fun e => hij (Prod.mk.inj e).1)]
    clear hij cE
    unfold WM2 at HX HW
    go_enter Try.func36, Try.ntmps36
    go_wp2
    go_ret
    exact ⟨rfl, HW.out⟩
theorem forms_take (F : List Fm) (k : Nat) : (forms F).take k = forms (F.take k) := by unfold forms; rw [List.map_take]
theorem equalFunc_any (a : Option Addr) (ca : Nat) (L : List Fm) (b : Option Addr) (cb : Nat) (M : List Fm) (w : World) (h : FmL w a L) (h' : FmL w b M) (hL : L.length ≤ maxLen) (hM : M.length ≤ maxLen) :
    Calls Try.prog 35 #[.slice a L.length ca, .slice b M.length cb, .func (.func 36) #[] #[]] w (Gives (.bool (decide (forms L = forms M))) w) := by
  have hml : (L.length : Int) ≤ 9223372036854775807 := by unfold maxLen at hL; omega
  have hmm : (M.length : Int) ≤ 9223372036854775807 := by unfold maxLen at hM; omega
  have HF := hid h
  have HG := hid h'
  obtain ⟨r, hr⟩ : ∃ r : Bool, Hid (decide (forms L = forms M) = r) := ⟨_, rfl⟩
  rw [hr.out]
  unfold Gives
  clear h h' hL hM
  by_cases hlen : L.length = M.length
  · have HLEN := hid hlen
    rw [← hlen]
    clear hlen hmm
    go_enter Try.func35, Try.ntmps35
    go_wp2
    go_loopw [17] (fun n wr => ∃ k : Nat, k ≤ L.length ∧ n = .int .i64 (k : Int) ∧ Hid ((forms L).take k = (forms M).take k) ∧ Hid (Below w.heap.size w wr)) (fun n _ => L.length - (intOf n).toNat)
    case atStart => exact ⟨0, Nat.zero_le _, rfl, hid rfl, hid (Below.refl _ _)⟩
    case round =>
      obtain ⟨k, hk, rfl, HEQ, HB⟩ := hrel
      by_cases hlt : k < L.length
      · obtain ⟨g, off, p, rfl, hbl, hp, c0, c1, hfp, hlp⟩ := form_at HF.out HB.out hlt
        obtain ⟨g', off', q, rfl, hbl', hq, d0, d1, hfq, hlq⟩ := form_at HG.out HB.out (k := k) (by rw [← HLEN.out]; exact hlt)
        have i1 : (k : Int) < L.length := by omega
        have HS := hid (eq_take_succ (forms_at hp) (forms_at hq))
        have HNE := hid (fun (hpq : ¬ p.p = q.p) => show ¬ forms L = forms M from fun e => by have h1 := forms_at hp; rw [e] at h1; exact hpq (Option.some.inj (h1.symm.trans (forms_at hq))))
        obtain ⟨i, x, xc, P⟩ := p
        obtain ⟨j, y, yc, R⟩ := q
        simp only [Fm.p] at HS HNE c0 c1 d0 d1 hfp hfq hlp hlq
        have hb2 := (newB wr (.cells #[.int .i64 i, .slice x P.length xc] 29)).trans ((newB ((wr.alloc (.cells #[.int .i64 i, .slice x P.length xc] 29))) (.cells #[.int .i64 j, .slice y R.length yc] 29)).mono (by simp))
        have cS := sameForm_any i x xc P j y yc R (WM2 i x P xc j y R yc wr) (hfp.below hb2) (hfq.below hb2) hlp hlq
        have HX := hid (WM2.all i x P xc j y R yc wr)
        unfold WM2 at cS HX
        clear hp hq hfp hfq hlp hlq hb2
        by_cases hpq : (i, P) = (j, R)
        · rw [decide_eq_true hpq] at cS
          have HPQ := hid hpq
          clear hpq
          go_wp2_with (go_at_call 36; ((with_reducible refine cS.mono ?_); rintro e w2 ⟨rfl, hb2⟩; obtain ⟨z0, z1, z2, z3, hbo⟩ := HX.out _ hb2))
          exact ⟨⟨k + 1, by omega, by go_num, hid (HS.out.2 ⟨HEQ.out, HPQ.out⟩), hid (HB.out.trans (hbo.mono HB.out.size))⟩, by simp [intOf]; omega⟩
        · rw [decide_eq_false hpq] at cS
          obtain rfl : false = r := by rw [← hr.out]; exact (decide_eq_false (HNE.out hpq)).symm
          clear hpq
          go_wp2_with (go_at_call 36; ((with_reducible refine cS.mono ?_); rintro e w2 ⟨rfl, hb2⟩; obtain ⟨z0, z1, z2, z3, hbo⟩ := HX.out _ hb2))
          go_ret
          exact ⟨rfl, HB.out.trans (hbo.mono HB.out.size)⟩
      · obtain rfl : k = L.length := by omega
        obtain rfl : true = r := by
          rw [← hr.out]
          have := HEQ.out
          rw [List.take_of_length_le (by rw [forms_length]; exact Nat.le_refl _), List.take_of_length_le (by rw [forms_length, HLEN.out]; exact Nat.le_refl _)] at this
          exact (decide_eq_true this).symm
        go_wp2
        go_ret
        exact ⟨rfl, HB.out⟩
  · obtain rfl : false = r := by rw [← hr.out]; exact (decide_eq_false (fun e => hlen (by rw [← forms_length, e, forms_length]))).symm
    have hd : ((L.length : Int) == (M.length : Int)) = false := by rw [beq_eq_false_iff_ne]; omega
    clear hlen
    go_enter Try.func35, Try.ntmps35
    go_wp2
    go_ret
    exact ⟨rfl, Below.refl _ _⟩
/-- the world in which two schemas have been boxed -/
def WS2 (i : Int) (a : Option Addr) (L : List Fm) (c : Nat) (j : Int) (b : Option Addr) (M : List Fm) (d : Nat) (w : World) : World := (w.alloc (.cells #[.int .i64 i, .slice a L.length c] 24)).alloc (.cells #[.int .i64 j, .slice b M.length d] 24)
theorem WS2.all (i : Int) (a : Option Addr) (L : List Fm) (c : Nat) (j : Int) (b : Option Addr) (M : List Fm) (d : Nat) (w w' : World) (hb : Below (WS2 i a L c j b M d w).heap.size (WS2 i a L c j b M d w) w') :
    w'.cell? ⟨w.heap.size, 0, none⟩ = some (.int .i64 i) ∧ w'.cell? ⟨w.heap.size, 1, none⟩ = some (.slice a L.length c) ∧ w'.cell? ⟨w.heap.size + 1, 0, none⟩ = some (.int .i64 j) ∧ w'.cell? ⟨w.heap.size + 1, 1, none⟩ = some (.slice b M.length d) ∧ Below w.heap.size w w' := by
  obtain ⟨h1, h2, h3⟩ := boxS i a L c w w' (below_out hb)
  obtain ⟨h4, h5, _⟩ := boxS j b M d (w.alloc (.cells #[.int .i64 i, .slice a L.length c] 24)) w' hb
  exact ⟨h1, h2, by simpa using h4, by simpa using h5, h3⟩
theorem same_any (i : Int) (a : Option Addr) (c : Nat) (L : List Fm) (j : Int) (b : Option Addr) (d : Nat) (M : List Fm) (w : World) (h : FmL w a L) (h' : FmL w b M) (hL : L.length ≤ maxLen) (hM : M.length ≤ maxLen) :
    Calls Try.prog 19 #[.agg #[.int .i64 i, .slice a L.length c], .agg #[.int .i64 j, .slice b M.length d]] w (Gives (.bool (decide (i = j ∧ forms L = forms M))) w) := by
  have HX := hid (WS2.all i a L c j b M d w)
  have hw := (WS2.all i a L c j b M d w _ (Below.refl _ _)).2.2.2.2
  have cE := equalFunc_any a c L b d M (WS2 i a L c j b M d w) (h.below hw) (h'.below hw) hL hM
  have HW := hid hw
  clear h h' hL hM hw
  unfold Gives
  by_cases hij : i = j
  · subst hij
    rw [show decide (i = i ∧ forms L = forms M) = decide (forms L = forms M) by simp]
    generalize decide (forms L = forms M) = r at *
    unfold WS2 at HX cE HW
    go_enter Try.func19, Try.ntmps19
    go_wp2_with (go_at_call 35; ((with_reducible refine cE.mono ?_); rintro e w2 ⟨rfl, hb2⟩; obtain ⟨z0, z1, z2, z3, hbo⟩ := HX.out _ hb2))
    go_ret
    exact ⟨rfl, hbo⟩
  · have hd : (i == j) = false := by rw [beq_eq_false_iff_ne]; exact hij
    rw [show decide (i = j ∧ forms L = forms M) = false from decide_eq_false (fun e => hij e.1)]
    clear hij cE
    unfold WS2 at HX HW
    go_enter Try.func19, Try.ntmps19
    go_wp2
    go_ret
    exact ⟨rfl, HW.out⟩
end Go.Proofs.Ytacigmnnekphmaa.schema
/- Contracts of the reference of layer 13 (schema): SameForm, Same. No condition. -/
namespace Go.Proofs.Ytacigmnnekphmaa.schema
open Go.RowKit
open Go.Proofs.Ytacigmnnekphmaa.field (Gives newB gives_from)
set_option linter.unusedVariables false

theorem refSameForm_any (i : Int) (a : Option Addr) (c : Nat) (L : List field.Fd) (j : Int) (b : Option Addr) (d : Nat) (M : List field.Fd) (w : World) (h : field.Fds w a L) (h' : field.Fds w b M) (hL : L.length ≤ maxLen) (hM : M.length ≤ maxLen) :
    Calls Try.prog 10 #[.agg #[.int .i64 i, .slice a L.length c], .agg #[.int .i64 j, .slice b M.length d]] w (Gives (.bool (decide ((i, L) = (j, M)))) w) := by
  have hml : (L.length : Int) ≤ 9223372036854775807 := by unfold maxLen at hL; omega
  have hmm : (M.length : Int) ≤ 9223372036854775807 := by unfold maxLen at hM; omega
  have HX := hid (WM2.all i a L c j b M d w)
  have hw := (WM2.all i a L c j b M d w _ (Below.refl _ _)).2.2.2.2
  have HF := hid (h.below hw)
  have HG := hid (h'.below hw)
  have HW := hid hw
  obtain ⟨r, hr⟩ : ∃ r : Bool, Hid (decide ((i, L) = (j, M)) = r) := ⟨_, rfl⟩
  rw [hr.out]
  unfold Gives
  clear h h' hL hM hw
  unfold WM2 at HX HF HG HW
  by_cases hij : i = j
  · subst hij
    by_cases hlen : L.length = M.length
    · have HLEN := hid hlen
      rw [← hlen] at HX HF HG HW ⊢
      clear hlen hmm
      go_enter Try.func10, Try.ntmps10
      go_wp2
      generalize ((w.alloc (.cells #[.int .i64 i, .slice a L.length c] 29))).alloc (.cells #[.int .i64 i, .slice b L.length d] 29) = W0 at *
      go_loopw [5] (fun n wr => ∃ k : Nat, k ≤ L.length ∧ n = .int .i64 (k : Int) ∧ Hid (L.take k = M.take k) ∧ Hid (Below W0.heap.size W0 wr)) (fun n _ => L.length - (intOf n).toNat)
      case atStart => exact ⟨0, Nat.zero_le _, rfl, hid rfl, hid (Below.refl _ _)⟩
      case round =>
        obtain ⟨k, hk, rfl, HEQ, HB⟩ := hrel
        obtain ⟨z0, z1, z2, z3, hbo⟩ := HX.out _ HB.out
        by_cases hlt : k < L.length
        · obtain ⟨g, off, p, rfl, hbl, hp, c0, c1, c2, c3, c4⟩ := field_at HF.out HB.out hlt
          obtain ⟨g', off', q, rfl, hbl', hq, d0, d1, d2, d3, d4⟩ := field_at HG.out HB.out (k := k) (by rw [← HLEN.out]; exact hlt)
          have i1 : (k : Int) < L.length := by omega
          have HS := hid (eq_take_succ hp hq)
          have hne := fun W => neq_fd p q W
          have HNE := hid (fun (hpq : ¬ p = q) => show ¬ L = M from fun e => by rw [e] at hp; exact hpq (Option.some.inj (hp.symm.trans hq)))
          clear hp hq
          by_cases hpq : p = q
          · rw [decide_eq_true hpq] at hne
            have HPQ := hid hpq
            clear hpq
            go_wp2
            go_quiet (fail)
            go_wp2
            exact ⟨⟨k + 1, by omega, by go_num, hid (HS.out.2 ⟨HEQ.out, HPQ.out⟩), hid (below_drewN HB.out _)⟩, by simp [intOf]; omega⟩
          · rw [decide_eq_false hpq] at hne
            obtain rfl : false = r := by rw [← hr.out]; exact (decide_eq_false (fun e => HNE.out hpq (Prod.mk.inj e).2)).symm
            clear hpq
            go_wp2
            go_quiet (fail)
            go_wp2
            go_ret
            exact ⟨rfl, below_drewN hbo _⟩
        · obtain rfl : k = L.length := by omega
          obtain rfl : true = r := by
            rw [← hr.out]
            have := HEQ.out
            rw [List.take_of_length_le (Nat.le_refl _), List.take_of_length_le (by rw [HLEN.out]; exact Nat.le_refl _)] at this
            exact (decide_eq_true (by rw [this])).symm
          go_wp2
          go_ret
          exact ⟨rfl, hbo⟩
    · obtain rfl : false = r := by rw [← hr.out]; exact (decide_eq_false (fun e => hlen (by rw [(Prod.mk.inj e).2]))).symm
      have hd : ((L.length : Int) == (M.length : Int)) = false := by rw [beq_eq_false_iff_ne]; omega
      clear hlen
      go_enter Try.func10, Try.ntmps10
      go_wp2
      go_ret
      exact ⟨rfl, HW.out⟩
  · obtain rfl : false = r := by rw [← hr.out]; exact (decide_eq_false (fun e => hij (Prod.mk.inj e).1)).symm
    have hd : (i == j) = false := by rw [beq_eq_false_iff_ne]; exact hij
    clear hij
    go_enter Try.func10, Try.ntmps10
    go_wp2
    go_ret
    exact ⟨rfl, HW.out⟩
theorem refSame_any (i : Int) (a : Option Addr) (c : Nat) (L : List Fm) (j : Int) (b : Option Addr) (d : Nat) (M : List Fm) (w : World) (h : FmL w a L) (h' : FmL w b M) (hL : L.length ≤ maxLen) (hM : M.length ≤ maxLen) :
    Calls Try.prog 20 #[.agg #[.int .i64 i, .slice a L.length c], .agg #[.int .i64 j, .slice b M.length d]] w (Gives (.bool (decide (i = j ∧ forms L = forms M))) w) := by
  have hml : (L.length : Int) ≤ 9223372036854775807 := by unfold maxLen at hL; omega
  have hmm : (M.length : Int) ≤ 9223372036854775807 := by unfold maxLen at hM; omega
  have HX := hid (WS2.all i a L c j b M d w)
  have hw := (WS2.all i a L c j b M d w _ (Below.refl _ _)).2.2.2.2
  have HF := hid (h.below hw)
  have HG := hid (h'.below hw)
  have HW := hid hw
  obtain ⟨r, hr⟩ : ∃ r : Bool, Hid (decide (i = j ∧ forms L = forms M) = r) := ⟨_, rfl⟩
  rw [hr.out]
  unfold Gives
  clear h h' hL hM hw
  unfold WS2 at HX HF HG HW
  by_cases hij : i = j
  · subst hij
    by_cases hlen : L.length = M.length
    · have HLEN := hid hlen
      rw [← hlen] at HX HF HG HW ⊢
      clear hlen hmm
      go_enter Try.func20, Try.ntmps20
      go_wp2
      generalize ((w.alloc (.cells #[.int .i64 i, .slice a L.length c] 24))).alloc (.cells #[.int .i64 i, .slice b L.length d] 24) = W0 at *
      go_loopw [5] (fun n wr => ∃ k : Nat, k ≤ L.length ∧ n = .int .i64 (k : Int) ∧ Hid ((forms L).take k = (forms M).take k) ∧ Hid (Below W0.heap.size W0 wr)) (fun n _ => L.length - (intOf n).toNat)
      case atStart => exact ⟨0, Nat.zero_le _, rfl, hid rfl, hid (Below.refl _ _)⟩
      case round =>
        obtain ⟨k, hk, rfl, HEQ, HB⟩ := hrel
        by_cases hlt : k < L.length
        · obtain ⟨g, off, p, rfl, hbl, hp, c0, c1, hfp, hlp⟩ := form_at HF.out (below_drew HB.out) hlt
          obtain ⟨g', off', q, rfl, hbl', hq, d0, d1, hfq, hlq⟩ := form_at HG.out (below_drew HB.out) (k := k) (by rw [← HLEN.out]; exact hlt)
          obtain ⟨z0, z1, z2, z3, hbo⟩ := HX.out _ (below_drew HB.out)
          obtain ⟨y0, y1, y2, y3, _⟩ := HX.out _ HB.out
          have i1 : (k : Int) < L.length := by omega
          have HS := hid (eq_take_succ (forms_at hp) (forms_at hq))
          have HNE := hid (fun (hpq : ¬ p.p = q.p) => show ¬ forms L = forms M from fun e => by have h1 := forms_at hp; rw [e] at h1; exact hpq (Option.some.inj (h1.symm.trans (forms_at hq))))
          obtain ⟨i', x, xc, P⟩ := p
          obtain ⟨j', y, yc, R⟩ := q
          simp only [Fm.p] at HS HNE c0 c1 d0 d1 hfp hfq hlp hlq
          have cS := refSameForm_any i' x xc P j' y yc R wr.drew hfp hfq hlp hlq
          have HD := hid (fun w' (hb : Below wr.drew.heap.size wr.drew w') => (⟨(hb.cell (p := ⟨g, off + k * 2, none⟩) hbl).trans c0, (hb.cell (p := ⟨g, off + k * 2 + 1, none⟩) hbl).trans c1, (hb.cell (p := ⟨g', off' + k * 2, none⟩) hbl').trans d0, (hb.cell (p := ⟨g', off' + k * 2 + 1, none⟩) hbl').trans d1⟩ : w'.cell? ⟨g, off + k * 2, none⟩ = some (.int .i64 i') ∧ w'.cell? ⟨g, off + k * 2 + 1, none⟩ = some (.slice x P.length xc) ∧ w'.cell? ⟨g', off' + k * 2, none⟩ = some (.int .i64 j') ∧ w'.cell? ⟨g', off' + k * 2 + 1, none⟩ = some (.slice y R.length yc)))
          clear hp hq hfp hfq hlp hlq
          by_cases hpq : (i', P) = (j', R)
          · rw [decide_eq_true hpq] at cS
            have HPQ := hid hpq
            clear hpq
            go_wp2
            go_region_held3 (fun w' => w'.cell? ⟨w.heap.size, 1, none⟩ = some (.slice (some ⟨g, off, none⟩) L.length c) ∧ w'.cell? ⟨w.heap.size + 1, 1, none⟩ = some (.slice (some ⟨g', off', none⟩) L.length d) ∧ w'.cell? ⟨g, off + k * 2, none⟩ = some (.int .i64 i') ∧ w'.cell? ⟨g, off + k * 2 + 1, none⟩ = some (.slice x P.length xc) ∧ w'.cell? ⟨g', off' + k * 2, none⟩ = some (.int .i64 j') ∧ w'.cell? ⟨g', off' + k * 2 + 1, none⟩ = some (.slice y R.length yc)) (first | assumption | go_keep) (first
              | (go_at_call 10; (with_reducible refine cS.mono ?_); rintro e w3 ⟨rfl, hb3⟩; obtain ⟨e0, e1, e2, e3⟩ := HD.out w3 hb3; have hbw := (below_drew HB.out).trans (hb3.mono (below_drew HB.out).size); obtain ⟨y0, y1, y2, y3, hbo2⟩ := HX.out w3 hbw))
            go_wp2
            exact ⟨⟨k + 1, by omega, by go_num, hid (HS.out.2 ⟨HEQ.out, HPQ.out⟩), hid hbw⟩, by simp [intOf]; omega⟩
          · rw [decide_eq_false hpq] at cS
            obtain rfl : false = r := by rw [← hr.out]; exact (decide_eq_false (fun e => HNE.out hpq e.2)).symm
            clear hpq
            go_wp2
            go_region_held3 (fun w' => w'.cell? ⟨w.heap.size, 1, none⟩ = some (.slice (some ⟨g, off, none⟩) L.length c) ∧ w'.cell? ⟨w.heap.size + 1, 1, none⟩ = some (.slice (some ⟨g', off', none⟩) L.length d) ∧ w'.cell? ⟨g, off + k * 2, none⟩ = some (.int .i64 i') ∧ w'.cell? ⟨g, off + k * 2 + 1, none⟩ = some (.slice x P.length xc) ∧ w'.cell? ⟨g', off' + k * 2, none⟩ = some (.int .i64 j') ∧ w'.cell? ⟨g', off' + k * 2 + 1, none⟩ = some (.slice y R.length yc)) (first | assumption | go_keep) (first
              | (go_at_call 10; (with_reducible refine cS.mono ?_); rintro e w3 ⟨rfl, hb3⟩; obtain ⟨e0, e1, e2, e3⟩ := HD.out w3 hb3; have hbw := (below_drew HB.out).trans (hb3.mono (below_drew HB.out).size); obtain ⟨y0, y1, y2, y3, hbo2⟩ := HX.out w3 hbw))
            go_wp2
            go_ret
            exact ⟨rfl, hbo2⟩
        · obtain rfl : k = L.length := by omega
          obtain ⟨z0, z1, z2, z3, hbo⟩ := HX.out _ HB.out
          obtain rfl : true = r := by
            rw [← hr.out]
            have := HEQ.out
            rw [List.take_of_length_le (by rw [forms_length]; exact Nat.le_refl _), List.take_of_length_le (by rw [forms_length, HLEN.out]; exact Nat.le_refl _)] at this
            exact (decide_eq_true (by first | exact ⟨rfl, this⟩ | exact ⟨trivial, this⟩)).symm
          go_wp2
          go_ret
          exact ⟨rfl, hbo⟩
    · obtain rfl : false = r := by rw [← hr.out]; exact (decide_eq_false (fun e => hlen (by rw [← forms_length, e.2, forms_length]))).symm
      have hd : ((L.length : Int) == (M.length : Int)) = false := by rw [beq_eq_false_iff_ne]; omega
      clear hlen
      go_enter Try.func20, Try.ntmps20
      go_wp2
      go_ret
      exact ⟨rfl, HW.out⟩
  · obtain rfl : false = r := by rw [← hr.out]; exact (decide_eq_false (fun e => hij e.1)).symm
    have hd : (i == j) = false := by rw [beq_eq_false_iff_ne]; exact hij
    clear hij
    go_enter Try.func20, Try.ntmps20
    go_wp2
    go_ret
    exact ⟨rfl, HW.out⟩
end Go.Proofs.Ytacigmnnekphmaa.schema
