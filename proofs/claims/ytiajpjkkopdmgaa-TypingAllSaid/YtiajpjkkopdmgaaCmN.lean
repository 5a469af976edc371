/- Contracts and lemmas that the claims of this seat share: TypingRef, TypingOnMath, Str, StepMem, StepTable. Each says its own conditions. -/
import Derived.Test.YtiajpjkkopdmgaaCmF
import Derived.Test.YtiajpjkkopdmgaaCmL
import Derived.Test.YtiajpjkkopdmgaaCmM
import Derived.Test.YtiajpjkkopdmgaaCmA
import Derived.Laws.BytesArg
import Derived.Laws.Concat
import Derived.Test.YtiajpjkkopdmgaaCmE

namespace Go.Proofs.Ytiajpjkkopdmgaa.typing
open Go.RowKit Go.Proofs.Ytiajpjkkopdmgaa.schema Go.Proofs.Ytiajpjkkopdmgaa.field Go.Proofs.Ytiajpjkkopdmgaa.step
set_option linter.unusedVariables false

theorem cut_take {L : List field.Fd} {k : Nat} (h : k ≤ L.length) : (cutL L k).take k = L.take k := by
  unfold cutL
  rw [List.take_append_of_le_length (by simp; omega), List.take_take, Nat.min_self]
theorem cut_drop {L : List field.Fd} {k : Nat} (h : k ≤ L.length) : (cutL L k).drop k = L.drop (k + 1) := by
  unfold cutL
  have h2 := List.drop_left (l₁ := L.take k) (l₂ := L.drop (k + 1))
  rwa [List.length_take, Nat.min_eq_left h] at h2
theorem puts_cut {L : List field.Fd} {k : Nat} (h : k < L.length) (m : List field.Fd) (hm : m.length ≤ 2) : puts (cutL L k) k m = L.take k ++ (m ++ L.drop (k + 1)) := by
  match m, hm with
  | [], _ => rfl
  | [a], _ =>
    unfold puts puts putL
    rw [cut_take (by omega), cut_drop (by omega)]
  | [a, b], _ =>
    unfold puts puts puts putL
    rw [cut_take (by omega), cut_drop (by omega)]
    have hl : (L.take k).length = k := by simp; omega
    have e1 : (L.take k ++ ([a] ++ L.drop (k + 1))).take (k + 1) = L.take k ++ [a] := by
      rw [← List.append_assoc]
      exact List.take_left' (by simp [hl])
    have e2 : (L.take k ++ ([a] ++ L.drop (k + 1))).drop (k + 1) = L.drop (k + 1) := by
      rw [← List.append_assoc]
      exact List.drop_left' (by simp [hl])
    rw [e1, e2]
    simp
theorem old_right {v : Int} {F : List schema.Form} {x y : Int} {p : schema.Form} (hr : Right v F) (hp : named F x = some p) (hk : 0 ≤ firstAt (ids p.2) y) :
    (firstAt (ids p.2) y).toNat < p.2.length ∧ (oldAt p.2 (firstAt (ids p.2) y)).Right := by
  have h1 := (firstAt_lt hk).1
  rw [ids_length] at h1
  refine ⟨h1, ?_⟩
  unfold oldAt
  rw [if_pos hk, List.getD_eq_getElem?_getD, List.getElem?_eq_getElem h1]
  exact (hr.2.2.1 p (named_some hp).1).2.2.1.1 _ (List.getElem_mem _)
theorem low_high (c : Ch) : low c ≤ high c := by
  unfold low high
  split <;> split <;> omega
theorem mn_comm (a b : Int) : mn a b = mn b a := by
  unfold mn
  split <;> split <;> omega
theorem low_of (c d : Ch) (h1 : c.s = d.s) (h2 : c.old = d.old) : low c = low d ∧ high c = high d := by
  unfold low high scA scB
  rw [h1, h2]
  exact ⟨rfl, rfl⟩
/-- the fields that the reference makes, and the error -/
def fieldsR (F : List schema.Form) (s : Sp) : List field.Fd × Nat :=
  if s.op = 9 then (s.l, 0) else match named F s.fm with
    | none => ([], 8)
    | some p =>
      if s.op = 1 then (putL p.2 s.pl.toNat s.f, 0) else if s.op = 10 then ([], 0)
      else if (types (oldAt p.2 (firstAt (ids p.2) s.fd)) s).2 = false then ([], 17)
      else if puts (cutL p.2 (firstAt (ids p.2) s.fd).toNat) (if s.op = 7 then s.pl.toNat else (firstAt (ids p.2) s.fd).toNat) (types (oldAt p.2 (firstAt (ids p.2) s.fd)) s).1 = [] then ([], 7)
      else (puts (cutL p.2 (firstAt (ids p.2) s.fd).toNat) (if s.op = 7 then s.pl.toNat else (firstAt (ids p.2) s.fd).toNat) (types (oldAt p.2 (firstAt (ids p.2) s.fd)) s).1, 0)
def refOn (v : Int) (F : List schema.Form) (s : Sp) : Int × List schema.Form × Nat :=
  if Fit v F s then (if names F s = 0 then (if (fieldsR F s).2 = 0 then (if Right v (formsR F s.fm (fieldsR F s).1) then (v, formsR F s.fm (fieldsR F s).1, 0) else (0, [], 7)) else (0, [], (fieldsR F s).2)) else (0, [], names F s)) else (0, [], 2)
/-- for a field, types and place are the same -/
theorem types_eq (f : field.Fd) (hf : f.Right) (s : Sp) (c : Ch) (hs : c.s = s) (ho : c.old = f) (hop : s.op ≠ 1 ∧ s.op ≠ 9 ∧ s.op ≠ 10) (hop2 : 1 ≤ s.op ∧ s.op ≤ 10) :
    (types f s).2 = suits c ∧ (suits c = true → (types f s).1 = heirs c) ∧ (types f s).1.length ≤ 2 := by
  obtain ⟨e1, e2⟩ := low_of c ⟨s, 0, [], false, 0, f⟩ hs ho
  subst ho
  subst hs
  have hlh := low_high c
  unfold types suits heirs
  rw [← e1, ← e2]
  unfold field.Fd.Right at hf
  have hc : c.s.op = 2 ∨ c.s.op = 3 ∨ c.s.op = 4 ∨ c.s.op = 5 ∨ c.s.op = 6 ∨ c.s.op = 7 ∨ c.s.op = 8 := by omega
  rcases hc with h | h | h | h | h | h | h
  · simp [h]
  · simp [h]
  · simp only [h]
    refine ⟨?_, ?_, by simp⟩
    · simp only [field.Fd.Right]
      simp [hf.1.1, hf.1.2, hlh]
    · simp
      intro hk h1 h2
      obtain ⟨⟨i1, i2⟩, hf⟩ := hf
      cases hc2 : c.old with
      | mk id kind lo hi most =>
        simp only [hc2] at hk hf ⊢
        obtain rfl : kind = 1 := hk
        obtain rfl : most = 0 := by omega
        simp
  · simp only [h]
    refine ⟨by simp, ?_, by simp⟩
    simp
    intro hk h1
    cases hc2 : c.old with
    | mk id kind lo hi most =>
      simp only [hc2] at hk hf ⊢
      obtain rfl : kind = 3 := hk
      obtain rfl : lo = 0 := by omega
      obtain rfl : hi = 0 := by omega
      simp
  · simp only [h]
    refine ⟨by simp, ?_, by simp⟩
    simp
    intro hk h1
    refine ⟨?_, mn_comm _ _⟩
    cases hc2 : c.old with
    | mk id kind lo hi most =>
      simp only [hc2] at hk h1 hf ⊢
      obtain rfl : kind = 1 := hk
      obtain rfl : lo = 0 := h1
      obtain rfl : most = 0 := by omega
      simp
  · simp [h]
  · simp [h]
theorem not_right_nil {v : Int} {F : List schema.Form} {k : Nat} {x : Int} (h : k < F.length) : ¬ Right v (F.set k (x, [])) := by
  intro hr
  have := (hr.2.2.1 (x, []) (by rw [List.mem_iff_getElem?]; exact ⟨k, by simp [h]⟩)).2.1.1
  simp at this
theorem fit_op {v : Int} {F : List schema.Form} {s : Sp} (h : Fit v F s) : 1 ≤ s.op ∧ s.op ≤ 10 := ⟨(mem_span h.2.1.2.1).1, h.2.2⟩
theorem fit_fine {v : Int} {F : List schema.Form} {s : Sp} (h : Fit v F s) {m : Nat} (hm : m ∈ step.mem s.op) : s.Fine m := h.2.1.1 m hm
theorem refOn_eq (v : Int) (F : List schema.Form) (s : Sp) : refOn v F s = on v F s := by
  unfold refOn on
  by_cases hf : Fit v F s
  · rw [if_pos hf, if_pos hf]
    have hop := fit_op hf
    have hso := right_sorted hf.1
    by_cases h9 : s.op = 9
    · have hl : s.l ≠ [] := by
        have := fit_fine hf (m := 11) (by rw [h9]; decide)
        unfold step.Sp.Fine at this
        simp at this
        intro e
        have := this.2.1.1
        rw [e] at this
        simp at this
      cases hn : named F s.fm with
      | none =>
        have e1 : names F s = 0 := by unfold names; rw [if_pos h9, hn]; rfl
        have e2 : fieldsR F s = (s.l, 0) := by unfold fieldsR; rw [if_pos h9]
        have e3 : err (begin_ F s) = 0 := by unfold begin_ err found twice beyond suits; rw [hn]; simp [h9]
        have e4 : applied F (begin_ F s) = formsR F s.fm s.l := by
          have : (begin_ F s).s = s := by unfold begin_; rw [hn]
          unfold applied formsR
          rw [this, if_pos h9, decide_eq_false hl, go_put hso (named_none hn)]
        rw [e1, e2, e3, e4]
        simp
      | some p =>
        have e1 : names F s = 9 := by unfold names; rw [if_pos h9, hn]; rfl
        have e3 : err (begin_ F s) = 9 := by unfold begin_ err found twice beyond suits; rw [hn]; simp [h9]
        rw [e1, e3]
        simp
    · cases hn : named F s.fm with
      | none =>
        have e1 : names F s = 8 := by unfold names; rw [if_neg h9, hn]
        have e3 : err (begin_ F s) = 8 := by
          unfold begin_ err found; rw [hn]
          simp [h9]
        rw [e1, e3]
        simp
      | some p =>
        obtain ⟨hp1, hp2⟩ := named_some hn
        have hB : begin_ F s = ⟨s, s.fm, p.2, true, firstAt (ids p.2) s.fd, oldAt p.2 (firstAt (ids p.2) s.fd)⟩ := by unfold begin_; rw [hn]
        rw [hB]
        have hN : names F s = if nf s.op = true ∧ firstAt (ids p.2) s.fd < 0 then 8 else if (s.op = 1 ∧ 0 ≤ firstAt (ids p.2) s.f.id) ∨ ((s.op = 6 ∨ s.op = 8) ∧ 0 ≤ firstAt (ids p.2) s.tt) then 9
            else if (s.op = 1 ∧ (p.2.length : Int) < s.pl) ∨ (s.op = 7 ∧ (p.2.length : Int) ≤ s.pl) then 3 else 0 := by unfold names; rw [if_neg h9, hn]
        have hpl : pos F s.fm < F.length := by
          have := pos_at hso hp1
          rw [hp2] at this
          exact (List.getElem?_eq_some_iff.1 this).1
        have hset : ∀ l, setF F (pos F s.fm) l = F.set (pos F s.fm) (s.fm, l) := fun l => setF_at hso hn l
        have hgo : ∀ l, l ≠ [] → formsR F s.fm l = F.set (pos F s.fm) (s.fm, l) := fun l hl => by
          unfold formsR
          rw [decide_eq_false hl, ← hp2]
          exact go_set hso hp1 l
        by_cases h10 : s.op = 10
        · have e1 : names F s = 0 := by rw [hN]; simp [h10, nf]
          have e2 : fieldsR F s = ([], 0) := by unfold fieldsR; rw [if_neg h9, hn]; simp [h10]
          have e3 : err ⟨s, s.fm, p.2, true, firstAt (ids p.2) s.fd, oldAt p.2 (firstAt (ids p.2) s.fd)⟩ = 0 := by unfold err found twice beyond suits; simp [h10]
          have e4 : applied F ⟨s, s.fm, p.2, true, firstAt (ids p.2) s.fd, oldAt p.2 (firstAt (ids p.2) s.fd)⟩ = formsR F s.fm [] := by
            unfold applied formsR
            simp only [h10]
            have := go_cut hso hp1 []
            rw [hp2] at this
            simp [this]
          rw [e1, e2, e3, e4]
          simp
        · by_cases h1 : s.op = 1
          · have e3 : err ⟨s, s.fm, p.2, true, firstAt (ids p.2) s.fd, oldAt p.2 (firstAt (ids p.2) s.fd)⟩ = names F s := by
              rw [hN]; unfold err found twice beyond suits nf; simp [h1]
            have e2 : fieldsR F s = (putL p.2 s.pl.toNat s.f, 0) := by unfold fieldsR; rw [if_neg h9, hn]; simp [h1]
            have e4 : applied F ⟨s, s.fm, p.2, true, firstAt (ids p.2) s.fd, oldAt p.2 (firstAt (ids p.2) s.fd)⟩ = formsR F s.fm (putL p.2 s.pl.toNat s.f) := by
              rw [hgo _ (by unfold putL; simp), ← hset]
              unfold applied fields
              simp [h1]
            rw [e2, e3, e4]
            simp
          · by_cases hk : firstAt (ids p.2) s.fd < 0
            · have e1 : names F s = 8 := by rw [hN, if_pos ⟨by unfold nf; simp [h1, h9, h10], hk⟩]
              have e3 : err ⟨s, s.fm, p.2, true, firstAt (ids p.2) s.fd, oldAt p.2 (firstAt (ids p.2) s.fd)⟩ = 8 := by
                unfold err found
                simp only [h1, h9, h10]
                have : ¬ 0 ≤ firstAt (ids p.2) s.fd := by omega
                simp [this]
              rw [e1, e3]
              simp
            · have hk0 : 0 ≤ firstAt (ids p.2) s.fd := by omega
              obtain ⟨hk2, hor⟩ := old_right hf.1 hn hk0
              obtain ⟨C, hC⟩ : ∃ C : Ch, C = ⟨s, s.fm, p.2, true, firstAt (ids p.2) s.fd, oldAt p.2 (firstAt (ids p.2) s.fd)⟩ := ⟨_, rfl⟩
              obtain ⟨t1, t2, t3⟩ := types_eq _ hor s C (by rw [hC]) (by rw [hC]) ⟨h1, h9, h10⟩ hop
              have hfd : found C = true := by unfold found; rw [hC]; simp [h1, h9, h10, hk0]
              rw [← hC]
              have hCs : C.s = s := by rw [hC]
              have hCL : C.L = p.2 := by rw [hC]
              have hCa : C.at_ = firstAt (ids p.2) s.fd := by rw [hC]
              have hN2 : names F s = if twice C = true then 9 else if beyond C = true then 3 else 0 := by
                rw [hN, if_neg (by intro h; exact hk h.2)]
                unfold twice beyond
                rw [hCs, hCL]
                simp only [h1, h9]
                by_cases h6 : s.op = 6 ∨ s.op = 8
                · have h7 : ¬ s.op = 7 := by omega
                  simp [h6, h7]
                · by_cases h7 : s.op = 7
                  · simp [h7]
                    congr 1
                    simp
                    omega
                  · simp [h6, h7]
              have hE : err C = if names F s = 0 then (if suits C = false then 17 else 0) else names F s := by
                unfold err
                rw [hfd, hN2]
                by_cases hx : twice C = true
                · simp [hx]
                · by_cases hy : beyond C = true
                  · simp [hx, hy]
                  · simp [hx, hy]
              have hF : fieldsR F s = if suits C = false then ([], 17) else if fields C = [] then ([], 7) else (fields C, 0) := by
                have : fieldsR F s = if (types (oldAt p.2 (firstAt (ids p.2) s.fd)) s).2 = false then ([], 17)
                    else if puts (cutL p.2 (firstAt (ids p.2) s.fd).toNat) (if s.op = 7 then s.pl.toNat else (firstAt (ids p.2) s.fd).toNat) (types (oldAt p.2 (firstAt (ids p.2) s.fd)) s).1 = [] then ([], 7)
                    else (puts (cutL p.2 (firstAt (ids p.2) s.fd).toNat) (if s.op = 7 then s.pl.toNat else (firstAt (ids p.2) s.fd).toNat) (types (oldAt p.2 (firstAt (ids p.2) s.fd)) s).1, 0) := by
                  unfold fieldsR; rw [if_neg h9, hn]; simp [h1, h10]
                rw [this, t1]
                by_cases hs : suits C = false
                · simp [hs]
                · rw [if_neg hs, if_neg hs]
                  have hst : suits C = true := by simpa using hs
                  rw [t2 hst]
                  have : puts (cutL p.2 (firstAt (ids p.2) s.fd).toNat) (if s.op = 7 then s.pl.toNat else (firstAt (ids p.2) s.fd).toNat) (heirs C) = fields C := by
                    unfold fields
                    rw [hCs, hCL, hCa, if_neg h1]
                    by_cases h7 : s.op = 7
                    · rw [if_pos h7, if_pos h7]
                      unfold heirs
                      rw [hCs]
                      simp only [h7]
                      simp [puts]
                    · rw [if_neg h7, if_neg h7]
                      rw [t2 hst] at t3
                      exact puts_cut hk2 _ t3
                  rw [this]
              have hA : applied F C = F.set (pos F s.fm) (s.fm, fields C) := by
                unfold applied
                rw [hCs, if_neg h9, if_neg h10, hset]
              rw [hE, hF, hA]
              by_cases hn0 : names F s = 0
              · rw [hn0]
                by_cases hs : suits C = false
                · simp [hs]
                · by_cases hl : fields C = []
                  · have := not_right_nil (v := v) (x := s.fm) hpl
                    rw [hl]
                    simp [hs, this]
                  · rw [hgo _ (by rw [if_neg hs, if_neg hl]; exact hl)]
                    simp [hs, hl]
              · simp [hn0]
  · rw [if_neg hf, if_neg hf]
end Go.Proofs.Ytiajpjkkopdmgaa.typing

namespace Go.Proofs.Ytiajpjkkopdmgaa.typing
open Go.RowKit Go.Proofs.Ytiajpjkkopdmgaa.schema
open Go.Proofs.Ytiajpjkkopdmgaa.field (Gives newB gives_from)
open Go.Proofs.Ytiajpjkkopdmgaa.step (Lists)
set_option linter.unusedVariables false

theorem begin_some {F : List schema.Form} {c : Ch} (hc : c = begin_ F c.s) (h : c.kn = true ∨ 0 ≤ c.at_) : ∃ p, named F c.s.fm = some p ∧ c.L = p.2 := by
  cases hn : named F c.s.fm with
  | none =>
    have : c = ⟨c.s, 0, [], false, -1, step.fd0⟩ := by rw [hc, begin_s]; unfold begin_; rw [hn]
    rw [this] at h
    simp at h
  | some p =>
    have : c = ⟨c.s, c.s.fm, p.2, true, firstAt (ids p.2) c.s.fd, oldAt p.2 (firstAt (ids p.2) c.s.fd)⟩ := by rw [hc, begin_s]; unfold begin_; rw [hn]
    exact ⟨p, rfl, by rw [this]⟩
theorem old_span {v : Int} {F : List schema.Form} {c : Ch} (hr : Right v F) (hc : c = begin_ F c.s) : (-1099511627776 ≤ c.old.lo ∧ c.old.lo ≤ 1099511627776) ∧ (-1099511627776 ≤ c.old.hi ∧ c.old.hi ≤ 1099511627776) := by
  have h1 := (begin_at F c.s).1
  have h2 := (begin_at F c.s).2
  rw [← hc] at h1 h2
  by_cases hk : 0 ≤ c.at_
  · obtain ⟨p, hp, hL⟩ := begin_some hc (.inr hk)
    rw [h1, hL] at hk
    have := (old_right hr hp hk).2
    rw [← hL, ← h1, ← h2] at this
    have := right_span this
    omega
  · rw [h2]
    unfold oldAt
    rw [if_neg hk]
    simp
theorem fit_bd {v : Int} {F : List schema.Form} {c : Ch} (hf : Fit v F c.s) (hc : c = begin_ F c.s) : (c.s.op = 4 → Bd c) ∧ (c.s.op = 6 → Bq c) := by
  obtain ⟨h1, h2⟩ := old_span hf.1 hc
  refine ⟨fun h => ?_, fun h => ?_⟩
  · have := fit_fine hf (m := 5) (by rw [h]; decide)
    unfold step.Sp.Fine at this
    simp at this
    exact ⟨by omega, by omega, h1, h2⟩
  · have := fit_fine hf (m := 4) (by rw [h]; decide)
    unfold step.Sp.Fine at this
    simp at this
    exact ⟨by omega, h2⟩
theorem err_zero {c : Ch} (h : err c = 0) : found c = true ∧ twice c = false ∧ beyond c = false ∧ suits c = true := by
  unfold err at h
  cases h1 : found c <;> cases h2 : twice c <;> cases h3 : beyond c <;> cases h4 : suits c <;> simp [h1, h2, h3, h4] at h ⊢
theorem fit_places {v : Int} {F : List schema.Form} {c : Ch} (hf : Fit v F c.s) (hc : c = begin_ F c.s) (h0 : err c = 0) (h9 : ¬ c.s.op = 9) (h10 : ¬ c.s.op = 10) : Places c ∧ ∃ p, named F c.s.fm = some p := by
  obtain ⟨e1, e2, e3, e4⟩ := err_zero h0
  have hat := (begin_at F c.s).1
  rw [← hc] at hat
  by_cases h1 : c.s.op = 1
  · have hk : c.kn = true := by unfold found at e1; simpa [h9, h1] using e1
    obtain ⟨p, hp, _⟩ := begin_some hc (.inl hk)
    have hfi := fit_fine hf (m := 2) (by rw [h1]; decide)
    unfold step.Sp.Fine at hfi
    simp at hfi
    unfold beyond at e3
    simp [h1] at e3
    exact ⟨⟨fun _ => ⟨by omega, by omega⟩, fun h => by omega, fun h => absurd h1 h⟩, p, hp⟩
  · have hk : 0 ≤ c.at_ := by unfold found at e1; simpa [h9, h1, h10] using e1
    obtain ⟨p, hp, _⟩ := begin_some hc (.inr hk)
    have hlt : c.at_ < c.L.length := by
      rw [hat] at hk ⊢
      have := (firstAt_lt hk).1
      rw [ids_length] at this
      omega
    refine ⟨⟨fun h => absurd h h1, fun h7 => ?_, fun _ => ⟨hk, hlt⟩⟩, p, hp⟩
    have hfi := fit_fine hf (m := 2) (by rw [h7]; decide)
    unfold step.Sp.Fine at hfi
    simp at hfi
    unfold beyond at e3
    simp [h7] at e3
    omega
theorem applied_any (v : Int) (a : Option Addr) (cc : Nat) (F : List Fm) (c : Ch) (hc : c = begin_ (forms F) c.s) (ta : Option Addr) (tc : Nat) (la : Option Addr) (lc : Nat) (fa : Option Addr) (fc : Nat) (w : World)
    (hm : Fms w a F) (hF : Small w F) (hf : Fit v (forms F) c.s) (h0 : err c = 0) (hla : field.Fds w la c.s.l) (hL : c.s.l.length ≤ 40) (hfa : field.Fds w fa c.L) (hcl : c.L.length ≤ 40) :
    Calls Try.prog 22 #[.agg #[.int .i64 c.s.op, .int .i64 c.s.fm, .int .i64 c.s.fd, .int .i64 c.s.pl, .int .i64 c.s.tt, .int .i64 c.s.a, .int .i64 c.s.b, .int .i64 c.s.f.id, .int .i64 c.s.f.kind, .int .i64 c.s.f.lo, .int .i64 c.s.f.hi, .int .i64 c.s.f.most, .int .i64 c.s.v.n, .string c.s.v.s, .slice ta c.s.t.length tc, .slice la c.s.l.length lc, .int .i64 c.fi, .slice fa c.L.length fc, .bool c.kn, .int .i64 c.at_, .int .i64 c.old.id, .int .i64 c.old.kind, .int .i64 c.old.lo, .int .i64 c.old.hi, .int .i64 c.old.most], .agg #[.int .i64 v, .slice a F.length cc]] w (ClonedAs v (applied (forms F) c) w) := by
  have hs := right_sorted hf.1
  by_cases h9 : c.s.op = 9
  · exact applied_form c ta tc la lc fa fc w v a cc F hm hF hs h9 hla hL
  · by_cases h10 : c.s.op = 10
    · have hk : c.kn = true := by
        have e1 := (err_zero h0).1
        unfold found at e1
        simpa [h9, h10] using e1
      obtain ⟨p, hp, _⟩ := begin_some hc (.inl hk)
      exact applied_end c ta tc la lc fa fc w v a cc F hm hF hs h10 (by rw [hp]; simp)
    · obtain ⟨hP, p, hp⟩ := fit_places hf hc h0 h9 h10
      obtain ⟨hb4, hb6⟩ := fit_bd hf hc
      exact applied_other c ta tc la lc fa fc w v a cc F hm hF hs h9 h10 p hp hfa hcl hP hb4 hb6
end Go.Proofs.Ytiajpjkkopdmgaa.typing

namespace Go.Proofs.Ytiajpjkkopdmgaa.texts
open Go.RowKit

/-- the string of a list of bytes -/
def strL (l : List UInt8) : ByteArray := ⟨l.toArray⟩
theorem strL_size (l : List UInt8) : (strL l).size = l.length := by simp [strL, ByteArray.size]
theorem strL_toList (l : List UInt8) : (strL l).toList = l := ByteArray.toList_mk l
end Go.Proofs.Ytiajpjkkopdmgaa.texts

namespace Go.Proofs.Ytiajpjkkopdmgaa.step
open Go.RowKit
open Go.Proofs.Ytiajpjkkopdmgaa.field (Gives newB gives_from)
set_option linter.unusedVariables false

theorem within_any (n lo hi : Int) (w : World) : Calls Try.prog 95 #[.int .i64 n, .int .i64 lo, .int .i64 hi] w (Gives (.bool (decide (lo ≤ n ∧ n ≤ hi))) w) := by
  obtain ⟨v, hv⟩ : ∃ v : Bool, Hid (decide (lo ≤ n ∧ n ≤ hi) = v) := ⟨_, rfl⟩
  rw [hv.out]
  unfold Gives
  by_cases h1 : lo ≤ n
  · by_cases h2 : n ≤ hi
    · obtain rfl : true = v := by rw [← hv.out]; simp [h1, h2]
      skip
      go_enter Try.func95, Try.ntmps95
      go_wp2
      go_ret
      exact ⟨rfl, Below.refl _ _⟩
    · obtain rfl : false = v := by rw [← hv.out]; simp [h1, h2]
      have hd : decide (n ≤ hi) = false := decide_eq_false h2
      skip
      go_enter Try.func95, Try.ntmps95
      go_wp2
      go_ret
      exact ⟨rfl, Below.refl _ _⟩
  · obtain rfl : false = v := by rw [← hv.out]; simp [h1]
    have hd : decide (lo ≤ n) = false := decide_eq_false h1
    go_enter Try.func95, Try.ntmps95
    go_wp2
    go_ret
    exact ⟨rfl, Below.refl _ _⟩

theorem between_any (n lo hi : Int) (w : World) : Calls Try.prog 55 #[.int .i64 n, .int .i64 lo, .int .i64 hi] w (Gives (.bool (decide (lo ≤ n ∧ n ≤ hi))) w) := by
  obtain ⟨v, hv⟩ : ∃ v : Bool, Hid (decide (lo ≤ n ∧ n ≤ hi) = v) := ⟨_, rfl⟩
  rw [hv.out]
  unfold Gives
  by_cases h1 : lo ≤ n
  · by_cases h2 : n ≤ hi
    · obtain rfl : true = v := by rw [← hv.out]; simp [h1, h2]
      have hg : decide (n ≥ lo) = true := decide_eq_true h1
      go_enter Try.func55, Try.ntmps55
      go_wp2
      go_ret
      exact ⟨rfl, Below.refl _ _⟩
    · obtain rfl : false = v := by rw [← hv.out]; simp [h1, h2]
      have hd : decide (n ≤ hi) = false := decide_eq_false h2
      have hg : decide (n ≥ lo) = true := decide_eq_true h1
      go_enter Try.func55, Try.ntmps55
      go_wp2
      go_ret
      exact ⟨rfl, Below.refl _ _⟩
  · obtain rfl : false = v := by rw [← hv.out]; simp [h1]
    have hd : decide (n ≥ lo) = false := decide_eq_false h1
    go_enter Try.func55, Try.ntmps55
    go_wp2
    go_ret
    exact ⟨rfl, Below.refl _ _⟩

/-- a row of numbers that has just been made -/
def insV (l : List Int) : List Value := l.map fun n => Value.int .i64 n
/-- the members of an operation as numbers -/
def memI (op : Int) : List Int := (mem op).map fun m : Nat => (m : Int)
theorem memI_len (op : Int) : (memI op).length = (mem op).length := List.length_map _
theorem memI_at {op : Int} {k : Nat} {m : Nat} (h : (mem op)[k]? = some m) : (memI op)[k]? = some (m : Int) := by simp [memI, h]
/-- the row of an operation's members -/
def MRow (w : World) (a : Option Addr) (op : Int) : Prop := mem op = [] ∨ ∃ g, a = some ⟨g, 0, none⟩ ∧ Block w g 101 (insV (memI op))
theorem MRow.ins {w : World} {a : Option Addr} {op : Int} (h : MRow w a op) : Ins w a (memI op) := by
  rcases h with h | ⟨g, rfl, hB⟩
  · exact .inl (by unfold memI; rw [h]; rfl)
  · refine .inr ⟨g, 0, rfl, hB.lt, fun i n hi => ?_⟩
    rw [Nat.zero_add, hB.cell]
    simp [insV, hi]
def Members (op : Int) (w : World) (e : Ending) (w' : World) : Prop := ∃ (a : Option Addr) (c : Nat), e = .returned (.slice a (mem op).length c) ∧ MRow w' a op ∧ Below w.heap.size w w'
set_option maxHeartbeats 1600000 in
theorem members_any (op : Int) (w : World) : Calls Try.prog 69 #[.int .i64 op] w (Members op w) := by
  unfold Members
  rcases ops op with h | h
  · rcases h with rfl | rfl | rfl | rfl | rfl | rfl | rfl | rfl | rfl | rfl | rfl | rfl | rfl | rfl | rfl | rfl | rfl | rfl | rfl | rfl
    · go_enter Try.func69, Try.ntmps69
      go_wp2
      go_ret
      exact ⟨_, _, rfl, .inr ⟨_, rfl, Block.new w 101 (insV [0, 2, 9])⟩, newB _ _⟩
    · go_enter Try.func69, Try.ntmps69
      go_wp2
      go_ret
      exact ⟨_, _, rfl, .inr ⟨_, rfl, Block.new w 101 (insV [0, 2, 9])⟩, newB _ _⟩
    · go_enter Try.func69, Try.ntmps69
      go_wp2
      go_ret
      exact ⟨_, _, rfl, .inr ⟨_, rfl, Block.new w 101 (insV [0, 1, 10])⟩, newB _ _⟩
    · go_enter Try.func69, Try.ntmps69
      go_wp2
      go_ret
      exact ⟨_, _, rfl, .inr ⟨_, rfl, Block.new w 101 (insV [0, 1, 8])⟩, newB _ _⟩
    · go_enter Try.func69, Try.ntmps69
      go_wp2
      go_ret
      exact ⟨_, _, rfl, .inr ⟨_, rfl, Block.new w 101 (insV [0, 1, 8])⟩, newB _ _⟩
    · go_enter Try.func69, Try.ntmps69
      go_wp2
      go_ret
      exact ⟨_, _, rfl, .inr ⟨_, rfl, Block.new w 101 (insV [0, 1, 5])⟩, newB _ _⟩
    · go_enter Try.func69, Try.ntmps69
      go_wp2
      go_ret
      exact ⟨_, _, rfl, .inr ⟨_, rfl, Block.new w 101 (insV [0, 1, 5, 8])⟩, newB _ _⟩
    · go_enter Try.func69, Try.ntmps69
      go_wp2
      go_ret
      exact ⟨_, _, rfl, .inr ⟨_, rfl, Block.new w 101 (insV [0, 1, 6])⟩, newB _ _⟩
    · go_enter Try.func69, Try.ntmps69
      go_wp2
      go_ret
      exact ⟨_, _, rfl, .inr ⟨_, rfl, Block.new w 101 (insV [0, 1, 7])⟩, newB _ _⟩
    · go_enter Try.func69, Try.ntmps69
      go_wp2
      go_ret
      exact ⟨_, _, rfl, .inr ⟨_, rfl, Block.new w 101 (insV [0, 1, 4, 3])⟩, newB _ _⟩
    · go_enter Try.func69, Try.ntmps69
      go_wp2
      go_ret
      exact ⟨_, _, rfl, .inr ⟨_, rfl, Block.new w 101 (insV [0, 1, 4, 3, 8])⟩, newB _ _⟩
    · go_enter Try.func69, Try.ntmps69
      go_wp2
      go_ret
      exact ⟨_, _, rfl, .inr ⟨_, rfl, Block.new w 101 (insV [0, 1, 2])⟩, newB _ _⟩
    · go_enter Try.func69, Try.ntmps69
      go_wp2
      go_ret
      exact ⟨_, _, rfl, .inr ⟨_, rfl, Block.new w 101 (insV [0, 1, 2])⟩, newB _ _⟩
    · go_enter Try.func69, Try.ntmps69
      go_wp2
      go_ret
      exact ⟨_, _, rfl, .inr ⟨_, rfl, Block.new w 101 (insV [0, 1, 3])⟩, newB _ _⟩
    · go_enter Try.func69, Try.ntmps69
      go_wp2
      go_ret
      exact ⟨_, _, rfl, .inr ⟨_, rfl, Block.new w 101 (insV [0, 1, 3])⟩, newB _ _⟩
    · go_enter Try.func69, Try.ntmps69
      go_wp2
      go_ret
      exact ⟨_, _, rfl, .inr ⟨_, rfl, Block.new w 101 (insV [0, 11])⟩, newB _ _⟩
    · go_enter Try.func69, Try.ntmps69
      go_wp2
      go_ret
      exact ⟨_, _, rfl, .inr ⟨_, rfl, Block.new w 101 (insV [0, 11])⟩, newB _ _⟩
    · go_enter Try.func69, Try.ntmps69
      go_wp2
      go_ret
      exact ⟨_, _, rfl, .inr ⟨_, rfl, Block.new w 101 (insV [0])⟩, newB _ _⟩
    · go_enter Try.func69, Try.ntmps69
      go_wp2
      go_ret
      exact ⟨_, _, rfl, .inr ⟨_, rfl, Block.new w 101 (insV [0])⟩, newB _ _⟩
    · go_enter Try.func69, Try.ntmps69
      go_wp2
      go_ret
      exact ⟨_, _, rfl, .inr ⟨_, rfl, Block.new w 101 (insV [0, 1])⟩, newB _ _⟩
  · have hm := (mem_none h).1
    obtain ⟨L, hL⟩ : ∃ L, Hid (mem op = L) := ⟨_, rfl⟩
    have hI : ∀ W, MRow W none op := fun W => .inl hm
    rw [hm]
    obtain ⟨n0, n1, n2, n3, n4, n5, n6, n7, n8, n9, n10, n11, n12, n13, n14, n15, n16, n17, n18, n19⟩ := h
    have d0 : (op == 1) = false := by simpa using n0
    have d1 : (op == 22) = false := by simpa using n1
    have d2 : (op == 2) = false := by simpa using n2
    have d3 : (op == 3) = false := by simpa using n3
    have d4 : (op == 23) = false := by simpa using n4
    have d5 : (op == 4) = false := by simpa using n5
    have d6 : (op == 24) = false := by simpa using n6
    have d7 : (op == 5) = false := by simpa using n7
    have d8 : (op == 25) = false := by simpa using n8
    have d9 : (op == 6) = false := by simpa using n9
    have d10 : (op == 26) = false := by simpa using n10
    have d11 : (op == 7) = false := by simpa using n11
    have d12 : (op == 27) = false := by simpa using n12
    have d13 : (op == 8) = false := by simpa using n13
    have d14 : (op == 28) = false := by simpa using n14
    have d15 : (op == 9) = false := by simpa using n15
    have d16 : (op == 30) = false := by simpa using n16
    have d17 : (op == 10) = false := by simpa using n17
    have d18 : (op == 29) = false := by simpa using n18
    have d19 : (op == 21) = false := by simpa using n19
    clear hm hL n0 n1 n2 n3 n4 n5 n6 n7 n8 n9 n10 n11 n12 n13 n14 n15 n16 n17 n18 n19
    go_enter Try.func69, Try.ntmps69
    go_wp2
    go_ret
    exact ⟨_, _, rfl, hI _, Below.refl _ _⟩
/-- the letters of an operation, as a string -/
def usesS (op : Int) : ByteArray := texts.strL (uses op)
set_option maxHeartbeats 1600000 in
theorem uses_any (op : Int) (w : World) : Calls Try.prog 53 #[.int .i64 op] w (Gives (.string (usesS op)) w) := by
  unfold Gives
  rcases ops op with h | h
  · rcases h with rfl | rfl | rfl | rfl | rfl | rfl | rfl | rfl | rfl | rfl | rfl | rfl | rfl | rfl | rfl | rfl | rfl | rfl | rfl | rfl <;>
    · go_enter Try.func53, Try.ntmps53
      go_wp2
      go_ret
      exact ⟨rfl, Below.refl _ _⟩
  · have hm : usesS op = ⟨#[]⟩ := by unfold usesS; rw [(mem_none h).2]; rfl
    rw [hm]
    obtain ⟨n0, n1, n2, n3, n4, n5, n6, n7, n8, n9, n10, n11, n12, n13, n14, n15, n16, n17, n18, n19⟩ := h
    have d0 : (op == 1) = false := by simpa using n0
    have d1 : (op == 22) = false := by simpa using n1
    have d2 : (op == 2) = false := by simpa using n2
    have d3 : (op == 3) = false := by simpa using n3
    have d4 : (op == 23) = false := by simpa using n4
    have d5 : (op == 4) = false := by simpa using n5
    have d6 : (op == 24) = false := by simpa using n6
    have d7 : (op == 5) = false := by simpa using n7
    have d8 : (op == 25) = false := by simpa using n8
    have d9 : (op == 6) = false := by simpa using n9
    have d10 : (op == 26) = false := by simpa using n10
    have d11 : (op == 7) = false := by simpa using n11
    have d12 : (op == 27) = false := by simpa using n12
    have d13 : (op == 8) = false := by simpa using n13
    have d14 : (op == 28) = false := by simpa using n14
    have d15 : (op == 9) = false := by simpa using n15
    have d16 : (op == 30) = false := by simpa using n16
    have d17 : (op == 10) = false := by simpa using n17
    have d18 : (op == 29) = false := by simpa using n18
    have d19 : (op == 21) = false := by simpa using n19
    clear hm n0 n1 n2 n3 n4 n5 n6 n7 n8 n9 n10 n11 n12 n13 n14 n15 n16 n17 n18 n19
    go_enter Try.func53, Try.ntmps53
    go_wp2
    go_ret
    exact ⟨rfl, Below.refl _ _⟩
end Go.Proofs.Ytiajpjkkopdmgaa.step

namespace Go.Proofs.Ytiajpjkkopdmgaa.step
open Go.RowKit
open Go.Proofs.Ytiajpjkkopdmgaa.field (Gives newB gives_from)
open Go.Proofs.Ytiajpjkkopdmgaa.schema (take_succ_at below_out)
set_option linter.unusedVariables false

/-- the numbers seen so far, as an array -/
def seenT (l : List Int) : List Value := (List.range 1000).map fun j : Nat => Value.bool (decide ((j : Int) ∈ l))
theorem seenT_at (l : List Int) (n : Nat) (h : n < 1000) : (seenT l)[n]? = some (.bool (decide ((n : Int) ∈ l))) := by simp [seenT, h]
theorem seenT_set (l : List Int) (n : Nat) (h : n < 1000) : (seenT l).set n (.bool true) = seenT (l ++ [(n : Int)]) := by
  apply List.ext_getElem?
  intro i
  rw [List.getElem?_set]
  by_cases hi : i < 1000
  · rw [seenT_at _ i hi, seenT_at _ i hi]
    by_cases hn : n = i
    · subst hn; simp [seenT, h]
    · rw [if_neg hn]
      simp; omega
  · simp [seenT]
    simp [hi]
    omega
theorem seenT_zero : Try.zeroCells131 = (seenT []).toArray := by kernel_rfl
/-- the numbers, one by one -/
def TabOk (lim : Int) (l : List Int) : Prop := (∀ n ∈ l, 0 ≤ n ∧ n ≤ lim - 1) ∧ l.Nodup
theorem tab_succ {lim : Int} {L : List Int} {k : Nat} {x : Int} (h : L[k]? = some x) : TabOk lim (L.take (k + 1)) ↔ TabOk lim (L.take k) ∧ (0 ≤ x ∧ x ≤ lim - 1) ∧ x ∉ L.take k := by
  rw [take_succ_at h]
  unfold TabOk
  simp only [List.nodup_append, List.mem_append, List.mem_singleton]
  constructor
  · rintro ⟨h1, h2, h3, h4⟩
    exact ⟨⟨fun n hn => h1 n (.inl hn), h2⟩, h1 x (.inr rfl), fun hm => h4 _ hm _ rfl rfl⟩
  · rintro ⟨⟨h1, h2⟩, h3, h4⟩
    exact ⟨fun n hn => hn.elim (h1 n) (fun e => e ▸ h3), h2, by simp, fun a ha b hb e => h4 (by rw [← hb, ← e]; exact ha)⟩
theorem tab_take {lim : Int} {L : List Int} (h : TabOk lim L) (k : Nat) : TabOk lim (L.take k) :=
  ⟨fun n hn => h.1 n (List.mem_of_mem_take hn), h.2.sublist (List.take_sublist _ _)⟩
theorem tab_no {lim : Int} {L : List Int} {k : Nat} {x : Int} (h : L[k]? = some x) (hn : ¬ ((0 ≤ x ∧ x ≤ lim - 1) ∧ x ∉ L.take k)) : ¬ TabOk lim L := fun hf => hn ((tab_succ h).1 (tab_take hf _)).2
/-- the number k in a later world -/
theorem int_at {w w' : World} {a : Option Addr} {L : List Int} (h : Ins w a L) (hb : Below w.heap.size w w') {k : Nat} (hk : k < L.length) :
    ∃ b off p, a = some ⟨b, off, none⟩ ∧ b < w'.heap.size ∧ L[k]? = some p ∧ w'.cell? ⟨b, off + k, none⟩ = some (.int .i64 p) := (h.below hb).at hk
set_option maxRecDepth 20000 in
theorem fineTable_any (a : Option Addr) (cap : Nat) (L : List Int) (lim : Int) (h1 : 1 ≤ lim) (h2 : lim ≤ 1000) (w : World) (h : Ins w a L) (hL : L.length ≤ maxLen) :
    Calls Try.prog 96 #[.slice a L.length cap, .int .i64 lim] w (Gives (.bool (decide (Table L lim))) w) := by
  have hml : (L.length : Int) ≤ 9223372036854775807 := by unfold maxLen at hL; omega
  obtain ⟨v, hv⟩ : ∃ v : Bool, Hid (decide (Table L lim) = v) := ⟨_, rfl⟩
  rw [hv.out]
  have cW := within_any (L.length : Int) 1 64
  unfold Gives at cW ⊢
  have HF := hid h
  clear h hL
  by_cases h3 : 1 ≤ L.length ∧ L.length ≤ 64
  · rw [show decide ((1 : Int) ≤ (L.length : Int) ∧ (L.length : Int) ≤ 64) = true from decide_eq_true (by omega)] at cW
    have HTI : Hid (Table L lim ↔ TabOk lim L) := hid ⟨fun h => h.2, fun h => ⟨h3, h⟩⟩
    have cV := fun n (w' : World) => within_any n 0 (lim - 1) w'
    clear h3
    go_enter Try.func96, Try.ntmps96
    go_wp2_with (go_at_call 95; ((with_reducible refine (cW _).mono ?_); rintro e w1 ⟨rfl, hb1⟩; have HB1 := hid hb1; have HZ : Hid (Block (w1.alloc (.cells Try.zeroCells131 131)) w1.heap.size 131 (seenT [])) := (by rw [seenT_zero]; exact hid (Block.new w1 131 (seenT []))); have HN := hid (newB w1 (.cells Try.zeroCells131 131)); have HLE := hid hb1.size; clear hb1))
    have HF1 := hid (HF.out.below HB1.out)
    clear cW
    generalize w1.alloc (.cells Try.zeroCells131 131) = w2 at *
    obtain ⟨B, hB⟩ : ∃ B : Nat, Hid (w1.heap.size = B) := ⟨_, rfl⟩
    rw [hB.out] at HZ HLE ⊢
    go_loopw [14] (fun n wr => ∃ k : Nat, k ≤ L.length ∧ n = .int .i64 (k : Int) ∧ Hid (TabOk lim (L.take k)) ∧ Hid (Block wr B 131 (seenT (L.take k))) ∧ Hid (Below w1.heap.size w1 wr)) (fun n _ => L.length - (intOf n).toNat)
    case atStart => exact ⟨0, Nat.zero_le _, rfl, hid ⟨by simp, by simp⟩, HZ, HN⟩
    case round =>
      obtain ⟨k, hk, rfl, HOK, HBl, HB⟩ := hrel
      by_cases hlt : k < L.length
      · obtain ⟨b, off, p, rfl, hbl, hp, c0⟩ := int_at HF1.out HB.out hlt
        have i1 : (k : Int) < L.length := by omega
        have HP := hid hp
        have HNO := hid (tab_no (lim := lim) hp)
        have HSUC := hid (tab_succ (lim := lim) hp)
        have HTK := hid (take_succ_at hp)
        have cs := fun w' => cV p w'
        clear hp
        generalize hI : L.take k = I at *
        clear hI
        by_cases hr : 0 ≤ p ∧ p ≤ lim - 1
        · obtain ⟨n, rfl⟩ := Int.eq_ofNat_of_zero_le hr.1
          have hn2 : n < 1000 := by omega
          have hn3 : (n : Int) < 1000 := by omega
          rw [decide_eq_true hr] at cs
          have HR := hid hr
          clear hr
          have hsd := seenT_at I n hn2
          by_cases hm : (n : Int) ∈ I
          · rw [decide_eq_true hm] at hsd
            obtain rfl : false = v := by rw [← hv.out]; exact (decide_eq_false (fun h => HNO.out (fun h => h.2 hm) (HTI.out.1 h))).symm
            clear hm
            go_wp2_with (go_at_call 95; ((with_reducible refine (cs _).mono ?_); rintro e w3 ⟨rfl, hb3⟩; have hc := (HBl.out.later hb3).cell n; rw [hsd] at hc))
            go_ret
            exact ⟨rfl, HB1.out.trans ((HB.out.trans (hb3.mono HB.out.size)).mono HB1.out.size)⟩
          · rw [decide_eq_false hm] at hsd
            have HM := hid hm
            clear hm
            go_wp2_with (go_at_call 95; ((with_reducible refine (cs _).mono ?_); rintro e w3 ⟨rfl, hb3⟩; have hblk := HBl.out.later hb3; have hc := hblk.cell n; rw [hsd] at hc; have hfz := hblk.frozen n; have HBK := hid hblk; clear hblk))
            refine ⟨⟨k + 1, by omega, by go_num, hid (HSUC.out.2 ⟨HOK.out, HR.out, HM.out⟩), hid ?_, hid ?_⟩, by simp [intOf]; omega⟩
            · have := HBK.out.setCell n (.bool true)
              rw [seenT_set _ _ (by omega)] at this
              rw [HTK.out]; exact this
            · exact below_setCells (HB.out.trans (hb3.mono HB.out.size)) (by rw [hB.out]; exact Nat.le_refl _) n [.bool true]
        · obtain rfl : false = v := by rw [← hv.out]; exact (decide_eq_false (fun h => HNO.out (fun h => hr h.1) (HTI.out.1 h))).symm
          rw [decide_eq_false hr] at cs
          clear hr
          go_wp2_with (go_at_call 95; ((with_reducible refine (cs _).mono ?_); rintro e w3 ⟨rfl, hb3⟩))
          go_ret
          exact ⟨rfl, HB1.out.trans ((HB.out.trans (hb3.mono HB.out.size)).mono HB1.out.size)⟩
      · obtain rfl : k = L.length := by omega
        obtain rfl : true = v := by rw [← hv.out]; have := HOK.out; rw [List.take_of_length_le (Nat.le_refl _)] at this; exact (decide_eq_true (HTI.out.2 this)).symm
        go_wp2
        go_ret
        exact ⟨rfl, HB1.out.trans (HB.out.mono HB1.out.size)⟩
  · rw [show decide ((1 : Int) ≤ (L.length : Int) ∧ (L.length : Int) ≤ 64) = false from decide_eq_false (by omega)] at cW
    obtain rfl : false = v := by rw [← hv.out]; exact (decide_eq_false (fun h => h3 h.1)).symm
    clear h3
    go_enter Try.func96, Try.ntmps96
    go_wp2_with (go_at_call 95; ((with_reducible refine (cW _).mono ?_); rintro e w1 ⟨rfl, hb1⟩))
    go_ret
    exact ⟨rfl, hb1⟩
end Go.Proofs.Ytiajpjkkopdmgaa.step
