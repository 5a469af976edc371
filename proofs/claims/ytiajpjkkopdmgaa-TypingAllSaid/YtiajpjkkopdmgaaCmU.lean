/- Contracts and lemmas that the claims of this seat share: SchemaRefAt, TypingRefNames. Each says its own conditions. -/
import Derived.Test.YtiajpjkkopdmgaaCmI
import Derived.Test.YtiajpjkkopdmgaaCmE
import Derived.Test.YtiajpjkkopdmgaaCmG
import Derived.Test.YtiajpjkkopdmgaaCmF
import Derived.Test.YtiajpjkkopdmgaaCmM

namespace Go.Proofs.Ytiajpjkkopdmgaa.schema
open Go.RowKit
open Go.Proofs.Ytiajpjkkopdmgaa.field (Gives newB gives_from refSize_any)
set_option linter.unusedVariables false
theorem refFind_any (i : Int) (a : Option Addr) (cap : Nat) (L : List Fm) (x : Int) (w : World) (h : FmL w a L) (hL : L.length ≤ maxLen) :
    Calls Try.prog 15 #[.agg #[.int .i64 i, .slice a L.length cap], .int .i64 x] w (Gives (.int .i64 (firstAt (fids L) x)) w) := by
  have hml : (L.length : Int) ≤ 9223372036854775807 := by unfold maxLen at hL; omega
  have HX := hid (boxS i a L cap w)
  have HF := hid (h.below (newB w (.cells #[.int .i64 i, .slice a L.length cap] 24)))
  obtain ⟨r, hr⟩ : ∃ r : Int, Hid (firstAt (fids L) x = r) := ⟨_, rfl⟩
  rw [hr.out]
  unfold Gives
  clear h hL
  go_enter Try.func15, Try.ntmps15
  go_wp2
  go_loopw [5] (fun n wr => ∃ k : Nat, k ≤ L.length ∧ n = .int .i64 (k : Int) ∧ Hid (x ∉ (fids L).take k) ∧ Hid (Below (w.alloc (.cells #[.int .i64 i, .slice a L.length cap] 24)).heap.size (w.alloc (.cells #[.int .i64 i, .slice a L.length cap] 24)) wr)) (fun n _ => L.length - (intOf n).toNat)
  case atStart => exact ⟨0, Nat.zero_le _, rfl, hid (by simp), hid (Below.refl _ _)⟩
  case round =>
    obtain ⟨k, hk, rfl, HNO, HB⟩ := hrel
    obtain ⟨z0, z1, hbo⟩ := HX.out _ HB.out
    by_cases hlt : k < L.length
    · obtain ⟨b, off, p, rfl, hbl, hp, c0, c1, _, _⟩ := form_at HF.out HB.out hlt
      have i1 : (k : Int) < L.length := by omega
      have HHIT := hid (fun e => first_hit HNO.out ((fids_at hp).trans (congrArg some e)))
      have HNX := hid (fun e => not_take_succ HNO.out (fids_at hp) e)
      clear hp
      by_cases hx : p.id = x
      · have hd : (p.id == x) = true := beq_iff_eq.2 hx
        obtain rfl : (k : Int) = r := by rw [← hr.out]; exact (HHIT.out hx).symm
        clear hx
        go_wp2
        go_ret
        exact ⟨rfl, hbo⟩
      · have hd : (p.id == x) = false := beq_eq_false_iff_ne.2 hx
        have HXX := hid hx
        clear hx
        go_wp2
        exact ⟨⟨k + 1, by omega, by go_num, hid (HNX.out HXX.out), HB⟩, by simp [intOf]; omega⟩
    · obtain rfl : k = L.length := by omega
      obtain rfl : -1 = r := by rw [← hr.out]; have := HNO.out; rw [List.take_of_length_le (by rw [fids_length]; exact Nat.le_refl _)] at this; exact (first_none this).symm
      go_wp2
      go_ret
      exact ⟨rfl, hbo⟩
end Go.Proofs.Ytiajpjkkopdmgaa.schema

namespace Go.Proofs.Ytiajpjkkopdmgaa.typing
open Go.RowKit Go.Proofs.Ytiajpjkkopdmgaa.schema
open Go.Proofs.Ytiajpjkkopdmgaa.field (Gives newB gives_from)
open Go.Proofs.Ytiajpjkkopdmgaa.step (Lists)
set_option linter.unusedVariables false
set_option linter.unusedSimpArgs false

theorem refField_any (n : Int) (w : World) : Calls Try.prog 60 #[.int .i64 n] w (Gives (.bool (nf n)) w) := by
  unfold nf Gives
  by_cases h1 : n = 1
  · subst h1
    go_enter Try.func60, Try.ntmps60
    go_wp2
    go_ret
    exact ⟨rfl, Below.refl _ _⟩
  by_cases h9 : n = 9
  · subst h9
    go_enter Try.func60, Try.ntmps60
    go_wp2
    go_ret
    exact ⟨rfl, Below.refl _ _⟩
  have d1 : (n != 1) = true := by simpa using h1
  have d9 : (n != 9) = true := by simpa using h9
  obtain ⟨r, hr⟩ : ∃ r : Bool, (n != 10) = r := ⟨_, rfl⟩
  have hR : decide (n ≠ 1 ∧ n ≠ 9 ∧ n ≠ 10) = r := by rw [← hr]; by_cases h : n = 10 <;> simp [h1, h9, h]
  rw [hR]
  clear hR h1 h9
  go_enter Try.func60, Try.ntmps60
  go_wp2
  go_ret
  exact ⟨rfl, Below.refl _ _⟩
theorem named_at (F : List schema.Form) (x : Int) : (named F x = none ∧ firstAt (F.map (·.1)) x = -1) ∨ ∃ p, ∃ j : Nat, named F x = some p ∧ firstAt (F.map (·.1)) x = (j : Int) ∧ F[j]? = some p := by
  cases hn : named F x with
  | none => exact .inl ⟨rfl, firstAt_neg1 (named_none hn)⟩
  | some p =>
    refine .inr ⟨p, (F.map (·.1)).idxOf x, rfl, ?_, ?_⟩
    · have := named_some hn
      unfold firstAt
      rw [if_pos (this.2 ▸ List.mem_map_of_mem this.1)]
    · unfold named at hn
      induction F with
      | nil => simp at hn
      | cons q r ih =>
        rw [List.find?_cons] at hn
        by_cases hq : q.1 = x
        · simp [hq] at hn
          subst hn
          simp [hq]
        · have hb : (q.1 == x) = false := by simpa using hq
          rw [hb] at hn
          have := ih hn
          rw [List.map_cons, List.idxOf_cons, hb]
          exact this
set_option maxRecDepth 20000 in
set_option maxHeartbeats 3200000 in
theorem refNames_any (v : Int) (a : Option Addr) (cap : Nat) (F : List Fm) (s : step.Sp) (ta : Option Addr) (tc : Nat) (la : Option Addr) (lc : Nat) (w : World) (h : FmL w a F) (hF : F.length ≤ maxLen) :
    Calls Try.prog 24 #[.agg #[.int .i64 v, .slice a F.length cap], .agg #[.int .i64 s.op, .int .i64 s.fm, .int .i64 s.fd, .int .i64 s.pl, .int .i64 s.tt, .int .i64 s.a, .int .i64 s.b, .int .i64 s.f.id, .int .i64 s.f.kind, .int .i64 s.f.lo, .int .i64 s.f.hi, .int .i64 s.f.most, .int .i64 s.v.n, .string s.v.s, .slice ta s.t.length tc, .slice la s.l.length lc]] w (Gives (.int .i64 (names (forms F) s : Nat)) w) := by
  have hw : Below w.heap.size w ((w.alloc (.cells #[.int .i64 v, .slice a F.length cap] 24)).alloc (.cells #[.int .i64 s.op, .int .i64 s.fm, .int .i64 s.fd, .int .i64 s.pl, .int .i64 s.tt, .int .i64 s.a, .int .i64 s.b, .int .i64 s.f.id, .int .i64 s.f.kind, .int .i64 s.f.lo, .int .i64 s.f.hi, .int .i64 s.f.most, .int .i64 s.v.n, .string s.v.s, .slice ta s.t.length tc, .slice la s.l.length lc] 32)) := by
    have h1 := newB w (.cells #[.int .i64 v, .slice a F.length cap] 24)
    exact h1.alloc h1.size _
  have hA : Block ((w.alloc (.cells #[.int .i64 v, .slice a F.length cap] 24)).alloc (.cells #[.int .i64 s.op, .int .i64 s.fm, .int .i64 s.fd, .int .i64 s.pl, .int .i64 s.tt, .int .i64 s.a, .int .i64 s.b, .int .i64 s.f.id, .int .i64 s.f.kind, .int .i64 s.f.lo, .int .i64 s.f.hi, .int .i64 s.f.most, .int .i64 s.v.n, .string s.v.s, .slice ta s.t.length tc, .slice la s.l.length lc] 32)) w.heap.size 24 [.int .i64 v, .slice a F.length cap] := (Block.new w _ _).alloc _
  have hU : Block ((w.alloc (.cells #[.int .i64 v, .slice a F.length cap] 24)).alloc (.cells #[.int .i64 s.op, .int .i64 s.fm, .int .i64 s.fd, .int .i64 s.pl, .int .i64 s.tt, .int .i64 s.a, .int .i64 s.b, .int .i64 s.f.id, .int .i64 s.f.kind, .int .i64 s.f.lo, .int .i64 s.f.hi, .int .i64 s.f.most, .int .i64 s.v.n, .string s.v.s, .slice ta s.t.length tc, .slice la s.l.length lc] 32)) (w.heap.size + 1) 32 [.int .i64 s.op, .int .i64 s.fm, .int .i64 s.fd, .int .i64 s.pl, .int .i64 s.tt, .int .i64 s.a, .int .i64 s.b, .int .i64 s.f.id, .int .i64 s.f.kind, .int .i64 s.f.lo, .int .i64 s.f.hi, .int .i64 s.f.most, .int .i64 s.v.n, .string s.v.s, .slice ta s.t.length tc, .slice la s.l.length lc] := by
    have := Block.new ((w.alloc (.cells #[.int .i64 v, .slice a F.length cap] 24))) 32 [.int .i64 s.op, .int .i64 s.fm, .int .i64 s.fd, .int .i64 s.pl, .int .i64 s.tt, .int .i64 s.a, .int .i64 s.b, .int .i64 s.f.id, .int .i64 s.f.kind, .int .i64 s.f.lo, .int .i64 s.f.hi, .int .i64 s.f.most, .int .i64 s.v.n, .string s.v.s, .slice ta s.t.length tc, .slice la s.l.length lc]
    simpa using this
  have hf0 := h.below hw
  have cFi := refFind_any v a cap F s.fm _ hf0 hF
  have HX : Hid (∀ w', Below ((w.alloc (.cells #[.int .i64 v, .slice a F.length cap] 24)).alloc (.cells #[.int .i64 s.op, .int .i64 s.fm, .int .i64 s.fd, .int .i64 s.pl, .int .i64 s.tt, .int .i64 s.a, .int .i64 s.b, .int .i64 s.f.id, .int .i64 s.f.kind, .int .i64 s.f.lo, .int .i64 s.f.hi, .int .i64 s.f.most, .int .i64 s.v.n, .string s.v.s, .slice ta s.t.length tc, .slice la s.l.length lc] 32)).heap.size ((w.alloc (.cells #[.int .i64 v, .slice a F.length cap] 24)).alloc (.cells #[.int .i64 s.op, .int .i64 s.fm, .int .i64 s.fd, .int .i64 s.pl, .int .i64 s.tt, .int .i64 s.a, .int .i64 s.b, .int .i64 s.f.id, .int .i64 s.f.kind, .int .i64 s.f.lo, .int .i64 s.f.hi, .int .i64 s.f.most, .int .i64 s.v.n, .string s.v.s, .slice ta s.t.length tc, .slice la s.l.length lc] 32)) w' → Block w' w.heap.size 24 [.int .i64 v, .slice a F.length cap] ∧ Block w' (w.heap.size + 1) 32 [.int .i64 s.op, .int .i64 s.fm, .int .i64 s.fd, .int .i64 s.pl, .int .i64 s.tt, .int .i64 s.a, .int .i64 s.b, .int .i64 s.f.id, .int .i64 s.f.kind, .int .i64 s.f.lo, .int .i64 s.f.hi, .int .i64 s.f.most, .int .i64 s.v.n, .string s.v.s, .slice ta s.t.length tc, .slice la s.l.length lc] ∧ Below w.heap.size w w') := hid (fun w' hb => ⟨hA.later hb, hU.later hb, hw.trans (hb.mono hw.size)⟩)
  have HF := hid hf0
  have cK := fun w' => refField_any s.op w'
  rw [fids_forms] at cFi
  unfold Gives at cFi cK ⊢
  clear h hA hU hw hf0
  rcases named_at (forms F) s.fm with ⟨hn, hx⟩ | ⟨p0, j, hn, hx, hj⟩
  · rw [hx] at cFi
    by_cases h9 : s.op = 9
    · have d9 : (s.op == 9) = true := by simpa using h9
      rw [show names (forms F) s = 0 by unfold names; rw [if_pos h9, hn]; rfl]
      clear hn hx h9
      go_enter Try.func24, Try.ntmps24
      go_wp2_with (first
        | (go_at_call 15; ((with_reducible refine cFi.mono ?_); rintro e w1 ⟨rfl, hb1⟩; obtain ⟨k0, k1, kb⟩ := HX.out _ hb1; have z1 := k0.cell 1; have y0 := k1.cell 0; have KB := hid kb)))
      go_ret
      exact ⟨rfl, KB.out⟩
    · have d9 : (s.op == 9) = false := by simpa using h9
      rw [show names (forms F) s = 8 by unfold names; rw [if_neg h9, hn]]
      clear hn hx h9
      go_enter Try.func24, Try.ntmps24
      go_wp2_with (first
        | (go_at_call 15; ((with_reducible refine cFi.mono ?_); rintro e w1 ⟨rfl, hb1⟩; obtain ⟨k0, k1, kb⟩ := HX.out _ hb1; have z1 := k0.cell 1; have y0 := k1.cell 0; have KB := hid kb)))
      go_ret
      exact ⟨rfl, KB.out⟩
  · rw [hx] at cFi
    by_cases h9 : s.op = 9
    · have d9 : (s.op == 9) = true := by simpa using h9
      rw [show names (forms F) s = 9 by unfold names; rw [if_pos h9, hn]; rfl]
      have g0 : decide ((j : Int) ≥ 0) = true := by simp
      clear hn hx h9
      go_enter Try.func24, Try.ntmps24
      go_wp2_with (first
        | (go_at_call 15; ((with_reducible refine cFi.mono ?_); rintro e w1 ⟨rfl, hb1⟩; obtain ⟨k0, k1, kb⟩ := HX.out _ hb1; have z1 := k0.cell 1; have y0 := k1.cell 0; have KB := hid kb)))
      go_ret
      exact ⟨rfl, KB.out⟩
    · have d9 : (s.op == 9) = false := by simpa using h9
      have hN : names (forms F) s = if nf s.op = true ∧ firstAt (ids p0.2) s.fd < 0 then 8 else if (s.op = 1 ∧ 0 ≤ firstAt (ids p0.2) s.f.id) ∨ ((s.op = 6 ∨ s.op = 8) ∧ 0 ≤ firstAt (ids p0.2) s.tt) then 9
            else if (s.op = 1 ∧ (p0.2.length : Int) < s.pl) ∨ (s.op = 7 ∧ (p0.2.length : Int) ≤ s.pl) then 3 else 0 := by unfold names; rw [if_neg h9, hn]
      have g0 : decide ((j : Int) < 0) = false := by simp
      have hjl : j < F.length := by have := (List.getElem?_eq_some_iff.1 hj).1; rwa [forms_length] at this
      obtain ⟨b, off, p, ha, hbl, hp, _, _, _, hpl⟩ := form_at HF.out (Below.refl _ _) hjl
      obtain rfl : p0 = p.p := by have := forms_at hp; rw [hj] at this; exact Option.some.inj this
      have i1 : (j : Int) < F.length := by omega
      have hml : (F.length : Int) ≤ 9223372036854775807 := by unfold maxLen at hF; omega
      have hpm : (p.fL.length : Int) ≤ 9223372036854775807 := by unfold maxLen at hpl; omega
      have HC : Hid (∀ w', Below ((w.alloc (.cells #[.int .i64 v, .slice a F.length cap] 24)).alloc (.cells #[.int .i64 s.op, .int .i64 s.fm, .int .i64 s.fd, .int .i64 s.pl, .int .i64 s.tt, .int .i64 s.a, .int .i64 s.b, .int .i64 s.f.id, .int .i64 s.f.kind, .int .i64 s.f.lo, .int .i64 s.f.hi, .int .i64 s.f.most, .int .i64 s.v.n, .string s.v.s, .slice ta s.t.length tc, .slice la s.l.length lc] 32)).heap.size ((w.alloc (.cells #[.int .i64 v, .slice a F.length cap] 24)).alloc (.cells #[.int .i64 s.op, .int .i64 s.fm, .int .i64 s.fd, .int .i64 s.pl, .int .i64 s.tt, .int .i64 s.a, .int .i64 s.b, .int .i64 s.f.id, .int .i64 s.f.kind, .int .i64 s.f.lo, .int .i64 s.f.hi, .int .i64 s.f.most, .int .i64 s.v.n, .string s.v.s, .slice ta s.t.length tc, .slice la s.l.length lc] 32)) w' → w'.cell? ⟨b, off + j * 2, none⟩ = some (.int .i64 p.id) ∧ w'.cell? ⟨b, off + j * 2 + 1, none⟩ = some (.slice p.f p.fL.length p.fCap) ∧ field.Fds w' p.f p.fL) := hid (fun w' hb => by
        obtain ⟨b2, off2, p2, he, _, hp2, e0, e1, e2, _⟩ := form_at HF.out hb hjl
        cases ha.symm.trans he
        rw [hp] at hp2
        cases hp2
        exact ⟨e0, e1, e2⟩)
      subst ha
      have HM := hid hpm
      have HML := hid (show p.fL.length ≤ maxLen from hpl)
      change names (forms F) s = if nf s.op = true ∧ firstAt (ids p.fL) s.fd < 0 then 8 else if (s.op = 1 ∧ 0 ≤ firstAt (ids p.fL) s.f.id) ∨ ((s.op = 6 ∨ s.op = 8) ∧ 0 ≤ firstAt (ids p.fL) s.tt) then 9
            else if (s.op = 1 ∧ (p.fL.length : Int) < s.pl) ∨ (s.op = 7 ∧ (p.fL.length : Int) ≤ s.pl) then 3 else 0 at hN
      clear hn hx hj hp hpl hbl
      have cQ := fun (x : Int) (w' : World) (hb : field.Fds w' p.f p.fL) => refAt_any p.id p.f p.fCap p.fL x w' hb HML.out
      unfold Gives at cQ
      obtain ⟨r, hr⟩ : ∃ r : Nat, names (forms F) s = r := ⟨_, rfl⟩
      rw [hr] at hN ⊢
      obtain ⟨A, hA⟩ : ∃ A, Hid (firstAt (ids p.fL) s.fd = A) := ⟨_, rfl⟩
      obtain ⟨B, hB⟩ : ∃ B, Hid (firstAt (ids p.fL) s.f.id = B) := ⟨_, rfl⟩
      obtain ⟨T, hT⟩ : ∃ T, Hid (firstAt (ids p.fL) s.tt = T) := ⟨_, rfl⟩
      rw [hA.out, hB.out, hT.out] at hN
      clear hr
      by_cases h1 : s.op = 1
      · have d1 : (s.op == 1) = true := by simpa using h1
        have d10 : (s.op == 10) = false := by rw [h1]; rfl
        have d6 : (s.op == 6) = false := by rw [h1]; rfl
        have d8 : (s.op == 8) = false := by rw [h1]; rfl
        have d7 : (s.op == 7) = false := by rw [h1]; rfl
        have ef : nf s.op = false := by rw [h1]; rfl
        rw [ef] at cK
        by_cases hQ : 0 ≤ B
        · skip
          obtain rfl : r = 9 := by rw [hN]; simp [nf, h1, hQ]
          have gB : decide (B ≥ 0) = true := by simpa using hQ
          clear hN h1 hQ
          go_enter Try.func24, Try.ntmps24
          go_wp2_with (first
            | (go_at_call 15; ((with_reducible refine cFi.mono ?_); rintro e w1 ⟨rfl, hb1⟩; obtain ⟨k0, k1, kb⟩ := HX.out _ hb1; have z1 := k0.cell 1; have y0 := k1.cell 0; have KB := hid kb; obtain ⟨c0, c1, cf⟩ := HC.out _ hb1; have hN1 := newB w1 (.cells #[.int .i64 p.id, .slice p.f p.fL.length p.fCap] 52); have hB1 := hb1.trans (hN1.mono hb1.size); have kf := Block.new w1 52 [.int .i64 p.id, .slice p.f p.fL.length p.fCap]; have kp := k1.later hN1; have u0 := kp.cell 0; have u2 := kp.cell 2; have u3 := kp.cell 3; have u4 := kp.cell 4; have u7 := kp.cell 7; have HB1 := hid hB1; clear k0 k1 kb hN1 cf))
            | (go_at_call 60; ((with_reducible refine (cK _).mono ?_); rintro e w2 ⟨rfl, hn⟩; have hB2 := HB1.out.trans (hn.mono HB1.out.size); obtain ⟨k0, k1, kb⟩ := HX.out _ hB2; have u0 := k1.cell 0; have u2 := k1.cell 2; have u3 := k1.cell 3; have u4 := k1.cell 4; have u7 := k1.cell 7; have kf := kf.later hn; have f0 := kf.cell 0; have f1 := kf.cell 1; have KB := hid kb; clear k0 k1 kb hn))
            | (go_at_call 26; ((with_reducible refine (cQ s.f.id _ (HC.out _ hB2).2.2).mono ?_); rw [hB.out]; rintro e w3 ⟨rfl, hn⟩; have hB3 := hB2.trans (hn.mono hB2.size); obtain ⟨k0, k1, kb⟩ := HX.out _ hB3; have u0 := k1.cell 0; have u2 := k1.cell 2; have u3 := k1.cell 3; have u4 := k1.cell 4; have u7 := k1.cell 7; have kf := kf.later hn; have f0 := kf.cell 0; have f1 := kf.cell 1; have KB := hid kb; clear k0 k1 kb hn)))
          go_ret
          exact ⟨rfl, KB.out⟩
        · skip
          by_cases hP : (p.fL.length : Int) < s.pl
          · skip
            obtain rfl : r = 3 := by rw [hN]; simp [nf, h1, hQ, hP]
            have gB : decide (B ≥ 0) = false := by simpa using hQ
            have gP : decide (s.pl > (p.fL.length : Int)) = true := by simpa using hP
            clear hN h1 hP hQ
            go_enter Try.func24, Try.ntmps24
            go_wp2_with (first
              | (go_at_call 15; ((with_reducible refine cFi.mono ?_); rintro e w1 ⟨rfl, hb1⟩; obtain ⟨k0, k1, kb⟩ := HX.out _ hb1; have z1 := k0.cell 1; have y0 := k1.cell 0; have KB := hid kb; obtain ⟨c0, c1, cf⟩ := HC.out _ hb1; have hN1 := newB w1 (.cells #[.int .i64 p.id, .slice p.f p.fL.length p.fCap] 52); have hB1 := hb1.trans (hN1.mono hb1.size); have kf := Block.new w1 52 [.int .i64 p.id, .slice p.f p.fL.length p.fCap]; have kp := k1.later hN1; have u0 := kp.cell 0; have u2 := kp.cell 2; have u3 := kp.cell 3; have u4 := kp.cell 4; have u7 := kp.cell 7; have HB1 := hid hB1; clear k0 k1 kb hN1 cf))
              | (go_at_call 60; ((with_reducible refine (cK _).mono ?_); rintro e w2 ⟨rfl, hn⟩; have hB2 := HB1.out.trans (hn.mono HB1.out.size); obtain ⟨k0, k1, kb⟩ := HX.out _ hB2; have u0 := k1.cell 0; have u2 := k1.cell 2; have u3 := k1.cell 3; have u4 := k1.cell 4; have u7 := k1.cell 7; have kf := kf.later hn; have f0 := kf.cell 0; have f1 := kf.cell 1; have KB := hid kb; clear k0 k1 kb hn))
              | (go_at_call 26; ((with_reducible refine (cQ s.f.id _ (HC.out _ hB2).2.2).mono ?_); rw [hB.out]; rintro e w3 ⟨rfl, hn⟩; have hB3 := hB2.trans (hn.mono hB2.size); obtain ⟨k0, k1, kb⟩ := HX.out _ hB3; have u0 := k1.cell 0; have u2 := k1.cell 2; have u3 := k1.cell 3; have u4 := k1.cell 4; have u7 := k1.cell 7; have kf := kf.later hn; have f0 := kf.cell 0; have f1 := kf.cell 1; have KB := hid kb; clear k0 k1 kb hn)))
            go_ret
            exact ⟨rfl, KB.out⟩
          · skip
            obtain rfl : r = 0 := by rw [hN]; simp [nf, h1, hQ, hP]
            have gB : decide (B ≥ 0) = false := by simpa using hQ
            have gP : decide (s.pl > (p.fL.length : Int)) = false := by simpa using hP
            clear hN h1 hP hQ
            go_enter Try.func24, Try.ntmps24
            go_wp2_with (first
              | (go_at_call 15; ((with_reducible refine cFi.mono ?_); rintro e w1 ⟨rfl, hb1⟩; obtain ⟨k0, k1, kb⟩ := HX.out _ hb1; have z1 := k0.cell 1; have y0 := k1.cell 0; have KB := hid kb; obtain ⟨c0, c1, cf⟩ := HC.out _ hb1; have hN1 := newB w1 (.cells #[.int .i64 p.id, .slice p.f p.fL.length p.fCap] 52); have hB1 := hb1.trans (hN1.mono hb1.size); have kf := Block.new w1 52 [.int .i64 p.id, .slice p.f p.fL.length p.fCap]; have kp := k1.later hN1; have u0 := kp.cell 0; have u2 := kp.cell 2; have u3 := kp.cell 3; have u4 := kp.cell 4; have u7 := kp.cell 7; have HB1 := hid hB1; clear k0 k1 kb hN1 cf))
              | (go_at_call 60; ((with_reducible refine (cK _).mono ?_); rintro e w2 ⟨rfl, hn⟩; have hB2 := HB1.out.trans (hn.mono HB1.out.size); obtain ⟨k0, k1, kb⟩ := HX.out _ hB2; have u0 := k1.cell 0; have u2 := k1.cell 2; have u3 := k1.cell 3; have u4 := k1.cell 4; have u7 := k1.cell 7; have kf := kf.later hn; have f0 := kf.cell 0; have f1 := kf.cell 1; have KB := hid kb; clear k0 k1 kb hn))
              | (go_at_call 26; ((with_reducible refine (cQ s.f.id _ (HC.out _ hB2).2.2).mono ?_); rw [hB.out]; rintro e w3 ⟨rfl, hn⟩; have hB3 := hB2.trans (hn.mono hB2.size); obtain ⟨k0, k1, kb⟩ := HX.out _ hB3; have u0 := k1.cell 0; have u2 := k1.cell 2; have u3 := k1.cell 3; have u4 := k1.cell 4; have u7 := k1.cell 7; have kf := kf.later hn; have f0 := kf.cell 0; have f1 := kf.cell 1; have KB := hid kb; clear k0 k1 kb hn)))
            go_ret
            exact ⟨rfl, KB.out⟩
      by_cases h10 : s.op = 10
      · have d10 : (s.op == 10) = true := by simpa using h10
        have d1 : (s.op == 1) = false := by rw [h10]; rfl
        have d6 : (s.op == 6) = false := by rw [h10]; rfl
        have d8 : (s.op == 8) = false := by rw [h10]; rfl
        have d7 : (s.op == 7) = false := by rw [h10]; rfl
        have ef : nf s.op = false := by rw [h10]; rfl
        rw [ef] at cK
        obtain rfl : r = 0 := by rw [hN]; simp [nf, h10]
        clear hN h10
        go_enter Try.func24, Try.ntmps24
        go_wp2_with (first
          | (go_at_call 15; ((with_reducible refine cFi.mono ?_); rintro e w1 ⟨rfl, hb1⟩; obtain ⟨k0, k1, kb⟩ := HX.out _ hb1; have z1 := k0.cell 1; have y0 := k1.cell 0; have KB := hid kb; obtain ⟨c0, c1, cf⟩ := HC.out _ hb1; have hN1 := newB w1 (.cells #[.int .i64 p.id, .slice p.f p.fL.length p.fCap] 52); have hB1 := hb1.trans (hN1.mono hb1.size); have kf := Block.new w1 52 [.int .i64 p.id, .slice p.f p.fL.length p.fCap]; have kp := k1.later hN1; have u0 := kp.cell 0; have u2 := kp.cell 2; have u3 := kp.cell 3; have u4 := kp.cell 4; have u7 := kp.cell 7; have HB1 := hid hB1; clear k0 k1 kb hN1 cf))
          | (go_at_call 60; ((with_reducible refine (cK _).mono ?_); rintro e w2 ⟨rfl, hn⟩; have hB2 := HB1.out.trans (hn.mono HB1.out.size); obtain ⟨k0, k1, kb⟩ := HX.out _ hB2; have u0 := k1.cell 0; have u2 := k1.cell 2; have u3 := k1.cell 3; have u4 := k1.cell 4; have u7 := k1.cell 7; have kf := kf.later hn; have f0 := kf.cell 0; have f1 := kf.cell 1; have KB := hid kb; clear k0 k1 kb hn)))
        go_ret
        exact ⟨rfl, KB.out⟩
      by_cases h6 : s.op = 6
      · have d6 : (s.op == 6) = true := by simpa using h6
        have d1 : (s.op == 1) = false := by rw [h6]; rfl
        have d10 : (s.op == 10) = false := by rw [h6]; rfl
        have d8 : (s.op == 8) = false := by rw [h6]; rfl
        have d7 : (s.op == 7) = false := by rw [h6]; rfl
        have ef : nf s.op = true := by rw [h6]; rfl
        rw [ef] at cK
        by_cases hQ : A < 0
        · skip
          obtain rfl : r = 8 := by rw [hN]; simp [nf, h6, hQ]
          have gA : decide (A < 0) = true := by simpa using hQ
          clear hN h6 hQ
          go_enter Try.func24, Try.ntmps24
          go_wp2_with (first
            | (go_at_call 15; ((with_reducible refine cFi.mono ?_); rintro e w1 ⟨rfl, hb1⟩; obtain ⟨k0, k1, kb⟩ := HX.out _ hb1; have z1 := k0.cell 1; have y0 := k1.cell 0; have KB := hid kb; obtain ⟨c0, c1, cf⟩ := HC.out _ hb1; have hN1 := newB w1 (.cells #[.int .i64 p.id, .slice p.f p.fL.length p.fCap] 52); have hB1 := hb1.trans (hN1.mono hb1.size); have kf := Block.new w1 52 [.int .i64 p.id, .slice p.f p.fL.length p.fCap]; have kp := k1.later hN1; have u0 := kp.cell 0; have u2 := kp.cell 2; have u3 := kp.cell 3; have u4 := kp.cell 4; have u7 := kp.cell 7; have HB1 := hid hB1; clear k0 k1 kb hN1 cf))
            | (go_at_call 60; ((with_reducible refine (cK _).mono ?_); rintro e w2 ⟨rfl, hn⟩; have hB2 := HB1.out.trans (hn.mono HB1.out.size); obtain ⟨k0, k1, kb⟩ := HX.out _ hB2; have u0 := k1.cell 0; have u2 := k1.cell 2; have u3 := k1.cell 3; have u4 := k1.cell 4; have u7 := k1.cell 7; have kf := kf.later hn; have f0 := kf.cell 0; have f1 := kf.cell 1; have KB := hid kb; clear k0 k1 kb hn))
            | (go_at_call 26; ((with_reducible refine (cQ s.fd _ (HC.out _ hB2).2.2).mono ?_); rw [hA.out]; rintro e w3 ⟨rfl, hn⟩; have hB3 := hB2.trans (hn.mono hB2.size); obtain ⟨k0, k1, kb⟩ := HX.out _ hB3; have u0 := k1.cell 0; have u2 := k1.cell 2; have u3 := k1.cell 3; have u4 := k1.cell 4; have u7 := k1.cell 7; have kf := kf.later hn; have f0 := kf.cell 0; have f1 := kf.cell 1; have KB := hid kb; clear k0 k1 kb hn)))
          go_ret
          exact ⟨rfl, KB.out⟩
        · skip
          by_cases hP : 0 ≤ T
          · skip
            obtain rfl : r = 9 := by rw [hN]; simp [nf, h6, hQ, hP]
            have gA : decide (A < 0) = false := by simpa using hQ
            have gT : decide (T ≥ 0) = true := by simpa using hP
            clear hN h6 hP hQ
            go_enter Try.func24, Try.ntmps24
            go_wp2_with (first
              | (go_at_call 15; ((with_reducible refine cFi.mono ?_); rintro e w1 ⟨rfl, hb1⟩; obtain ⟨k0, k1, kb⟩ := HX.out _ hb1; have z1 := k0.cell 1; have y0 := k1.cell 0; have KB := hid kb; obtain ⟨c0, c1, cf⟩ := HC.out _ hb1; have hN1 := newB w1 (.cells #[.int .i64 p.id, .slice p.f p.fL.length p.fCap] 52); have hB1 := hb1.trans (hN1.mono hb1.size); have kf := Block.new w1 52 [.int .i64 p.id, .slice p.f p.fL.length p.fCap]; have kp := k1.later hN1; have u0 := kp.cell 0; have u2 := kp.cell 2; have u3 := kp.cell 3; have u4 := kp.cell 4; have u7 := kp.cell 7; have HB1 := hid hB1; clear k0 k1 kb hN1 cf))
              | (go_at_call 60; ((with_reducible refine (cK _).mono ?_); rintro e w2 ⟨rfl, hn⟩; have hB2 := HB1.out.trans (hn.mono HB1.out.size); obtain ⟨k0, k1, kb⟩ := HX.out _ hB2; have u0 := k1.cell 0; have u2 := k1.cell 2; have u3 := k1.cell 3; have u4 := k1.cell 4; have u7 := k1.cell 7; have kf := kf.later hn; have f0 := kf.cell 0; have f1 := kf.cell 1; have KB := hid kb; clear k0 k1 kb hn))
              | (go_at_call 26; ((with_reducible refine (cQ s.fd _ (HC.out _ hB2).2.2).mono ?_); rw [hA.out]; rintro e w3 ⟨rfl, hn⟩; have hB3 := hB2.trans (hn.mono hB2.size); obtain ⟨k0, k1, kb⟩ := HX.out _ hB3; have u0 := k1.cell 0; have u2 := k1.cell 2; have u3 := k1.cell 3; have u4 := k1.cell 4; have u7 := k1.cell 7; have kf := kf.later hn; have f0 := kf.cell 0; have f1 := kf.cell 1; have KB := hid kb; clear k0 k1 kb hn))
              | (go_at_call 26; ((with_reducible refine (cQ s.tt _ (HC.out _ hB3).2.2).mono ?_); rw [hT.out]; rintro e w4 ⟨rfl, hn⟩; have hB4 := hB3.trans (hn.mono hB3.size); obtain ⟨k0, k1, kb⟩ := HX.out _ hB4; have u0 := k1.cell 0; have u2 := k1.cell 2; have u3 := k1.cell 3; have u4 := k1.cell 4; have u7 := k1.cell 7; have kf := kf.later hn; have f0 := kf.cell 0; have f1 := kf.cell 1; have KB := hid kb; clear k0 k1 kb hn)))
            go_ret
            exact ⟨rfl, KB.out⟩
          · skip
            obtain rfl : r = 0 := by rw [hN]; simp [nf, h6, hQ, hP]
            have gA : decide (A < 0) = false := by simpa using hQ
            have gT : decide (T ≥ 0) = false := by simpa using hP
            clear hN h6 hP hQ
            go_enter Try.func24, Try.ntmps24
            go_wp2_with (first
              | (go_at_call 15; ((with_reducible refine cFi.mono ?_); rintro e w1 ⟨rfl, hb1⟩; obtain ⟨k0, k1, kb⟩ := HX.out _ hb1; have z1 := k0.cell 1; have y0 := k1.cell 0; have KB := hid kb; obtain ⟨c0, c1, cf⟩ := HC.out _ hb1; have hN1 := newB w1 (.cells #[.int .i64 p.id, .slice p.f p.fL.length p.fCap] 52); have hB1 := hb1.trans (hN1.mono hb1.size); have kf := Block.new w1 52 [.int .i64 p.id, .slice p.f p.fL.length p.fCap]; have kp := k1.later hN1; have u0 := kp.cell 0; have u2 := kp.cell 2; have u3 := kp.cell 3; have u4 := kp.cell 4; have u7 := kp.cell 7; have HB1 := hid hB1; clear k0 k1 kb hN1 cf))
              | (go_at_call 60; ((with_reducible refine (cK _).mono ?_); rintro e w2 ⟨rfl, hn⟩; have hB2 := HB1.out.trans (hn.mono HB1.out.size); obtain ⟨k0, k1, kb⟩ := HX.out _ hB2; have u0 := k1.cell 0; have u2 := k1.cell 2; have u3 := k1.cell 3; have u4 := k1.cell 4; have u7 := k1.cell 7; have kf := kf.later hn; have f0 := kf.cell 0; have f1 := kf.cell 1; have KB := hid kb; clear k0 k1 kb hn))
              | (go_at_call 26; ((with_reducible refine (cQ s.fd _ (HC.out _ hB2).2.2).mono ?_); rw [hA.out]; rintro e w3 ⟨rfl, hn⟩; have hB3 := hB2.trans (hn.mono hB2.size); obtain ⟨k0, k1, kb⟩ := HX.out _ hB3; have u0 := k1.cell 0; have u2 := k1.cell 2; have u3 := k1.cell 3; have u4 := k1.cell 4; have u7 := k1.cell 7; have kf := kf.later hn; have f0 := kf.cell 0; have f1 := kf.cell 1; have KB := hid kb; clear k0 k1 kb hn))
              | (go_at_call 26; ((with_reducible refine (cQ s.tt _ (HC.out _ hB3).2.2).mono ?_); rw [hT.out]; rintro e w4 ⟨rfl, hn⟩; have hB4 := hB3.trans (hn.mono hB3.size); obtain ⟨k0, k1, kb⟩ := HX.out _ hB4; have u0 := k1.cell 0; have u2 := k1.cell 2; have u3 := k1.cell 3; have u4 := k1.cell 4; have u7 := k1.cell 7; have kf := kf.later hn; have f0 := kf.cell 0; have f1 := kf.cell 1; have KB := hid kb; clear k0 k1 kb hn)))
            go_ret
            exact ⟨rfl, KB.out⟩
      by_cases h8 : s.op = 8
      · have d8 : (s.op == 8) = true := by simpa using h8
        have d1 : (s.op == 1) = false := by rw [h8]; rfl
        have d10 : (s.op == 10) = false := by rw [h8]; rfl
        have d6 : (s.op == 6) = false := by rw [h8]; rfl
        have d7 : (s.op == 7) = false := by rw [h8]; rfl
        have ef : nf s.op = true := by rw [h8]; rfl
        rw [ef] at cK
        by_cases hQ : A < 0
        · skip
          obtain rfl : r = 8 := by rw [hN]; simp [nf, h8, hQ]
          have gA : decide (A < 0) = true := by simpa using hQ
          clear hN h8 hQ
          go_enter Try.func24, Try.ntmps24
          go_wp2_with (first
            | (go_at_call 15; ((with_reducible refine cFi.mono ?_); rintro e w1 ⟨rfl, hb1⟩; obtain ⟨k0, k1, kb⟩ := HX.out _ hb1; have z1 := k0.cell 1; have y0 := k1.cell 0; have KB := hid kb; obtain ⟨c0, c1, cf⟩ := HC.out _ hb1; have hN1 := newB w1 (.cells #[.int .i64 p.id, .slice p.f p.fL.length p.fCap] 52); have hB1 := hb1.trans (hN1.mono hb1.size); have kf := Block.new w1 52 [.int .i64 p.id, .slice p.f p.fL.length p.fCap]; have kp := k1.later hN1; have u0 := kp.cell 0; have u2 := kp.cell 2; have u3 := kp.cell 3; have u4 := kp.cell 4; have u7 := kp.cell 7; have HB1 := hid hB1; clear k0 k1 kb hN1 cf))
            | (go_at_call 60; ((with_reducible refine (cK _).mono ?_); rintro e w2 ⟨rfl, hn⟩; have hB2 := HB1.out.trans (hn.mono HB1.out.size); obtain ⟨k0, k1, kb⟩ := HX.out _ hB2; have u0 := k1.cell 0; have u2 := k1.cell 2; have u3 := k1.cell 3; have u4 := k1.cell 4; have u7 := k1.cell 7; have kf := kf.later hn; have f0 := kf.cell 0; have f1 := kf.cell 1; have KB := hid kb; clear k0 k1 kb hn))
            | (go_at_call 26; ((with_reducible refine (cQ s.fd _ (HC.out _ hB2).2.2).mono ?_); rw [hA.out]; rintro e w3 ⟨rfl, hn⟩; have hB3 := hB2.trans (hn.mono hB2.size); obtain ⟨k0, k1, kb⟩ := HX.out _ hB3; have u0 := k1.cell 0; have u2 := k1.cell 2; have u3 := k1.cell 3; have u4 := k1.cell 4; have u7 := k1.cell 7; have kf := kf.later hn; have f0 := kf.cell 0; have f1 := kf.cell 1; have KB := hid kb; clear k0 k1 kb hn)))
          go_ret
          exact ⟨rfl, KB.out⟩
        · skip
          by_cases hP : 0 ≤ T
          · skip
            obtain rfl : r = 9 := by rw [hN]; simp [nf, h8, hQ, hP]
            have gA : decide (A < 0) = false := by simpa using hQ
            have gT : decide (T ≥ 0) = true := by simpa using hP
            clear hN h8 hP hQ
            go_enter Try.func24, Try.ntmps24
            go_wp2_with (first
              | (go_at_call 15; ((with_reducible refine cFi.mono ?_); rintro e w1 ⟨rfl, hb1⟩; obtain ⟨k0, k1, kb⟩ := HX.out _ hb1; have z1 := k0.cell 1; have y0 := k1.cell 0; have KB := hid kb; obtain ⟨c0, c1, cf⟩ := HC.out _ hb1; have hN1 := newB w1 (.cells #[.int .i64 p.id, .slice p.f p.fL.length p.fCap] 52); have hB1 := hb1.trans (hN1.mono hb1.size); have kf := Block.new w1 52 [.int .i64 p.id, .slice p.f p.fL.length p.fCap]; have kp := k1.later hN1; have u0 := kp.cell 0; have u2 := kp.cell 2; have u3 := kp.cell 3; have u4 := kp.cell 4; have u7 := kp.cell 7; have HB1 := hid hB1; clear k0 k1 kb hN1 cf))
              | (go_at_call 60; ((with_reducible refine (cK _).mono ?_); rintro e w2 ⟨rfl, hn⟩; have hB2 := HB1.out.trans (hn.mono HB1.out.size); obtain ⟨k0, k1, kb⟩ := HX.out _ hB2; have u0 := k1.cell 0; have u2 := k1.cell 2; have u3 := k1.cell 3; have u4 := k1.cell 4; have u7 := k1.cell 7; have kf := kf.later hn; have f0 := kf.cell 0; have f1 := kf.cell 1; have KB := hid kb; clear k0 k1 kb hn))
              | (go_at_call 26; ((with_reducible refine (cQ s.fd _ (HC.out _ hB2).2.2).mono ?_); rw [hA.out]; rintro e w3 ⟨rfl, hn⟩; have hB3 := hB2.trans (hn.mono hB2.size); obtain ⟨k0, k1, kb⟩ := HX.out _ hB3; have u0 := k1.cell 0; have u2 := k1.cell 2; have u3 := k1.cell 3; have u4 := k1.cell 4; have u7 := k1.cell 7; have kf := kf.later hn; have f0 := kf.cell 0; have f1 := kf.cell 1; have KB := hid kb; clear k0 k1 kb hn))
              | (go_at_call 26; ((with_reducible refine (cQ s.tt _ (HC.out _ hB3).2.2).mono ?_); rw [hT.out]; rintro e w4 ⟨rfl, hn⟩; have hB4 := hB3.trans (hn.mono hB3.size); obtain ⟨k0, k1, kb⟩ := HX.out _ hB4; have u0 := k1.cell 0; have u2 := k1.cell 2; have u3 := k1.cell 3; have u4 := k1.cell 4; have u7 := k1.cell 7; have kf := kf.later hn; have f0 := kf.cell 0; have f1 := kf.cell 1; have KB := hid kb; clear k0 k1 kb hn)))
            go_ret
            exact ⟨rfl, KB.out⟩
          · skip
            obtain rfl : r = 0 := by rw [hN]; simp [nf, h8, hQ, hP]
            have gA : decide (A < 0) = false := by simpa using hQ
            have gT : decide (T ≥ 0) = false := by simpa using hP
            clear hN h8 hP hQ
            go_enter Try.func24, Try.ntmps24
            go_wp2_with (first
              | (go_at_call 15; ((with_reducible refine cFi.mono ?_); rintro e w1 ⟨rfl, hb1⟩; obtain ⟨k0, k1, kb⟩ := HX.out _ hb1; have z1 := k0.cell 1; have y0 := k1.cell 0; have KB := hid kb; obtain ⟨c0, c1, cf⟩ := HC.out _ hb1; have hN1 := newB w1 (.cells #[.int .i64 p.id, .slice p.f p.fL.length p.fCap] 52); have hB1 := hb1.trans (hN1.mono hb1.size); have kf := Block.new w1 52 [.int .i64 p.id, .slice p.f p.fL.length p.fCap]; have kp := k1.later hN1; have u0 := kp.cell 0; have u2 := kp.cell 2; have u3 := kp.cell 3; have u4 := kp.cell 4; have u7 := kp.cell 7; have HB1 := hid hB1; clear k0 k1 kb hN1 cf))
              | (go_at_call 60; ((with_reducible refine (cK _).mono ?_); rintro e w2 ⟨rfl, hn⟩; have hB2 := HB1.out.trans (hn.mono HB1.out.size); obtain ⟨k0, k1, kb⟩ := HX.out _ hB2; have u0 := k1.cell 0; have u2 := k1.cell 2; have u3 := k1.cell 3; have u4 := k1.cell 4; have u7 := k1.cell 7; have kf := kf.later hn; have f0 := kf.cell 0; have f1 := kf.cell 1; have KB := hid kb; clear k0 k1 kb hn))
              | (go_at_call 26; ((with_reducible refine (cQ s.fd _ (HC.out _ hB2).2.2).mono ?_); rw [hA.out]; rintro e w3 ⟨rfl, hn⟩; have hB3 := hB2.trans (hn.mono hB2.size); obtain ⟨k0, k1, kb⟩ := HX.out _ hB3; have u0 := k1.cell 0; have u2 := k1.cell 2; have u3 := k1.cell 3; have u4 := k1.cell 4; have u7 := k1.cell 7; have kf := kf.later hn; have f0 := kf.cell 0; have f1 := kf.cell 1; have KB := hid kb; clear k0 k1 kb hn))
              | (go_at_call 26; ((with_reducible refine (cQ s.tt _ (HC.out _ hB3).2.2).mono ?_); rw [hT.out]; rintro e w4 ⟨rfl, hn⟩; have hB4 := hB3.trans (hn.mono hB3.size); obtain ⟨k0, k1, kb⟩ := HX.out _ hB4; have u0 := k1.cell 0; have u2 := k1.cell 2; have u3 := k1.cell 3; have u4 := k1.cell 4; have u7 := k1.cell 7; have kf := kf.later hn; have f0 := kf.cell 0; have f1 := kf.cell 1; have KB := hid kb; clear k0 k1 kb hn)))
            go_ret
            exact ⟨rfl, KB.out⟩
      by_cases h7 : s.op = 7
      · have d7 : (s.op == 7) = true := by simpa using h7
        have d1 : (s.op == 1) = false := by rw [h7]; rfl
        have d10 : (s.op == 10) = false := by rw [h7]; rfl
        have d6 : (s.op == 6) = false := by rw [h7]; rfl
        have d8 : (s.op == 8) = false := by rw [h7]; rfl
        have ef : nf s.op = true := by rw [h7]; rfl
        rw [ef] at cK
        by_cases hQ : A < 0
        · skip
          obtain rfl : r = 8 := by rw [hN]; simp [nf, h7, hQ]
          have gA : decide (A < 0) = true := by simpa using hQ
          clear hN h7 hQ
          go_enter Try.func24, Try.ntmps24
          go_wp2_with (first
            | (go_at_call 15; ((with_reducible refine cFi.mono ?_); rintro e w1 ⟨rfl, hb1⟩; obtain ⟨k0, k1, kb⟩ := HX.out _ hb1; have z1 := k0.cell 1; have y0 := k1.cell 0; have KB := hid kb; obtain ⟨c0, c1, cf⟩ := HC.out _ hb1; have hN1 := newB w1 (.cells #[.int .i64 p.id, .slice p.f p.fL.length p.fCap] 52); have hB1 := hb1.trans (hN1.mono hb1.size); have kf := Block.new w1 52 [.int .i64 p.id, .slice p.f p.fL.length p.fCap]; have kp := k1.later hN1; have u0 := kp.cell 0; have u2 := kp.cell 2; have u3 := kp.cell 3; have u4 := kp.cell 4; have u7 := kp.cell 7; have HB1 := hid hB1; clear k0 k1 kb hN1 cf))
            | (go_at_call 60; ((with_reducible refine (cK _).mono ?_); rintro e w2 ⟨rfl, hn⟩; have hB2 := HB1.out.trans (hn.mono HB1.out.size); obtain ⟨k0, k1, kb⟩ := HX.out _ hB2; have u0 := k1.cell 0; have u2 := k1.cell 2; have u3 := k1.cell 3; have u4 := k1.cell 4; have u7 := k1.cell 7; have kf := kf.later hn; have f0 := kf.cell 0; have f1 := kf.cell 1; have KB := hid kb; clear k0 k1 kb hn))
            | (go_at_call 26; ((with_reducible refine (cQ s.fd _ (HC.out _ hB2).2.2).mono ?_); rw [hA.out]; rintro e w3 ⟨rfl, hn⟩; have hB3 := hB2.trans (hn.mono hB2.size); obtain ⟨k0, k1, kb⟩ := HX.out _ hB3; have u0 := k1.cell 0; have u2 := k1.cell 2; have u3 := k1.cell 3; have u4 := k1.cell 4; have u7 := k1.cell 7; have kf := kf.later hn; have f0 := kf.cell 0; have f1 := kf.cell 1; have KB := hid kb; clear k0 k1 kb hn)))
          go_ret
          exact ⟨rfl, KB.out⟩
        · skip
          by_cases hP : (p.fL.length : Int) ≤ s.pl
          · skip
            obtain rfl : r = 3 := by rw [hN]; simp [nf, h7, hQ, hP]
            have gA : decide (A < 0) = false := by simpa using hQ
            have gP : decide (s.pl ≥ (p.fL.length : Int)) = true := by simpa using hP
            clear hN h7 hP hQ
            go_enter Try.func24, Try.ntmps24
            go_wp2_with (first
              | (go_at_call 15; ((with_reducible refine cFi.mono ?_); rintro e w1 ⟨rfl, hb1⟩; obtain ⟨k0, k1, kb⟩ := HX.out _ hb1; have z1 := k0.cell 1; have y0 := k1.cell 0; have KB := hid kb; obtain ⟨c0, c1, cf⟩ := HC.out _ hb1; have hN1 := newB w1 (.cells #[.int .i64 p.id, .slice p.f p.fL.length p.fCap] 52); have hB1 := hb1.trans (hN1.mono hb1.size); have kf := Block.new w1 52 [.int .i64 p.id, .slice p.f p.fL.length p.fCap]; have kp := k1.later hN1; have u0 := kp.cell 0; have u2 := kp.cell 2; have u3 := kp.cell 3; have u4 := kp.cell 4; have u7 := kp.cell 7; have HB1 := hid hB1; clear k0 k1 kb hN1 cf))
              | (go_at_call 60; ((with_reducible refine (cK _).mono ?_); rintro e w2 ⟨rfl, hn⟩; have hB2 := HB1.out.trans (hn.mono HB1.out.size); obtain ⟨k0, k1, kb⟩ := HX.out _ hB2; have u0 := k1.cell 0; have u2 := k1.cell 2; have u3 := k1.cell 3; have u4 := k1.cell 4; have u7 := k1.cell 7; have kf := kf.later hn; have f0 := kf.cell 0; have f1 := kf.cell 1; have KB := hid kb; clear k0 k1 kb hn))
              | (go_at_call 26; ((with_reducible refine (cQ s.fd _ (HC.out _ hB2).2.2).mono ?_); rw [hA.out]; rintro e w3 ⟨rfl, hn⟩; have hB3 := hB2.trans (hn.mono hB2.size); obtain ⟨k0, k1, kb⟩ := HX.out _ hB3; have u0 := k1.cell 0; have u2 := k1.cell 2; have u3 := k1.cell 3; have u4 := k1.cell 4; have u7 := k1.cell 7; have kf := kf.later hn; have f0 := kf.cell 0; have f1 := kf.cell 1; have KB := hid kb; clear k0 k1 kb hn)))
            go_ret
            exact ⟨rfl, KB.out⟩
          · skip
            obtain rfl : r = 0 := by rw [hN]; simp [nf, h7, hQ, hP]
            have gA : decide (A < 0) = false := by simpa using hQ
            have gP : decide (s.pl ≥ (p.fL.length : Int)) = false := by simpa using hP
            clear hN h7 hP hQ
            go_enter Try.func24, Try.ntmps24
            go_wp2_with (first
              | (go_at_call 15; ((with_reducible refine cFi.mono ?_); rintro e w1 ⟨rfl, hb1⟩; obtain ⟨k0, k1, kb⟩ := HX.out _ hb1; have z1 := k0.cell 1; have y0 := k1.cell 0; have KB := hid kb; obtain ⟨c0, c1, cf⟩ := HC.out _ hb1; have hN1 := newB w1 (.cells #[.int .i64 p.id, .slice p.f p.fL.length p.fCap] 52); have hB1 := hb1.trans (hN1.mono hb1.size); have kf := Block.new w1 52 [.int .i64 p.id, .slice p.f p.fL.length p.fCap]; have kp := k1.later hN1; have u0 := kp.cell 0; have u2 := kp.cell 2; have u3 := kp.cell 3; have u4 := kp.cell 4; have u7 := kp.cell 7; have HB1 := hid hB1; clear k0 k1 kb hN1 cf))
              | (go_at_call 60; ((with_reducible refine (cK _).mono ?_); rintro e w2 ⟨rfl, hn⟩; have hB2 := HB1.out.trans (hn.mono HB1.out.size); obtain ⟨k0, k1, kb⟩ := HX.out _ hB2; have u0 := k1.cell 0; have u2 := k1.cell 2; have u3 := k1.cell 3; have u4 := k1.cell 4; have u7 := k1.cell 7; have kf := kf.later hn; have f0 := kf.cell 0; have f1 := kf.cell 1; have KB := hid kb; clear k0 k1 kb hn))
              | (go_at_call 26; ((with_reducible refine (cQ s.fd _ (HC.out _ hB2).2.2).mono ?_); rw [hA.out]; rintro e w3 ⟨rfl, hn⟩; have hB3 := hB2.trans (hn.mono hB2.size); obtain ⟨k0, k1, kb⟩ := HX.out _ hB3; have u0 := k1.cell 0; have u2 := k1.cell 2; have u3 := k1.cell 3; have u4 := k1.cell 4; have u7 := k1.cell 7; have kf := kf.later hn; have f0 := kf.cell 0; have f1 := kf.cell 1; have KB := hid kb; clear k0 k1 kb hn)))
            go_ret
            exact ⟨rfl, KB.out⟩
      have d1 : (s.op == 1) = false := by simpa using h1
      have d10 : (s.op == 10) = false := by simpa using h10
      have d6 : (s.op == 6) = false := by simpa using h6
      have d8 : (s.op == 8) = false := by simpa using h8
      have d7 : (s.op == 7) = false := by simpa using h7
      have ef : nf s.op = true := by simp [nf, h1, h9, h10]
      rw [ef] at cK
      by_cases hQ : A < 0
      · skip
        obtain rfl : r = 8 := by rw [hN]; simp [nf, h1, h10, h6, h8, h7, h9, hQ]
        have gA : decide (A < 0) = true := by simpa using hQ
        clear hN h1 h10 h6 h7 h8 h9 hQ
        go_enter Try.func24, Try.ntmps24
        go_wp2_with (first
          | (go_at_call 15; ((with_reducible refine cFi.mono ?_); rintro e w1 ⟨rfl, hb1⟩; obtain ⟨k0, k1, kb⟩ := HX.out _ hb1; have z1 := k0.cell 1; have y0 := k1.cell 0; have KB := hid kb; obtain ⟨c0, c1, cf⟩ := HC.out _ hb1; have hN1 := newB w1 (.cells #[.int .i64 p.id, .slice p.f p.fL.length p.fCap] 52); have hB1 := hb1.trans (hN1.mono hb1.size); have kf := Block.new w1 52 [.int .i64 p.id, .slice p.f p.fL.length p.fCap]; have kp := k1.later hN1; have u0 := kp.cell 0; have u2 := kp.cell 2; have u3 := kp.cell 3; have u4 := kp.cell 4; have u7 := kp.cell 7; have HB1 := hid hB1; clear k0 k1 kb hN1 cf))
          | (go_at_call 60; ((with_reducible refine (cK _).mono ?_); rintro e w2 ⟨rfl, hn⟩; have hB2 := HB1.out.trans (hn.mono HB1.out.size); obtain ⟨k0, k1, kb⟩ := HX.out _ hB2; have u0 := k1.cell 0; have u2 := k1.cell 2; have u3 := k1.cell 3; have u4 := k1.cell 4; have u7 := k1.cell 7; have kf := kf.later hn; have f0 := kf.cell 0; have f1 := kf.cell 1; have KB := hid kb; clear k0 k1 kb hn))
          | (go_at_call 26; ((with_reducible refine (cQ s.fd _ (HC.out _ hB2).2.2).mono ?_); rw [hA.out]; rintro e w3 ⟨rfl, hn⟩; have hB3 := hB2.trans (hn.mono hB2.size); obtain ⟨k0, k1, kb⟩ := HX.out _ hB3; have u0 := k1.cell 0; have u2 := k1.cell 2; have u3 := k1.cell 3; have u4 := k1.cell 4; have u7 := k1.cell 7; have kf := kf.later hn; have f0 := kf.cell 0; have f1 := kf.cell 1; have KB := hid kb; clear k0 k1 kb hn)))
        go_ret
        exact ⟨rfl, KB.out⟩
      · skip
        obtain rfl : r = 0 := by rw [hN]; simp [nf, h1, h10, h6, h8, h7, h9, hQ]
        have gA : decide (A < 0) = false := by simpa using hQ
        clear hN h1 h10 h6 h7 h8 h9 hQ
        go_enter Try.func24, Try.ntmps24
        go_wp2_with (first
          | (go_at_call 15; ((with_reducible refine cFi.mono ?_); rintro e w1 ⟨rfl, hb1⟩; obtain ⟨k0, k1, kb⟩ := HX.out _ hb1; have z1 := k0.cell 1; have y0 := k1.cell 0; have KB := hid kb; obtain ⟨c0, c1, cf⟩ := HC.out _ hb1; have hN1 := newB w1 (.cells #[.int .i64 p.id, .slice p.f p.fL.length p.fCap] 52); have hB1 := hb1.trans (hN1.mono hb1.size); have kf := Block.new w1 52 [.int .i64 p.id, .slice p.f p.fL.length p.fCap]; have kp := k1.later hN1; have u0 := kp.cell 0; have u2 := kp.cell 2; have u3 := kp.cell 3; have u4 := kp.cell 4; have u7 := kp.cell 7; have HB1 := hid hB1; clear k0 k1 kb hN1 cf))
          | (go_at_call 60; ((with_reducible refine (cK _).mono ?_); rintro e w2 ⟨rfl, hn⟩; have hB2 := HB1.out.trans (hn.mono HB1.out.size); obtain ⟨k0, k1, kb⟩ := HX.out _ hB2; have u0 := k1.cell 0; have u2 := k1.cell 2; have u3 := k1.cell 3; have u4 := k1.cell 4; have u7 := k1.cell 7; have kf := kf.later hn; have f0 := kf.cell 0; have f1 := kf.cell 1; have KB := hid kb; clear k0 k1 kb hn))
          | (go_at_call 26; ((with_reducible refine (cQ s.fd _ (HC.out _ hB2).2.2).mono ?_); rw [hA.out]; rintro e w3 ⟨rfl, hn⟩; have hB3 := hB2.trans (hn.mono hB2.size); obtain ⟨k0, k1, kb⟩ := HX.out _ hB3; have u0 := k1.cell 0; have u2 := k1.cell 2; have u3 := k1.cell 3; have u4 := k1.cell 4; have u7 := k1.cell 7; have kf := kf.later hn; have f0 := kf.cell 0; have f1 := kf.cell 1; have KB := hid kb; clear k0 k1 kb hn)))
        go_ret
        exact ⟨rfl, KB.out⟩
end Go.Proofs.Ytiajpjkkopdmgaa.typing
