/- Contracts and lemmas that the claims of this seat share: TypingRefNames, TypingRefPut. Each says its own conditions. -/
import Derived.Test.YtaciegkblklokaaGreatCmC
import Derived.Test.YtaciegkblklokaaGreatCmK
import Derived.Test.YtaciegkblklokaaGreatCmS
import Derived.Test.YtaciegkblklokaaGreatCmH
import Derived.Test.YtaciegkblklokaaGreatCmF
import Derived.Conc.WalkWords
set_option linter.unusedSimpArgs false
set_option linter.unusedVariables false
namespace Go.Proofs.YtaciegkblklokaaGreat.typing
open Go.RowKit Go.Proofs.YtaciegkblklokaaGreat.schema
open Go.Proofs.YtaciegkblklokaaGreat.field (Gives newB gives_from)
open Go.Proofs.YtaciegkblklokaaGreat.step (Lists)
theorem refField_any (n : Int) (w : World) : Calls Tryz.prog 76 #[.int .i64 n] w (Gives (.bool (nf n)) w) := by
 unfold nf Gives
 by_cases h1 : n = 1
 ·subst h1
  go_enter Tryz.func76, Tryz.ntmps76
  go_wp2
  go_ret
  exact ⟨rfl, Below.refl _ _⟩
 by_cases h9 : n = 9
 ·subst h9
  go_enter Tryz.func76, Tryz.ntmps76
  go_wp2
  go_ret
  exact ⟨rfl, Below.refl _ _⟩
 have d1 : (n != 1) = true := by simpa using h1
 have d9 : (n != 9) = true := by simpa using h9
 obtain ⟨r, hr⟩ : ∃ r : Bool, (n != 10) = r := ⟨_, rfl⟩
 have hR : decide (n ≠ 1 ∧ n ≠ 9 ∧ n ≠ 10) = r := by rw [← hr]; by_cases h : n = 10 <;> simp [h1, h9, h]
 rw [hR]
 clear hR h1 h9
 go_enter Tryz.func76, Tryz.ntmps76
 go_wp2
 go_ret
 exact ⟨rfl, Below.refl _ _⟩
theorem named_at (F : List schema.Form) (x : Int) : (named F x = none ∧ firstAt (F.map (·.1)) x = -1) ∨ ∃ p, ∃ j : Nat, named F x = some p ∧ firstAt (F.map (·.1)) x = (j : Int) ∧ F[j]? = some p := by
 cases hn : named F x with
 | none => exact .inl ⟨rfl, firstAt_neg1 (named_none hn)⟩
 | some p =>
  refine .inr ⟨p, (F.map (·.1)).idxOf x, rfl, ?_, ?_⟩
  ·have := named_some hn
   unfold firstAt
   rw [if_pos (this.2 ▸ List.mem_map_of_mem this.1)]
  ·unfold named at hn
   induction F with
   | nil => simp at hn
   | cons q r ih =>
    rw [List.find?_cons] at hn
    by_cases hq : q.1 = x
    ·simp [hq] at hn
     subst hn
     simp [hq]
    ·have hb : (q.1 == x) = false := by simpa using hq
     rw [hb] at hn
     have := ih hn
     rw [List.map_cons, List.idxOf_cons, hb]
     exact this
set_option maxRecDepth 20000 in
set_option maxHeartbeats 3200000 in
theorem refNames_any (v : Int) (a : Option Addr) (cap : Nat) (F : List Fm) (s : step.Sp) (ta : Option Addr) (tc : Nat) (la : Option Addr) (lc : Nat) (w : World) (h : FmL w a F) (hF : F.length ≤ maxLen) :
  Calls Tryz.prog 44 #[zS v a F.length cap, zP s ta tc la lc] w (Gives (.int .i64 (names (forms F) s : Nat)) w) := by
 have hw : Below w.heap.size w ((w.alloc (.cells (zS v a F.length cap) 24)).alloc (.cells (zP s ta tc la lc) 32)) := by
  have h1 := newB w (.cells (zS v a F.length cap) 24)
  exact h1.alloc h1.size _
 have hA : Block ((w.alloc (.cells (zS v a F.length cap) 24)).alloc (.cells (zP s ta tc la lc) 32)) w.heap.size 24 (zS v a F.length cap) := (Block.new w _ _).alloc _
 have hU : Block ((w.alloc (.cells (zS v a F.length cap) 24)).alloc (.cells (zP s ta tc la lc) 32)) (w.heap.size + 1) 32 (zP s ta tc la lc) := by
  have := Block.new ((w.alloc (.cells (zS v a F.length cap) 24))) 32 (zP s ta tc la lc)
  simpa using this
 have hf0 := h.below hw
 have cFi := refFind_any v a cap F s.fm _ hf0 hF
 have HX : Hid (∀ w', Below ((w.alloc (.cells (zS v a F.length cap) 24)).alloc (.cells (zP s ta tc la lc) 32)).heap.size ((w.alloc (.cells (zS v a F.length cap) 24)).alloc (.cells (zP s ta tc la lc) 32)) w' → Block w' w.heap.size 24 (zS v a F.length cap) ∧ Block w' (w.heap.size + 1) 32 (zP s ta tc la lc) ∧ Below w.heap.size w w') := hid (fun w' hb => ⟨hA.later hb, hU.later hb, hw.trans (hb.mono hw.size)⟩)
 have HF := hid hf0
 have cK := fun w' => refField_any s.op w'
 rw [fids_forms] at cFi
 unfold Gives at cFi cK ⊢
 clear h hA hU hw hf0
 rcases named_at (forms F) s.fm with ⟨hn, hx⟩ | ⟨p0, j, hn, hx, hj⟩
 ·rw [hx] at cFi
  by_cases h9 : s.op = 9
  ·have d9 : (s.op == 9) = true := by simpa using h9
   rw [show names (forms F) s = 0 by unfold names; rw [if_pos h9, hn]; rfl]
   clear hn hx h9
   go_enter Tryz.func44, Tryz.ntmps44
   go_wp2_with (first
    | (go_at_call 22; ((with_reducible refine cFi.mono ?_); rintro e w1 ⟨rfl, hb1⟩; obtain ⟨k0, k1, kb⟩ := HX.out _ hb1; have z1 := k0.cell 1; have y0 := k1.cell 0; have KB := hid kb)))
   go_ret
   exact ⟨rfl, KB.out⟩
  ·have d9 : (s.op == 9) = false := by simpa using h9
   rw [show names (forms F) s = 8 by unfold names; rw [if_neg h9, hn]]
   clear hn hx h9
   go_enter Tryz.func44, Tryz.ntmps44
   go_wp2_with (first
    | (go_at_call 22; ((with_reducible refine cFi.mono ?_); rintro e w1 ⟨rfl, hb1⟩; obtain ⟨k0, k1, kb⟩ := HX.out _ hb1; have z1 := k0.cell 1; have y0 := k1.cell 0; have KB := hid kb)))
   go_ret
   exact ⟨rfl, KB.out⟩
 ·rw [hx] at cFi
  by_cases h9 : s.op = 9
  ·have d9 : (s.op == 9) = true := by simpa using h9
   rw [show names (forms F) s = 9 by unfold names; rw [if_pos h9, hn]; rfl]
   have g0 : decide ((j : Int) ≥ 0) = true := by simp
   clear hn hx h9
   go_enter Tryz.func44, Tryz.ntmps44
   go_wp2_with (first
    | (go_at_call 22; ((with_reducible refine cFi.mono ?_); rintro e w1 ⟨rfl, hb1⟩; obtain ⟨k0, k1, kb⟩ := HX.out _ hb1; have z1 := k0.cell 1; have y0 := k1.cell 0; have KB := hid kb)))
   go_ret
   exact ⟨rfl, KB.out⟩
  ·have d9 : (s.op == 9) = false := by simpa using h9
   have hN : names (forms F) s = if nf s.op = true ∧ firstAt (ids p0.2) s.fd < 0 then 8 else if (s.op = 1 ∧ 0 ≤ firstAt (ids p0.2) s.f.id) ∨ ((s.op = 6 ∨ s.op = 8) ∧ 0 ≤ firstAt (ids p0.2) s.tt) then 9
      else if (s.op = 1 ∧ (p0.2.length : Int) < s.pl) ∨ (s.op = 7 ∧ (p0.2.length : Int) ≤ s.pl) then 3 else 0 := by unfold names; rw [if_neg h9, hn]
   have g0 : decide ((j : Int) < 0) = false := by simp
   have hjl : j < F.length := by have := (List.getElem?_eq_some_iff.1 hj).1; rwa [forms_length] at this
   obtain ⟨b, off, p, ha, hbl, hp, _, _, _, hpl⟩ := form_at HF.out (Below.refl _ _) hjl
   obtain rfl : p0 = p.p := by have := forms_at hp; rw [hj] at this; exact Option.some.inj this
   have i1 : (j : Int) < F.length := by omega
   have hml : (F.length : Int) ≤ 9223372036854775807 := by unfold maxLen at hF; omega
   have hpm : (p.fL.length : Int) ≤ 9223372036854775807 := by unfold maxLen at hpl; omega
   have HC : Hid (∀ w', Below ((w.alloc (.cells (zS v a F.length cap) 24)).alloc (.cells (zP s ta tc la lc) 32)).heap.size ((w.alloc (.cells (zS v a F.length cap) 24)).alloc (.cells (zP s ta tc la lc) 32)) w' → w'.cell? ⟨b, off + j * 2, none⟩ = some (.int .i64 p.id) ∧ w'.cell? ⟨b, off + j * 2 + 1, none⟩ = some (.slice p.f p.fL.length p.fCap) ∧ field.Fds w' p.f p.fL) := hid (fun w' hb => by
    obtain ⟨b2, off2, p2, he, _, hp2, e0, e1, e2, _⟩ := form_at HF.out hb hjl
    cases ha.symm.trans he
    rw [hp] at hp2
    cases hp2
    exact ⟨e0, e1, e2⟩)
   subst ha
   have HM := hid hpm
   have HML := hid (show p.fL.length ≤ maxLen from hpl)
   change names (forms F) s = if nf s.op = true ∧ firstAt (ids p.fL) s.fd < 0 then 8 else if (s.op = 1 ∧ 0 ≤ firstAt (ids p.fL) s.f.id) ∨ ((s.op = 6 ∨ s.op = 8) ∧ 0 ≤ firstAt (ids p.fL) s.tt) then 9
      else if (s.op = 1 ∧ (p.fL.length : Int) < s.pl) ∨ (s.op = 7 ∧ (p.fL.length : Int) ≤ s.pl) then 3 else 0 at hN
   clear hn hx hj hp hpl hbl
   have cQ := fun (x : Int) (w' : World) (hb : field.Fds w' p.f p.fL) => refAt_any p.id p.f p.fCap p.fL x w' hb HML.out
   unfold Gives at cQ
   obtain ⟨r, hr⟩ : ∃ r : Nat, names (forms F) s = r := ⟨_, rfl⟩
   rw [hr] at hN ⊢
   obtain ⟨A, hA⟩ : ∃ A, Hid (firstAt (ids p.fL) s.fd = A) := ⟨_, rfl⟩
   obtain ⟨B, hB⟩ : ∃ B, Hid (firstAt (ids p.fL) s.f.id = B) := ⟨_, rfl⟩
   obtain ⟨T, hT⟩ : ∃ T, Hid (firstAt (ids p.fL) s.tt = T) := ⟨_, rfl⟩
   rw [hA.out, hB.out, hT.out] at hN
   clear hr
   by_cases h1 : s.op = 1
   ·have d1 : (s.op == 1) = true := by simpa using h1
    have d10 : (s.op == 10) = false := by rw [h1]; rfl
    have d6 : (s.op == 6) = false := by rw [h1]; rfl
    have d8 : (s.op == 8) = false := by rw [h1]; rfl
    have d7 : (s.op == 7) = false := by rw [h1]; rfl
    have ef : nf s.op = false := by rw [h1]; rfl
    rw [ef] at cK
    by_cases hQ : 0 ≤ B
    ·skip
     obtain rfl : r = 9 := by rw [hN]; simp [nf, h1, hQ]
     have gB : decide (B ≥ 0) = true := by simpa using hQ
     clear hN h1 hQ
     go_enter Tryz.func44, Tryz.ntmps44
     go_wp2_with (first
      | (go_at_call 22; ((with_reducible refine cFi.mono ?_); rintro e w1 ⟨rfl, hb1⟩; obtain ⟨k0, k1, kb⟩ := HX.out _ hb1; have z1 := k0.cell 1; have y0 := k1.cell 0; have KB := hid kb; obtain ⟨c0, c1, cf⟩ := HC.out _ hb1; have hN1 := newB w1 (.cells (zS p.id p.f p.fL.length p.fCap) 58); have hB1 := hb1.trans (hN1.mono hb1.size); have kf := Block.new w1 58 (zS p.id p.f p.fL.length p.fCap); have kp := k1.later hN1; have u0 := kp.cell 0; have u2 := kp.cell 2; have u3 := kp.cell 3; have u4 := kp.cell 4; have u7 := kp.cell 7; have HB1 := hid hB1; clear k0 k1 kb hN1 cf))
      | (go_at_call 76; ((with_reducible refine (cK _).mono ?_); rintro e w2 ⟨rfl, hn⟩; have hB2 := HB1.out.trans (hn.mono HB1.out.size); obtain ⟨k0, k1, kb⟩ := HX.out _ hB2; have u0 := k1.cell 0; have u2 := k1.cell 2; have u3 := k1.cell 3; have u4 := k1.cell 4; have u7 := k1.cell 7; have kf := kf.later hn; have f0 := kf.cell 0; have f1 := kf.cell 1; have KB := hid kb; clear k0 k1 kb hn))
      | (go_at_call 23; ((with_reducible refine (cQ s.f.id _ (HC.out _ hB2).2.2).mono ?_); rw [hB.out]; rintro e w3 ⟨rfl, hn⟩; have hB3 := hB2.trans (hn.mono hB2.size); obtain ⟨k0, k1, kb⟩ := HX.out _ hB3; have u0 := k1.cell 0; have u2 := k1.cell 2; have u3 := k1.cell 3; have u4 := k1.cell 4; have u7 := k1.cell 7; have kf := kf.later hn; have f0 := kf.cell 0; have f1 := kf.cell 1; have KB := hid kb; clear k0 k1 kb hn)))
     go_ret
     exact ⟨rfl, KB.out⟩
    ·skip
     by_cases hP : (p.fL.length : Int) < s.pl
     ·skip
      obtain rfl : r = 3 := by rw [hN]; simp [nf, h1, hQ, hP]
      have gB : decide (B ≥ 0) = false := by simpa using hQ
      have gP : decide (s.pl > (p.fL.length : Int)) = true := by simpa using hP
      clear hN h1 hP hQ
      go_enter Tryz.func44, Tryz.ntmps44
      go_wp2_with (first
       | (go_at_call 22; ((with_reducible refine cFi.mono ?_); rintro e w1 ⟨rfl, hb1⟩; obtain ⟨k0, k1, kb⟩ := HX.out _ hb1; have z1 := k0.cell 1; have y0 := k1.cell 0; have KB := hid kb; obtain ⟨c0, c1, cf⟩ := HC.out _ hb1; have hN1 := newB w1 (.cells (zS p.id p.f p.fL.length p.fCap) 58); have hB1 := hb1.trans (hN1.mono hb1.size); have kf := Block.new w1 58 (zS p.id p.f p.fL.length p.fCap); have kp := k1.later hN1; have u0 := kp.cell 0; have u2 := kp.cell 2; have u3 := kp.cell 3; have u4 := kp.cell 4; have u7 := kp.cell 7; have HB1 := hid hB1; clear k0 k1 kb hN1 cf))
       | (go_at_call 76; ((with_reducible refine (cK _).mono ?_); rintro e w2 ⟨rfl, hn⟩; have hB2 := HB1.out.trans (hn.mono HB1.out.size); obtain ⟨k0, k1, kb⟩ := HX.out _ hB2; have u0 := k1.cell 0; have u2 := k1.cell 2; have u3 := k1.cell 3; have u4 := k1.cell 4; have u7 := k1.cell 7; have kf := kf.later hn; have f0 := kf.cell 0; have f1 := kf.cell 1; have KB := hid kb; clear k0 k1 kb hn))
       | (go_at_call 23; ((with_reducible refine (cQ s.f.id _ (HC.out _ hB2).2.2).mono ?_); rw [hB.out]; rintro e w3 ⟨rfl, hn⟩; have hB3 := hB2.trans (hn.mono hB2.size); obtain ⟨k0, k1, kb⟩ := HX.out _ hB3; have u0 := k1.cell 0; have u2 := k1.cell 2; have u3 := k1.cell 3; have u4 := k1.cell 4; have u7 := k1.cell 7; have kf := kf.later hn; have f0 := kf.cell 0; have f1 := kf.cell 1; have KB := hid kb; clear k0 k1 kb hn)))
      go_ret
      exact ⟨rfl, KB.out⟩
     ·skip
      obtain rfl : r = 0 := by rw [hN]; simp [nf, h1, hQ, hP]
      have gB : decide (B ≥ 0) = false := by simpa using hQ
      have gP : decide (s.pl > (p.fL.length : Int)) = false := by simpa using hP
      clear hN h1 hP hQ
      go_enter Tryz.func44, Tryz.ntmps44
      go_wp2_with (first
       | (go_at_call 22; ((with_reducible refine cFi.mono ?_); rintro e w1 ⟨rfl, hb1⟩; obtain ⟨k0, k1, kb⟩ := HX.out _ hb1; have z1 := k0.cell 1; have y0 := k1.cell 0; have KB := hid kb; obtain ⟨c0, c1, cf⟩ := HC.out _ hb1; have hN1 := newB w1 (.cells (zS p.id p.f p.fL.length p.fCap) 58); have hB1 := hb1.trans (hN1.mono hb1.size); have kf := Block.new w1 58 (zS p.id p.f p.fL.length p.fCap); have kp := k1.later hN1; have u0 := kp.cell 0; have u2 := kp.cell 2; have u3 := kp.cell 3; have u4 := kp.cell 4; have u7 := kp.cell 7; have HB1 := hid hB1; clear k0 k1 kb hN1 cf))
       | (go_at_call 76; ((with_reducible refine (cK _).mono ?_); rintro e w2 ⟨rfl, hn⟩; have hB2 := HB1.out.trans (hn.mono HB1.out.size); obtain ⟨k0, k1, kb⟩ := HX.out _ hB2; have u0 := k1.cell 0; have u2 := k1.cell 2; have u3 := k1.cell 3; have u4 := k1.cell 4; have u7 := k1.cell 7; have kf := kf.later hn; have f0 := kf.cell 0; have f1 := kf.cell 1; have KB := hid kb; clear k0 k1 kb hn))
       | (go_at_call 23; ((with_reducible refine (cQ s.f.id _ (HC.out _ hB2).2.2).mono ?_); rw [hB.out]; rintro e w3 ⟨rfl, hn⟩; have hB3 := hB2.trans (hn.mono hB2.size); obtain ⟨k0, k1, kb⟩ := HX.out _ hB3; have u0 := k1.cell 0; have u2 := k1.cell 2; have u3 := k1.cell 3; have u4 := k1.cell 4; have u7 := k1.cell 7; have kf := kf.later hn; have f0 := kf.cell 0; have f1 := kf.cell 1; have KB := hid kb; clear k0 k1 kb hn)))
      go_ret
      exact ⟨rfl, KB.out⟩
   by_cases h10 : s.op = 10
   ·have d10 : (s.op == 10) = true := by simpa using h10
    have d1 : (s.op == 1) = false := by rw [h10]; rfl
    have d6 : (s.op == 6) = false := by rw [h10]; rfl
    have d8 : (s.op == 8) = false := by rw [h10]; rfl
    have d7 : (s.op == 7) = false := by rw [h10]; rfl
    have ef : nf s.op = false := by rw [h10]; rfl
    rw [ef] at cK
    obtain rfl : r = 0 := by rw [hN]; simp [nf, h10]
    clear hN h10
    go_enter Tryz.func44, Tryz.ntmps44
    go_wp2_with (first
     | (go_at_call 22; ((with_reducible refine cFi.mono ?_); rintro e w1 ⟨rfl, hb1⟩; obtain ⟨k0, k1, kb⟩ := HX.out _ hb1; have z1 := k0.cell 1; have y0 := k1.cell 0; have KB := hid kb; obtain ⟨c0, c1, cf⟩ := HC.out _ hb1; have hN1 := newB w1 (.cells (zS p.id p.f p.fL.length p.fCap) 58); have hB1 := hb1.trans (hN1.mono hb1.size); have kf := Block.new w1 58 (zS p.id p.f p.fL.length p.fCap); have kp := k1.later hN1; have u0 := kp.cell 0; have u2 := kp.cell 2; have u3 := kp.cell 3; have u4 := kp.cell 4; have u7 := kp.cell 7; have HB1 := hid hB1; clear k0 k1 kb hN1 cf))
     | (go_at_call 76; ((with_reducible refine (cK _).mono ?_); rintro e w2 ⟨rfl, hn⟩; have hB2 := HB1.out.trans (hn.mono HB1.out.size); obtain ⟨k0, k1, kb⟩ := HX.out _ hB2; have u0 := k1.cell 0; have u2 := k1.cell 2; have u3 := k1.cell 3; have u4 := k1.cell 4; have u7 := k1.cell 7; have kf := kf.later hn; have f0 := kf.cell 0; have f1 := kf.cell 1; have KB := hid kb; clear k0 k1 kb hn)))
    go_ret
    exact ⟨rfl, KB.out⟩
   by_cases h6 : s.op = 6
   ·have d6 : (s.op == 6) = true := by simpa using h6
    have d1 : (s.op == 1) = false := by rw [h6]; rfl
    have d10 : (s.op == 10) = false := by rw [h6]; rfl
    have d8 : (s.op == 8) = false := by rw [h6]; rfl
    have d7 : (s.op == 7) = false := by rw [h6]; rfl
    have ef : nf s.op = true := by rw [h6]; rfl
    rw [ef] at cK
    by_cases hQ : A < 0
    ·skip
     obtain rfl : r = 8 := by rw [hN]; simp [nf, h6, hQ]
     have gA : decide (A < 0) = true := by simpa using hQ
     clear hN h6 hQ
     go_enter Tryz.func44, Tryz.ntmps44
     go_wp2_with (first
      | (go_at_call 22; ((with_reducible refine cFi.mono ?_); rintro e w1 ⟨rfl, hb1⟩; obtain ⟨k0, k1, kb⟩ := HX.out _ hb1; have z1 := k0.cell 1; have y0 := k1.cell 0; have KB := hid kb; obtain ⟨c0, c1, cf⟩ := HC.out _ hb1; have hN1 := newB w1 (.cells (zS p.id p.f p.fL.length p.fCap) 58); have hB1 := hb1.trans (hN1.mono hb1.size); have kf := Block.new w1 58 (zS p.id p.f p.fL.length p.fCap); have kp := k1.later hN1; have u0 := kp.cell 0; have u2 := kp.cell 2; have u3 := kp.cell 3; have u4 := kp.cell 4; have u7 := kp.cell 7; have HB1 := hid hB1; clear k0 k1 kb hN1 cf))
      | (go_at_call 76; ((with_reducible refine (cK _).mono ?_); rintro e w2 ⟨rfl, hn⟩; have hB2 := HB1.out.trans (hn.mono HB1.out.size); obtain ⟨k0, k1, kb⟩ := HX.out _ hB2; have u0 := k1.cell 0; have u2 := k1.cell 2; have u3 := k1.cell 3; have u4 := k1.cell 4; have u7 := k1.cell 7; have kf := kf.later hn; have f0 := kf.cell 0; have f1 := kf.cell 1; have KB := hid kb; clear k0 k1 kb hn))
      | (go_at_call 23; ((with_reducible refine (cQ s.fd _ (HC.out _ hB2).2.2).mono ?_); rw [hA.out]; rintro e w3 ⟨rfl, hn⟩; have hB3 := hB2.trans (hn.mono hB2.size); obtain ⟨k0, k1, kb⟩ := HX.out _ hB3; have u0 := k1.cell 0; have u2 := k1.cell 2; have u3 := k1.cell 3; have u4 := k1.cell 4; have u7 := k1.cell 7; have kf := kf.later hn; have f0 := kf.cell 0; have f1 := kf.cell 1; have KB := hid kb; clear k0 k1 kb hn)))
     go_ret
     exact ⟨rfl, KB.out⟩
    ·skip
     by_cases hP : 0 ≤ T
     ·skip
      obtain rfl : r = 9 := by rw [hN]; simp [nf, h6, hQ, hP]
      have gA : decide (A < 0) = false := by simpa using hQ
      have gT : decide (T ≥ 0) = true := by simpa using hP
      clear hN h6 hP hQ
      go_enter Tryz.func44, Tryz.ntmps44
      go_wp2_with (first
       | (go_at_call 22; ((with_reducible refine cFi.mono ?_); rintro e w1 ⟨rfl, hb1⟩; obtain ⟨k0, k1, kb⟩ := HX.out _ hb1; have z1 := k0.cell 1; have y0 := k1.cell 0; have KB := hid kb; obtain ⟨c0, c1, cf⟩ := HC.out _ hb1; have hN1 := newB w1 (.cells (zS p.id p.f p.fL.length p.fCap) 58); have hB1 := hb1.trans (hN1.mono hb1.size); have kf := Block.new w1 58 (zS p.id p.f p.fL.length p.fCap); have kp := k1.later hN1; have u0 := kp.cell 0; have u2 := kp.cell 2; have u3 := kp.cell 3; have u4 := kp.cell 4; have u7 := kp.cell 7; have HB1 := hid hB1; clear k0 k1 kb hN1 cf))
       | (go_at_call 76; ((with_reducible refine (cK _).mono ?_); rintro e w2 ⟨rfl, hn⟩; have hB2 := HB1.out.trans (hn.mono HB1.out.size); obtain ⟨k0, k1, kb⟩ := HX.out _ hB2; have u0 := k1.cell 0; have u2 := k1.cell 2; have u3 := k1.cell 3; have u4 := k1.cell 4; have u7 := k1.cell 7; have kf := kf.later hn; have f0 := kf.cell 0; have f1 := kf.cell 1; have KB := hid kb; clear k0 k1 kb hn))
       | (go_at_call 23; ((with_reducible refine (cQ s.fd _ (HC.out _ hB2).2.2).mono ?_); rw [hA.out]; rintro e w3 ⟨rfl, hn⟩; have hB3 := hB2.trans (hn.mono hB2.size); obtain ⟨k0, k1, kb⟩ := HX.out _ hB3; have u0 := k1.cell 0; have u2 := k1.cell 2; have u3 := k1.cell 3; have u4 := k1.cell 4; have u7 := k1.cell 7; have kf := kf.later hn; have f0 := kf.cell 0; have f1 := kf.cell 1; have KB := hid kb; clear k0 k1 kb hn))
       | (go_at_call 23; ((with_reducible refine (cQ s.tt _ (HC.out _ hB3).2.2).mono ?_); rw [hT.out]; rintro e w4 ⟨rfl, hn⟩; have hB4 := hB3.trans (hn.mono hB3.size); obtain ⟨k0, k1, kb⟩ := HX.out _ hB4; have u0 := k1.cell 0; have u2 := k1.cell 2; have u3 := k1.cell 3; have u4 := k1.cell 4; have u7 := k1.cell 7; have kf := kf.later hn; have f0 := kf.cell 0; have f1 := kf.cell 1; have KB := hid kb; clear k0 k1 kb hn)))
      go_ret
      exact ⟨rfl, KB.out⟩
     ·skip
      obtain rfl : r = 0 := by rw [hN]; simp [nf, h6, hQ, hP]
      have gA : decide (A < 0) = false := by simpa using hQ
      have gT : decide (T ≥ 0) = false := by simpa using hP
      clear hN h6 hP hQ
      go_enter Tryz.func44, Tryz.ntmps44
      go_wp2_with (first
       | (go_at_call 22; ((with_reducible refine cFi.mono ?_); rintro e w1 ⟨rfl, hb1⟩; obtain ⟨k0, k1, kb⟩ := HX.out _ hb1; have z1 := k0.cell 1; have y0 := k1.cell 0; have KB := hid kb; obtain ⟨c0, c1, cf⟩ := HC.out _ hb1; have hN1 := newB w1 (.cells (zS p.id p.f p.fL.length p.fCap) 58); have hB1 := hb1.trans (hN1.mono hb1.size); have kf := Block.new w1 58 (zS p.id p.f p.fL.length p.fCap); have kp := k1.later hN1; have u0 := kp.cell 0; have u2 := kp.cell 2; have u3 := kp.cell 3; have u4 := kp.cell 4; have u7 := kp.cell 7; have HB1 := hid hB1; clear k0 k1 kb hN1 cf))
       | (go_at_call 76; ((with_reducible refine (cK _).mono ?_); rintro e w2 ⟨rfl, hn⟩; have hB2 := HB1.out.trans (hn.mono HB1.out.size); obtain ⟨k0, k1, kb⟩ := HX.out _ hB2; have u0 := k1.cell 0; have u2 := k1.cell 2; have u3 := k1.cell 3; have u4 := k1.cell 4; have u7 := k1.cell 7; have kf := kf.later hn; have f0 := kf.cell 0; have f1 := kf.cell 1; have KB := hid kb; clear k0 k1 kb hn))
       | (go_at_call 23; ((with_reducible refine (cQ s.fd _ (HC.out _ hB2).2.2).mono ?_); rw [hA.out]; rintro e w3 ⟨rfl, hn⟩; have hB3 := hB2.trans (hn.mono hB2.size); obtain ⟨k0, k1, kb⟩ := HX.out _ hB3; have u0 := k1.cell 0; have u2 := k1.cell 2; have u3 := k1.cell 3; have u4 := k1.cell 4; have u7 := k1.cell 7; have kf := kf.later hn; have f0 := kf.cell 0; have f1 := kf.cell 1; have KB := hid kb; clear k0 k1 kb hn))
       | (go_at_call 23; ((with_reducible refine (cQ s.tt _ (HC.out _ hB3).2.2).mono ?_); rw [hT.out]; rintro e w4 ⟨rfl, hn⟩; have hB4 := hB3.trans (hn.mono hB3.size); obtain ⟨k0, k1, kb⟩ := HX.out _ hB4; have u0 := k1.cell 0; have u2 := k1.cell 2; have u3 := k1.cell 3; have u4 := k1.cell 4; have u7 := k1.cell 7; have kf := kf.later hn; have f0 := kf.cell 0; have f1 := kf.cell 1; have KB := hid kb; clear k0 k1 kb hn)))
      go_ret
      exact ⟨rfl, KB.out⟩
   by_cases h8 : s.op = 8
   ·have d8 : (s.op == 8) = true := by simpa using h8
    have d1 : (s.op == 1) = false := by rw [h8]; rfl
    have d10 : (s.op == 10) = false := by rw [h8]; rfl
    have d6 : (s.op == 6) = false := by rw [h8]; rfl
    have d7 : (s.op == 7) = false := by rw [h8]; rfl
    have ef : nf s.op = true := by rw [h8]; rfl
    rw [ef] at cK
    by_cases hQ : A < 0
    ·skip
     obtain rfl : r = 8 := by rw [hN]; simp [nf, h8, hQ]
     have gA : decide (A < 0) = true := by simpa using hQ
     clear hN h8 hQ
     go_enter Tryz.func44, Tryz.ntmps44
     go_wp2_with (first
      | (go_at_call 22; ((with_reducible refine cFi.mono ?_); rintro e w1 ⟨rfl, hb1⟩; obtain ⟨k0, k1, kb⟩ := HX.out _ hb1; have z1 := k0.cell 1; have y0 := k1.cell 0; have KB := hid kb; obtain ⟨c0, c1, cf⟩ := HC.out _ hb1; have hN1 := newB w1 (.cells (zS p.id p.f p.fL.length p.fCap) 58); have hB1 := hb1.trans (hN1.mono hb1.size); have kf := Block.new w1 58 (zS p.id p.f p.fL.length p.fCap); have kp := k1.later hN1; have u0 := kp.cell 0; have u2 := kp.cell 2; have u3 := kp.cell 3; have u4 := kp.cell 4; have u7 := kp.cell 7; have HB1 := hid hB1; clear k0 k1 kb hN1 cf))
      | (go_at_call 76; ((with_reducible refine (cK _).mono ?_); rintro e w2 ⟨rfl, hn⟩; have hB2 := HB1.out.trans (hn.mono HB1.out.size); obtain ⟨k0, k1, kb⟩ := HX.out _ hB2; have u0 := k1.cell 0; have u2 := k1.cell 2; have u3 := k1.cell 3; have u4 := k1.cell 4; have u7 := k1.cell 7; have kf := kf.later hn; have f0 := kf.cell 0; have f1 := kf.cell 1; have KB := hid kb; clear k0 k1 kb hn))
      | (go_at_call 23; ((with_reducible refine (cQ s.fd _ (HC.out _ hB2).2.2).mono ?_); rw [hA.out]; rintro e w3 ⟨rfl, hn⟩; have hB3 := hB2.trans (hn.mono hB2.size); obtain ⟨k0, k1, kb⟩ := HX.out _ hB3; have u0 := k1.cell 0; have u2 := k1.cell 2; have u3 := k1.cell 3; have u4 := k1.cell 4; have u7 := k1.cell 7; have kf := kf.later hn; have f0 := kf.cell 0; have f1 := kf.cell 1; have KB := hid kb; clear k0 k1 kb hn)))
     go_ret
     exact ⟨rfl, KB.out⟩
    ·skip
     by_cases hP : 0 ≤ T
     ·skip
      obtain rfl : r = 9 := by rw [hN]; simp [nf, h8, hQ, hP]
      have gA : decide (A < 0) = false := by simpa using hQ
      have gT : decide (T ≥ 0) = true := by simpa using hP
      clear hN h8 hP hQ
      go_enter Tryz.func44, Tryz.ntmps44
      go_wp2_with (first
       | (go_at_call 22; ((with_reducible refine cFi.mono ?_); rintro e w1 ⟨rfl, hb1⟩; obtain ⟨k0, k1, kb⟩ := HX.out _ hb1; have z1 := k0.cell 1; have y0 := k1.cell 0; have KB := hid kb; obtain ⟨c0, c1, cf⟩ := HC.out _ hb1; have hN1 := newB w1 (.cells (zS p.id p.f p.fL.length p.fCap) 58); have hB1 := hb1.trans (hN1.mono hb1.size); have kf := Block.new w1 58 (zS p.id p.f p.fL.length p.fCap); have kp := k1.later hN1; have u0 := kp.cell 0; have u2 := kp.cell 2; have u3 := kp.cell 3; have u4 := kp.cell 4; have u7 := kp.cell 7; have HB1 := hid hB1; clear k0 k1 kb hN1 cf))
       | (go_at_call 76; ((with_reducible refine (cK _).mono ?_); rintro e w2 ⟨rfl, hn⟩; have hB2 := HB1.out.trans (hn.mono HB1.out.size); obtain ⟨k0, k1, kb⟩ := HX.out _ hB2; have u0 := k1.cell 0; have u2 := k1.cell 2; have u3 := k1.cell 3; have u4 := k1.cell 4; have u7 := k1.cell 7; have kf := kf.later hn; have f0 := kf.cell 0; have f1 := kf.cell 1; have KB := hid kb; clear k0 k1 kb hn))
       | (go_at_call 23; ((with_reducible refine (cQ s.fd _ (HC.out _ hB2).2.2).mono ?_); rw [hA.out]; rintro e w3 ⟨rfl, hn⟩; have hB3 := hB2.trans (hn.mono hB2.size); obtain ⟨k0, k1, kb⟩ := HX.out _ hB3; have u0 := k1.cell 0; have u2 := k1.cell 2; have u3 := k1.cell 3; have u4 := k1.cell 4; have u7 := k1.cell 7; have kf := kf.later hn; have f0 := kf.cell 0; have f1 := kf.cell 1; have KB := hid kb; clear k0 k1 kb hn))
       | (go_at_call 23; ((with_reducible refine (cQ s.tt _ (HC.out _ hB3).2.2).mono ?_); rw [hT.out]; rintro e w4 ⟨rfl, hn⟩; have hB4 := hB3.trans (hn.mono hB3.size); obtain ⟨k0, k1, kb⟩ := HX.out _ hB4; have u0 := k1.cell 0; have u2 := k1.cell 2; have u3 := k1.cell 3; have u4 := k1.cell 4; have u7 := k1.cell 7; have kf := kf.later hn; have f0 := kf.cell 0; have f1 := kf.cell 1; have KB := hid kb; clear k0 k1 kb hn)))
      go_ret
      exact ⟨rfl, KB.out⟩
     ·skip
      obtain rfl : r = 0 := by rw [hN]; simp [nf, h8, hQ, hP]
      have gA : decide (A < 0) = false := by simpa using hQ
      have gT : decide (T ≥ 0) = false := by simpa using hP
      clear hN h8 hP hQ
      go_enter Tryz.func44, Tryz.ntmps44
      go_wp2_with (first
       | (go_at_call 22; ((with_reducible refine cFi.mono ?_); rintro e w1 ⟨rfl, hb1⟩; obtain ⟨k0, k1, kb⟩ := HX.out _ hb1; have z1 := k0.cell 1; have y0 := k1.cell 0; have KB := hid kb; obtain ⟨c0, c1, cf⟩ := HC.out _ hb1; have hN1 := newB w1 (.cells (zS p.id p.f p.fL.length p.fCap) 58); have hB1 := hb1.trans (hN1.mono hb1.size); have kf := Block.new w1 58 (zS p.id p.f p.fL.length p.fCap); have kp := k1.later hN1; have u0 := kp.cell 0; have u2 := kp.cell 2; have u3 := kp.cell 3; have u4 := kp.cell 4; have u7 := kp.cell 7; have HB1 := hid hB1; clear k0 k1 kb hN1 cf))
       | (go_at_call 76; ((with_reducible refine (cK _).mono ?_); rintro e w2 ⟨rfl, hn⟩; have hB2 := HB1.out.trans (hn.mono HB1.out.size); obtain ⟨k0, k1, kb⟩ := HX.out _ hB2; have u0 := k1.cell 0; have u2 := k1.cell 2; have u3 := k1.cell 3; have u4 := k1.cell 4; have u7 := k1.cell 7; have kf := kf.later hn; have f0 := kf.cell 0; have f1 := kf.cell 1; have KB := hid kb; clear k0 k1 kb hn))
       | (go_at_call 23; ((with_reducible refine (cQ s.fd _ (HC.out _ hB2).2.2).mono ?_); rw [hA.out]; rintro e w3 ⟨rfl, hn⟩; have hB3 := hB2.trans (hn.mono hB2.size); obtain ⟨k0, k1, kb⟩ := HX.out _ hB3; have u0 := k1.cell 0; have u2 := k1.cell 2; have u3 := k1.cell 3; have u4 := k1.cell 4; have u7 := k1.cell 7; have kf := kf.later hn; have f0 := kf.cell 0; have f1 := kf.cell 1; have KB := hid kb; clear k0 k1 kb hn))
       | (go_at_call 23; ((with_reducible refine (cQ s.tt _ (HC.out _ hB3).2.2).mono ?_); rw [hT.out]; rintro e w4 ⟨rfl, hn⟩; have hB4 := hB3.trans (hn.mono hB3.size); obtain ⟨k0, k1, kb⟩ := HX.out _ hB4; have u0 := k1.cell 0; have u2 := k1.cell 2; have u3 := k1.cell 3; have u4 := k1.cell 4; have u7 := k1.cell 7; have kf := kf.later hn; have f0 := kf.cell 0; have f1 := kf.cell 1; have KB := hid kb; clear k0 k1 kb hn)))
      go_ret
      exact ⟨rfl, KB.out⟩
   by_cases h7 : s.op = 7
   ·have d7 : (s.op == 7) = true := by simpa using h7
    have d1 : (s.op == 1) = false := by rw [h7]; rfl
    have d10 : (s.op == 10) = false := by rw [h7]; rfl
    have d6 : (s.op == 6) = false := by rw [h7]; rfl
    have d8 : (s.op == 8) = false := by rw [h7]; rfl
    have ef : nf s.op = true := by rw [h7]; rfl
    rw [ef] at cK
    by_cases hQ : A < 0
    ·skip
     obtain rfl : r = 8 := by rw [hN]; simp [nf, h7, hQ]
     have gA : decide (A < 0) = true := by simpa using hQ
     clear hN h7 hQ
     go_enter Tryz.func44, Tryz.ntmps44
     go_wp2_with (first
      | (go_at_call 22; ((with_reducible refine cFi.mono ?_); rintro e w1 ⟨rfl, hb1⟩; obtain ⟨k0, k1, kb⟩ := HX.out _ hb1; have z1 := k0.cell 1; have y0 := k1.cell 0; have KB := hid kb; obtain ⟨c0, c1, cf⟩ := HC.out _ hb1; have hN1 := newB w1 (.cells (zS p.id p.f p.fL.length p.fCap) 58); have hB1 := hb1.trans (hN1.mono hb1.size); have kf := Block.new w1 58 (zS p.id p.f p.fL.length p.fCap); have kp := k1.later hN1; have u0 := kp.cell 0; have u2 := kp.cell 2; have u3 := kp.cell 3; have u4 := kp.cell 4; have u7 := kp.cell 7; have HB1 := hid hB1; clear k0 k1 kb hN1 cf))
      | (go_at_call 76; ((with_reducible refine (cK _).mono ?_); rintro e w2 ⟨rfl, hn⟩; have hB2 := HB1.out.trans (hn.mono HB1.out.size); obtain ⟨k0, k1, kb⟩ := HX.out _ hB2; have u0 := k1.cell 0; have u2 := k1.cell 2; have u3 := k1.cell 3; have u4 := k1.cell 4; have u7 := k1.cell 7; have kf := kf.later hn; have f0 := kf.cell 0; have f1 := kf.cell 1; have KB := hid kb; clear k0 k1 kb hn))
      | (go_at_call 23; ((with_reducible refine (cQ s.fd _ (HC.out _ hB2).2.2).mono ?_); rw [hA.out]; rintro e w3 ⟨rfl, hn⟩; have hB3 := hB2.trans (hn.mono hB2.size); obtain ⟨k0, k1, kb⟩ := HX.out _ hB3; have u0 := k1.cell 0; have u2 := k1.cell 2; have u3 := k1.cell 3; have u4 := k1.cell 4; have u7 := k1.cell 7; have kf := kf.later hn; have f0 := kf.cell 0; have f1 := kf.cell 1; have KB := hid kb; clear k0 k1 kb hn)))
     go_ret
     exact ⟨rfl, KB.out⟩
    ·skip
     by_cases hP : (p.fL.length : Int) ≤ s.pl
     ·skip
      obtain rfl : r = 3 := by rw [hN]; simp [nf, h7, hQ, hP]
      have gA : decide (A < 0) = false := by simpa using hQ
      have gP : decide (s.pl ≥ (p.fL.length : Int)) = true := by simpa using hP
      clear hN h7 hP hQ
      go_enter Tryz.func44, Tryz.ntmps44
      go_wp2_with (first
       | (go_at_call 22; ((with_reducible refine cFi.mono ?_); rintro e w1 ⟨rfl, hb1⟩; obtain ⟨k0, k1, kb⟩ := HX.out _ hb1; have z1 := k0.cell 1; have y0 := k1.cell 0; have KB := hid kb; obtain ⟨c0, c1, cf⟩ := HC.out _ hb1; have hN1 := newB w1 (.cells (zS p.id p.f p.fL.length p.fCap) 58); have hB1 := hb1.trans (hN1.mono hb1.size); have kf := Block.new w1 58 (zS p.id p.f p.fL.length p.fCap); have kp := k1.later hN1; have u0 := kp.cell 0; have u2 := kp.cell 2; have u3 := kp.cell 3; have u4 := kp.cell 4; have u7 := kp.cell 7; have HB1 := hid hB1; clear k0 k1 kb hN1 cf))
       | (go_at_call 76; ((with_reducible refine (cK _).mono ?_); rintro e w2 ⟨rfl, hn⟩; have hB2 := HB1.out.trans (hn.mono HB1.out.size); obtain ⟨k0, k1, kb⟩ := HX.out _ hB2; have u0 := k1.cell 0; have u2 := k1.cell 2; have u3 := k1.cell 3; have u4 := k1.cell 4; have u7 := k1.cell 7; have kf := kf.later hn; have f0 := kf.cell 0; have f1 := kf.cell 1; have KB := hid kb; clear k0 k1 kb hn))
       | (go_at_call 23; ((with_reducible refine (cQ s.fd _ (HC.out _ hB2).2.2).mono ?_); rw [hA.out]; rintro e w3 ⟨rfl, hn⟩; have hB3 := hB2.trans (hn.mono hB2.size); obtain ⟨k0, k1, kb⟩ := HX.out _ hB3; have u0 := k1.cell 0; have u2 := k1.cell 2; have u3 := k1.cell 3; have u4 := k1.cell 4; have u7 := k1.cell 7; have kf := kf.later hn; have f0 := kf.cell 0; have f1 := kf.cell 1; have KB := hid kb; clear k0 k1 kb hn)))
      go_ret
      exact ⟨rfl, KB.out⟩
     ·skip
      obtain rfl : r = 0 := by rw [hN]; simp [nf, h7, hQ, hP]
      have gA : decide (A < 0) = false := by simpa using hQ
      have gP : decide (s.pl ≥ (p.fL.length : Int)) = false := by simpa using hP
      clear hN h7 hP hQ
      go_enter Tryz.func44, Tryz.ntmps44
      go_wp2_with (first
       | (go_at_call 22; ((with_reducible refine cFi.mono ?_); rintro e w1 ⟨rfl, hb1⟩; obtain ⟨k0, k1, kb⟩ := HX.out _ hb1; have z1 := k0.cell 1; have y0 := k1.cell 0; have KB := hid kb; obtain ⟨c0, c1, cf⟩ := HC.out _ hb1; have hN1 := newB w1 (.cells (zS p.id p.f p.fL.length p.fCap) 58); have hB1 := hb1.trans (hN1.mono hb1.size); have kf := Block.new w1 58 (zS p.id p.f p.fL.length p.fCap); have kp := k1.later hN1; have u0 := kp.cell 0; have u2 := kp.cell 2; have u3 := kp.cell 3; have u4 := kp.cell 4; have u7 := kp.cell 7; have HB1 := hid hB1; clear k0 k1 kb hN1 cf))
       | (go_at_call 76; ((with_reducible refine (cK _).mono ?_); rintro e w2 ⟨rfl, hn⟩; have hB2 := HB1.out.trans (hn.mono HB1.out.size); obtain ⟨k0, k1, kb⟩ := HX.out _ hB2; have u0 := k1.cell 0; have u2 := k1.cell 2; have u3 := k1.cell 3; have u4 := k1.cell 4; have u7 := k1.cell 7; have kf := kf.later hn; have f0 := kf.cell 0; have f1 := kf.cell 1; have KB := hid kb; clear k0 k1 kb hn))
       | (go_at_call 23; ((with_reducible refine (cQ s.fd _ (HC.out _ hB2).2.2).mono ?_); rw [hA.out]; rintro e w3 ⟨rfl, hn⟩; have hB3 := hB2.trans (hn.mono hB2.size); obtain ⟨k0, k1, kb⟩ := HX.out _ hB3; have u0 := k1.cell 0; have u2 := k1.cell 2; have u3 := k1.cell 3; have u4 := k1.cell 4; have u7 := k1.cell 7; have kf := kf.later hn; have f0 := kf.cell 0; have f1 := kf.cell 1; have KB := hid kb; clear k0 k1 kb hn)))
      go_ret
      exact ⟨rfl, KB.out⟩
   have d1 : (s.op == 1) = false := by simpa using h1
   have d10 : (s.op == 10) = false := by simpa using h10
   have d6 : (s.op == 6) = false := by simpa using h6
   have d8 : (s.op == 8) = false := by simpa using h8
   have d7 : (s.op == 7) = false := by simpa using h7
   have ef : nf s.op = true := by simp [nf, h1, h9, h10]
   rw [ef] at cK
   by_cases hQ : A < 0
   ·skip
    obtain rfl : r = 8 := by rw [hN]; simp [nf, h1, h10, h6, h8, h7, h9, hQ]
    have gA : decide (A < 0) = true := by simpa using hQ
    clear hN h1 h10 h6 h7 h8 h9 hQ
    go_enter Tryz.func44, Tryz.ntmps44
    go_wp2_with (first
     | (go_at_call 22; ((with_reducible refine cFi.mono ?_); rintro e w1 ⟨rfl, hb1⟩; obtain ⟨k0, k1, kb⟩ := HX.out _ hb1; have z1 := k0.cell 1; have y0 := k1.cell 0; have KB := hid kb; obtain ⟨c0, c1, cf⟩ := HC.out _ hb1; have hN1 := newB w1 (.cells (zS p.id p.f p.fL.length p.fCap) 58); have hB1 := hb1.trans (hN1.mono hb1.size); have kf := Block.new w1 58 (zS p.id p.f p.fL.length p.fCap); have kp := k1.later hN1; have u0 := kp.cell 0; have u2 := kp.cell 2; have u3 := kp.cell 3; have u4 := kp.cell 4; have u7 := kp.cell 7; have HB1 := hid hB1; clear k0 k1 kb hN1 cf))
     | (go_at_call 76; ((with_reducible refine (cK _).mono ?_); rintro e w2 ⟨rfl, hn⟩; have hB2 := HB1.out.trans (hn.mono HB1.out.size); obtain ⟨k0, k1, kb⟩ := HX.out _ hB2; have u0 := k1.cell 0; have u2 := k1.cell 2; have u3 := k1.cell 3; have u4 := k1.cell 4; have u7 := k1.cell 7; have kf := kf.later hn; have f0 := kf.cell 0; have f1 := kf.cell 1; have KB := hid kb; clear k0 k1 kb hn))
     | (go_at_call 23; ((with_reducible refine (cQ s.fd _ (HC.out _ hB2).2.2).mono ?_); rw [hA.out]; rintro e w3 ⟨rfl, hn⟩; have hB3 := hB2.trans (hn.mono hB2.size); obtain ⟨k0, k1, kb⟩ := HX.out _ hB3; have u0 := k1.cell 0; have u2 := k1.cell 2; have u3 := k1.cell 3; have u4 := k1.cell 4; have u7 := k1.cell 7; have kf := kf.later hn; have f0 := kf.cell 0; have f1 := kf.cell 1; have KB := hid kb; clear k0 k1 kb hn)))
    go_ret
    exact ⟨rfl, KB.out⟩
   ·skip
    obtain rfl : r = 0 := by rw [hN]; simp [nf, h1, h10, h6, h8, h7, h9, hQ]
    have gA : decide (A < 0) = false := by simpa using hQ
    clear hN h1 h10 h6 h7 h8 h9 hQ
    go_enter Tryz.func44, Tryz.ntmps44
    go_wp2_with (first
     | (go_at_call 22; ((with_reducible refine cFi.mono ?_); rintro e w1 ⟨rfl, hb1⟩; obtain ⟨k0, k1, kb⟩ := HX.out _ hb1; have z1 := k0.cell 1; have y0 := k1.cell 0; have KB := hid kb; obtain ⟨c0, c1, cf⟩ := HC.out _ hb1; have hN1 := newB w1 (.cells (zS p.id p.f p.fL.length p.fCap) 58); have hB1 := hb1.trans (hN1.mono hb1.size); have kf := Block.new w1 58 (zS p.id p.f p.fL.length p.fCap); have kp := k1.later hN1; have u0 := kp.cell 0; have u2 := kp.cell 2; have u3 := kp.cell 3; have u4 := kp.cell 4; have u7 := kp.cell 7; have HB1 := hid hB1; clear k0 k1 kb hN1 cf))
     | (go_at_call 76; ((with_reducible refine (cK _).mono ?_); rintro e w2 ⟨rfl, hn⟩; have hB2 := HB1.out.trans (hn.mono HB1.out.size); obtain ⟨k0, k1, kb⟩ := HX.out _ hB2; have u0 := k1.cell 0; have u2 := k1.cell 2; have u3 := k1.cell 3; have u4 := k1.cell 4; have u7 := k1.cell 7; have kf := kf.later hn; have f0 := kf.cell 0; have f1 := kf.cell 1; have KB := hid kb; clear k0 k1 kb hn))
     | (go_at_call 23; ((with_reducible refine (cQ s.fd _ (HC.out _ hB2).2.2).mono ?_); rw [hA.out]; rintro e w3 ⟨rfl, hn⟩; have hB3 := hB2.trans (hn.mono hB2.size); obtain ⟨k0, k1, kb⟩ := HX.out _ hB3; have u0 := k1.cell 0; have u2 := k1.cell 2; have u3 := k1.cell 3; have u4 := k1.cell 4; have u7 := k1.cell 7; have kf := kf.later hn; have f0 := kf.cell 0; have f1 := kf.cell 1; have KB := hid kb; clear k0 k1 kb hn)))
    go_ret
    exact ⟨rfl, KB.out⟩
end Go.Proofs.YtaciegkblklokaaGreat.typing
namespace Go.Proofs.YtaciegkblklokaaGreat.typing
open Go.RowKit Go.Proofs.YtaciegkblklokaaGreat.schema
open Go.Proofs.YtaciegkblklokaaGreat.field (newB)
def shiftF (a : Option Addr) (k cap : Nat) : Option Addr := if cap = k then a else a.map (·.add (k * 5))
theorem cutF_from (W : World) (a : Option Addr) (len cap k : Nat) (h : k ≤ len) : (Instr.slice 30 (.slice a len cap) (some (.int .i64 (k : Int))) none none).run Tryz.prog W = .ok (.slice (shiftF a k cap) (len - k) (cap - k)) W := by
 rw [run_slice_l W 30 a len cap (by kernel_rfl) .i64 k (by omega) (by omega)]
 rw [show (sizeOf (Tryz.prog.elem 30)).run Tryz.prog W = .ok 5 W by kernel_rfl]
 simp [Result.andThen, sliced, shiftF]
theorem cutF_to (W : World) (a : Option Addr) (len cap k : Nat) (h : k ≤ cap) : (Instr.slice 30 (.slice a len cap) none (some (.int .i64 (k : Int))) none).run Tryz.prog W = .ok (.slice (shiftF a 0 cap) k cap) W := by
 rw [run_slice_h W 30 a len cap (by kernel_rfl) .i64 k (by omega) (by omega)]
 rw [show (sizeOf (Tryz.prog.elem 30)).run Tryz.prog W = .ok 5 W by kernel_rfl]
 simp [Result.andThen, sliced, shiftF]
theorem exec_cutF_from {o : Oper} {a : Act} {w : World} {x y : Operand} {ad : Option Addr} {len cap k : Nat} (ho : o.op = .slice 30 x (some y) none none) (h : k ≤ len) (hx : a.eval x = .slice ad len cap := by kernel_rfl) (hy : a.eval y = .int .i64 (k : Int) := by kernel_rfl) :
  (execOp a.eval o).run Tryz.prog w = .ok (.value (.slice (shiftF ad k cap) (len - k) (cap - k))) w := by
 unfold execOp
 rw [ho]
 have hc := cutF_from w ad len cap k h
 simp only [hx, hy, Option.map_some, Option.map_none]
 go_simp
theorem exec_cutF_to {o : Oper} {a : Act} {w : World} {x y : Operand} {ad : Option Addr} {len cap k : Nat} (ho : o.op = .slice 30 x none (some y) none) (h : k ≤ cap) (hx : a.eval x = .slice ad len cap := by kernel_rfl) (hy : a.eval y = .int .i64 (k : Int) := by kernel_rfl) :
  (execOp a.eval o).run Tryz.prog w = .ok (.value (.slice (shiftF ad 0 cap) k cap)) w := by
 unfold execOp
 rw [ho]
 have hc := cutF_to w ad len cap k h
 simp only [hx, hy, Option.map_some, Option.map_none]
 go_simp
theorem news_to {w : World} {a : Option Addr} {L : List field.Fd} (h : field.Fds w a L) (cap k : Nat) (hk : k ≤ L.length) (hc : L.length ≤ cap) : k = 0 ∨ ∃ ad, shiftF a 0 cap = some ad ∧ ∀ j u, (fdV (L.take k))[j]? = some u → w.cell? (ad.add j) = some u := by
 by_cases h0 : k = 0
 ·exact .inl h0
 rcases fds_news h with h1 | ⟨ad, rfl, h1⟩
 ·omega
 ·refine .inr ⟨ad, by unfold shiftF; rw [if_neg (by omega)]; simp [Addr.add], fun j u hj => h1 j u ?_⟩
  have hl : j < k * 5 := by
   have := (List.getElem?_eq_some_iff.1 hj).1
   rw [fdV_length, List.length_take, Nat.min_eq_left hk] at this
   exact this
  rw [← fdV_take, List.getElem?_take_of_lt hl] at hj
  exact hj
theorem news_from {w : World} {a : Option Addr} {L : List field.Fd} (h : field.Fds w a L) (cap k : Nat) (hk : k ≤ L.length) (hc : L.length ≤ cap) : L.length - k = 0 ∨ ∃ ad, shiftF a k cap = some ad ∧ ∀ j u, (fdV (L.drop k))[j]? = some u → w.cell? (ad.add j) = some u := by
 by_cases h0 : L.length - k = 0
 ·exact .inl h0
 rcases fds_news h with h1 | ⟨ad, rfl, h1⟩
 ·omega
 ·refine .inr ⟨ad.add (k * 5), by unfold shiftF; rw [if_neg (by omega)]; rfl, fun j u hj => ?_⟩
  rw [← fdV_drop, List.getElem?_drop] at hj
  have := h1 _ _ hj
  have e : (ad.add (k * 5)).add j = ad.add (k * 5 + j) := by
   unfold Addr.add
   by_cases q1 : k * 5 = 0 <;> by_cases q2 : j = 0 <;> simp [q1, q2] <;> omega
  rw [e]
  exact this
theorem run_app {w : World} {u : Value} {B n m c : Nat} {ap : Option Addr} {xs news : List Value}
  (hown : w.ownsRow B 26 5 u n xs) (hl : news.length = m * 5) (hnews : m = 0 ∨ ∃ ad, ap = some ad ∧ ∀ j v, news[j]? = some v → w.cell? (ad.add j) = some v) (h1 : ∀ v ∈ news, v.oneCell' = true) (hn : n + m ≤ 1000000) (hB : B ≤ w.heap.size) :
  ∃ q w', (∀ (o : Oper) (a : Act) (x y : Operand), o.op = .call { callee := .builtin .append, args := #[x, y], argTypes := #[30, 30] } → o.type = 30 → a.eval x = u → a.eval y = .slice ap m c → (execOp a.eval o).run Tryz.prog w = .ok (.value q) w') ∧ w'.ownsRow B 26 5 q (n + m) (xs ++ news) ∧ w.grownBy w' u.ownBlock := by
 obtain ⟨i0, hi, hz0, hz1, hz2⟩ := fd_info_parts
 by_cases hm : m = 0
 ·subst hm
  obtain rfl : news = [] := List.eq_nil_of_length_eq_zero (by omega)
  obtain ⟨bp, cp, rfl, hcp⟩ := ownsRow_slice hown
  have hsrc : Src Tryz.prog i0.size 30 (.slice ap 0 c) 0 [] w := by
   cases ap with
   | none => exact Src.ofNil w Tryz.underlying30 c
   | some ad => exact Src.ofSlice w Tryz.underlying30 ad 0 c [] (by simp) (by simp) (by simp)
  have hrun := run_append_nothing w 30 30 30 26 i0 Tryz.underlying30 hi bp n cp hcp _ hsrc
  refine ⟨_, w, fun o a x y ho hty hx hy => ?_, by simpa using hown, grown_refl _ _⟩
  unfold execOp
  simp [ho, hty, resolve, invoke, builtin, hx, hy, hrun, Result.andThen]
 ·rcases hnews with h0 | ⟨ad, rfl, hc⟩
  ·exact absurd h0 hm
  ·obtain ⟨q, w', h2, h3, h4, _, _⟩ := run_append_own_at w B 30 30 26 i0 _ 5 40 Tryz.underlying30 hi hz0 hz1 hz2 (by simp [Value.cells]) (by omega) u n xs hown ad m c news (by omega) hc h1 (by unfold maxLen; omega) (by omega) hB
   refine ⟨q, w', fun o a x y ho hty hx hy => ?_, h3, h4⟩
   unfold execOp
   simp [ho, hty, resolve, invoke, builtin, hx, hy, h2, Result.andThen]
theorem exec_next {o : Oper} {a : Act} {w : World} {x y : Operand} {t : TypeId} {k : Nat} (ho : o.op = .binOp .add 3 x y t) (hk : k ≤ 1000) (hx : a.eval x = .int .i64 (k : Int) := by kernel_rfl) (hy : a.eval y = .int .i64 1 := by kernel_rfl) :
  (execOp a.eval o).run Tryz.prog w = .ok (.value (.int .i64 ((k + 1 : Nat) : Int))) w := by
 unfold execOp
 rw [ho]
 simp only [hx, hy]
 go_simp
 exact IntWalk.i64_in _ (by omega)
theorem below_own {B n : Nat} {u : Value} {xs : List Value} {t : TypeId} {a w w' : World} (h : Below B a w) (ho : w.ownsRow B t 5 u n xs) (hg : w.grownBy w' u.ownBlock) (hB : B ≤ w.heap.size) : Below B a w' :=
 h.grown hg hB (fun k hk => (World.ownsRow.lt ho k hk).1)
set_option maxRecDepth 20000 in
theorem refCut_any (a : Option Addr) (cap : Nat) (L : List field.Fd) (k : Nat) (w : World) (h : field.Fds w a L) (hk : k < L.length) (hc : L.length ≤ cap) (hL : L.length ≤ 1000) :
  Calls Tryz.prog 47 #[.slice a L.length cap, .int .i64 (k : Int)] w (OwnsF (cutL L k) w) := by
 have HD := hid (Below.refl w.heap.size w)
 have HW := hid h
 unfold OwnsF cutL
 have hlen : (L.take k ++ L.drop (k + 1)).length = 0 + k + (L.length - (k + 1)) := by simp; omega
 have e1 : fdV (L.take k ++ L.drop (k + 1)) = [] ++ fdV (L.take k) ++ fdV (L.drop (k + 1)) := by rw [fdV_append]; rfl
 rw [hlen, e1]
 have HK := hid hk
 have HC := hid hc
 have HL := hid hL
 have l1 : (fdV (L.take k)).length = k * 5 := by rw [fdV_length, List.length_take, Nat.min_eq_left (by omega)]
 have l2 : (fdV (L.drop (k + 1))).length = (L.length - (k + 1)) * 5 := by rw [fdV_length, List.length_drop]
 have HL1 := hid l1
 have HL2 := hid l2
 clear hlen e1 l1 l2 h hk hc hL
 go_enter Tryz.func47, Tryz.ntmps47
 go_wp2
 refine plan.regionS (S := fun _ => True) ?_
 have hb0 : Below w.heap.size w w.drew := below_drewN (Below.refl _ _) 1
 refine plan.firstS 0 _ (.slice a L.length cap) rfl (fun w' hS' => (by kernel_rfl)) trivial ?_
 refine plan.firstS 1 _ (.int .i64 (k : Int)) rfl (fun w' hS' => (by kernel_rfl)) trivial ?_
 refine plan.firstS 2 _ (.slice (shiftF a 0 cap) k cap) rfl (fun w' hS' => (exec_cutF_to (len := L.length) rfl (by have := HC.out; have := HK.out; omega))) trivial ?_
 refine plan.firstS 4 _ (.slice a L.length cap) rfl (fun w' hS' => (by kernel_rfl)) trivial ?_
 refine plan.firstS 5 _ (.int .i64 (k : Int)) rfl (fun w' hS' => (by kernel_rfl)) trivial ?_
 refine plan.firstS 6 _ (.int .i64 ((k + 1 : Nat) : Int)) rfl (fun w' hS' => (exec_next rfl (by have := HK.out; have := HL.out; omega))) trivial ?_
 refine plan.firstS 7 _ (.slice (shiftF a (k + 1) cap) (L.length - (k + 1)) (cap - (k + 1))) rfl (fun w' hS' => (exec_cutF_from rfl (by have := HK.out; omega))) trivial ?_
 obtain ⟨q1, w1, r1, o1, g1⟩ := run_app (m := k) (c := cap) (ap := shiftF a 0 cap) (World.ownsRow_nil w.drew w.heap.size 26 5) HL1.out (news_to (HW.out.below hb0) cap k (by have := HK.out; omega) HC.out) (fdV_one _) (by have := HK.out; have := HL.out; omega) (Nat.le_of_eq rfl)
 refine plan.oneS (w1 := w1) 3 _ (q1) rfl rfl (hv := (r1 _ _ _ _ rfl rfl (by kernel_rfl) (by kernel_rfl))) trivial ?_
 have hb1 : Below w.heap.size w w1 := hb0.grown g1 hb0.size (fun k hk => by cases hk)
 obtain ⟨q2, w2, r2, o2, g2⟩ := run_app (m := L.length - (k + 1)) (c := cap - (k + 1)) (ap := shiftF a (k + 1) cap) o1 HL2.out (news_from (HW.out.below hb1) cap (k + 1) (by have := HK.out; omega) HC.out) (fdV_one _) (by have := HK.out; have := HL.out; omega) hb1.size
 refine plan.oneS (w1 := w2) 8 _ (q2) rfl rfl (hv := (r2 _ _ _ _ rfl rfl (by kernel_rfl) (by kernel_rfl))) trivial ?_
 have hb2 : Below w.heap.size w w2 := below_own hb1 o1 g2 hb1.size
 refine plan.oneS (w1 := w2) 9 _ (q2) rfl rfl trivial ?_
 refine plan.doneS ?_
 walk_nrm
 go_wp2
 go_ret
 exact ⟨_, rfl, o2, hb2⟩
set_option maxRecDepth 20000 in
theorem refPut_any (a : Option Addr) (cap : Nat) (L : List field.Fd) (k : Nat) (f : field.Fd) (w : World) (h : field.Fds w a L) (hk : k ≤ L.length) (hc : L.length ≤ cap) (hL : L.length ≤ 1000) :
  Calls Tryz.prog 45 #[.slice a L.length cap, .int .i64 (k : Int), zF f] w (OwnsF (putL L k f) w) := by
 obtain ⟨i0, hi, hz0, hz1, hz2⟩ := fd_info_parts
 have hb0 := newB w (.cells (zF f) 26)
 have hB0 := Block.new w 26 (zF f)
 obtain ⟨W0, hW0⟩ : ∃ x, x = (w.alloc (.cells (zF f) 26)) := ⟨_, rfl⟩
 obtain ⟨B1, hB1⟩ : ∃ x, x = W0.heap.size := ⟨_, rfl⟩
 rw [← hW0] at hb0 hB0
 have HB0 := hid hb0
 have HBX : Hid (∀ w', Below B1 W0 w' → Block w' w.heap.size 26 (zF f)) := hid (fun w' hb => hB0.later (hB1 ▸ hb))
 have HS0 : Hid (w.heap.size ≤ B1) := hid (by rw [hB1]; exact hb0.size)
 have HW := hid h
 unfold OwnsF putL
 have hlen : (L.take k ++ ([f] ++ L.drop k)).length = k + 1 + (L.length - k) := by simp; omega
 have e1 : fdV (L.take k ++ ([f] ++ L.drop k)) = fdV (L.take k) ++ fdC f ++ fdV (L.drop k) := by rw [fdV_append, fdV_append]; simp [fdV]
 rw [hlen, e1]
 have hs1 := fun W => cutF_to W a L.length cap k (by omega)
 have HK := hid hk
 have HC := hid hc
 have HL := hid hL
 have l1 : (fdV (L.take k)).length = k * 5 := by rw [fdV_length, List.length_take, Nat.min_eq_left (by omega)]
 have l2 : (fdV (L.drop k)).length = (L.length - k) * 5 := by rw [fdV_length, List.length_drop]
 have HL1 := hid l1
 have HL2 := hid l2
 have HN1 := news_to (h.below hb0) cap k hk hc
 rw [hW0] at HN1
 replace HN1 := hid HN1
 have HW0 := hid hW0
 have HB1 := hid hB1
 have HM1 : Hid (0 + k ≤ maxLen) := by show _ ≤ _; unfold maxLen; omega
 have HM2 : Hid ((0 + k) * 40 ≤ 140737488355328) := by show _ ≤ _; omega
 have HBL : Hid (B1 ≤ ((w.alloc (.cells (zF f) 26))).heap.size) := hid (by rw [hB1, hW0]; exact Nat.le_refl _)
 clear hlen e1 l1 l2 h hk hc hL hb0 hB0 hW0 hB1
 go_enter Tryz.func45, Tryz.ntmps45
 go_wp2_with (at_builtin; refine wpList_append_fromN rfl _ _ 30 rfl B1 26 i0 _ 5 40 Tryz.underlying30 hi hz0 hz1 hz2 (by simp [Value.cells]) (by omega) (.slice none 0 0) 0 [] rfl (World.ownsRow_nil _ _ _ _) (shiftF a 0 cap) k cap (fdV (L.take k)) rfl HL1.out HN1.out (fdV_one _) HM1.out HM2.out HBL.out ?_)
 intro v1 w1 ho hg
 obtain ⟨x1, c1, rfl, _⟩ := ownsRow_slice ho
 have hb1 : Below B1 W0 w1 := by rw [HB1.out, HW0.out]; exact (Below.refl _ _).grown hg (Nat.le_refl _) (fun k hk => by cases hk)
 have hsz1 : B1 ≤ w1.heap.size := Nat.le_trans HBL.out hg.size
 have HO := hid ho
 have HB2 := hid hb1
 have HZ1 := hid hsz1
 clear ho hg hb1 hsz1
 go_wp2
 refine plan.regionS (S := fun w' => Block w' w.heap.size 26 (zF f)) ?_
 have hd : Below B1 W0 w1.drew := below_drewN HB2.out 1
 have hz : B1 ≤ w1.drew.heap.size := HZ1.out
 have hod := ownsRow_heap (w' := w1.drew) HO.out (fun g hg => rfl)
 have hS := HBX.out _ hd
 generalize w1.drew = wd at *
 refine plan.firstS 0 _ (.slice x1 k c1) rfl (fun w' hS' => (by kernel_rfl)) hS ?_
 refine plan.firstS 1 _ (zF f) rfl (fun w' hS' => (exec_load_at (b := w.heap.size) (off := 0) rfl hS'.whole Tryz.underlying26 rfl info_fd.out)) hS ?_
 refine plan.firstS 4 _ (.slice a L.length cap) rfl (fun w' hS' => (by kernel_rfl)) hS ?_
 refine plan.firstS 5 _ (.int .i64 (k : Int)) rfl (fun w' hS' => (by kernel_rfl)) hS ?_
 refine plan.firstS 6 _ (.slice (shiftF a k cap) (L.length - k) (cap - k)) rfl (fun w' hS' => (exec_cutF_from rfl HK.out)) hS ?_
 obtain ⟨w2, hw2⟩ : ∃ x, x = wd.alloc (.cells (zF f) 26) := ⟨_, rfl⟩
 have hb2 : Below B1 W0 w2 := by rw [hw2]; exact hd.alloc hz _
 have hR2 : Block w2 wd.heap.size 26 (fdC f) := by rw [hw2]; exact Block.new wd _ _
 have ho2 : w2.ownsRow B1 26 5 (.slice x1 k c1) k (fdV (L.take k)) := by rw [hw2]; exact hod.alloc _
 have hS2 := HBX.out _ hb2
 have hz2 : B1 ≤ w2.heap.size := by rw [hw2]; simp; omega
 refine plan.oneS (w1 := wd.alloc (.cells (zF f) 26)) 2 _ (.slice (some ⟨wd.heap.size, 0, none⟩) 1 1) rfl rfl (by rw [← hw2]; exact hS2) ?_
 rw [← hw2]
 obtain ⟨q3, w3, r3, o3, g3⟩ := run_app (m := 1) (c := 1) (ap := some ⟨wd.heap.size, 0, none⟩) ho2 (news := fdC f) rfl (.inr ⟨_, rfl, fun j v hj => by rw [Addr.add_lit, Nat.zero_add]; exact (hR2.cell j).trans hj⟩) (by have := fdV_one [f]; simpa [fdV] using this) (by have := HK.out; have := HL.out; omega) hz2
 have hb3 := below_own hb2 ho2 g3 hz2
 have hz3 : B1 ≤ w3.heap.size := Nat.le_trans hz2 g3.size
 have hS3 := HBX.out _ hb3
 refine plan.oneS (w1 := w3) 3 _ (q3) rfl rfl (hv := (r3 _ _ _ _ rfl rfl (by kernel_rfl) (by kernel_rfl))) hS3 ?_
 obtain ⟨q4, w4, r4, o4, g4⟩ := run_app (m := L.length - k) (c := cap - k) (ap := shiftF a k cap) o3 HL2.out (news_from (HW.out.below (HB0.out.trans (hb3.mono HS0.out))) cap k HK.out HC.out) (fdV_one _) (by have := HK.out; have := HL.out; omega) hz3
 have hb4 := below_own hb3 o3 g4 hz3
 have hS4 := HBX.out _ hb4
 refine plan.oneS (w1 := w4) 7 _ (q4) rfl rfl (hv := (r4 _ _ _ _ rfl rfl (by kernel_rfl) (by kernel_rfl))) hS4 ?_
 refine plan.oneS (w1 := w4) 8 _ (q4) rfl rfl hS4 ?_
 refine plan.doneS ?_
 walk_nrm
 go_wp2
 go_ret
 exact ⟨_, rfl, own_low o4 HS0.out, HB0.out.trans (hb4.mono HS0.out)⟩
end Go.Proofs.YtaciegkblklokaaGreat.typing
