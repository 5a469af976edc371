/- RecordBack returns true for every form, every record and all bytes, and each argument reads afterwards as it read before. No condition. -/
import Derived.Test.YtegeeobfamjjpaaCmH
import Derived.Conc.WalkWords
import Derived.Test.YtegeeobfamjjpaaCmA
/- RecordBack returns true. No condition. -/
namespace Go.Proofs.Ytegeeobfamjjpaa.recordBack
open Go.RowKit Go.Proofs.Ytegeeobfamjjpaa.record
open Go.Proofs.Ytegeeobfamjjpaa.field (Va Gives newB gives_from u8v)
open Go.Proofs.Ytegeeobfamjjpaa.schema (Fine refLong_any size own_cap)
set_option linter.unusedVariables false

set_option maxRecDepth 20000 in
set_option maxHeartbeats 3200000 in
theorem walk0 (i : Int) (a : Option Addr) (c : Nat) (L : List field.Fd) (j : Int) (b : Option Addr) (d : Nat) (V : List Va) (ab : Option Addr) (lenb capb : Nat) (xs : List Nat) (w : World)
    (hl : field.Fds w a L) (hL : L.length ≤ maxLen) (hv : field.Vas w b V) (hV : V.length ≤ maxLen) (hrd : Reads .u8 w ab lenb xs) (hxs : ∀ x ∈ xs, x < 256) (hcb : lenb ≤ capb) (hmb : capb ≤ 9223372036854775807) :
    Calls Try.prog 5 #[.agg #[.int .i64 i, .slice a L.length c], .agg #[.int .i64 j, .slice b V.length d], .slice ab lenb capb] w (Yes w) := by
  have hw := (WF.all i a L c j b V d w _ (Below.refl _ _)).2.2.2.2
  have hRF := (Block.new w 24 [.int .i64 i, .slice a L.length c]).alloc (.cells #[.int .i64 j, .slice b V.length d] 27)
  have hRR := Block.new (w.alloc (.cells #[.int .i64 i, .slice a L.length c] 24)) 27 [.int .i64 j, .slice b V.length d]
  rw [show ((w.alloc (.cells #[.int .i64 i, .slice a L.length c] 24))).heap.size = w.heap.size + 1 by simp] at hRR
  have hl0 := hl.below hw
  have hv0 := hv.below hw
  have hrd0 := hrd.below hw
  have cA : ∀ w', Calls Try.prog 7 #[] w' (Gives (.bool true) w') := fun w' => awake_any w'
  unfold WF at hl0 hv0 hrd0 hw
  obtain ⟨W0, hW0⟩ : ∃ x, (w.alloc (.cells #[.int .i64 i, .slice a L.length c] 24)).alloc (.cells #[.int .i64 j, .slice b V.length d] 27) = x := ⟨_, rfl⟩
  have HW0 := hid hW0
  rw [hW0] at hl0 hv0 hrd0 hw
  have HL := hid hl0
  have HV := hid hv0
  have HRD := hid hrd0
  have HXS := hid hxs
  have HRF : Hid (Block W0 w.heap.size 24 [.int .i64 i, .slice a L.length c]) := hid (by rw [← hW0]; exact hRF)
  have HRR : Hid (Block W0 (w.heap.size + 1) 27 [.int .i64 j, .slice b V.length d]) := hid (by rw [← hW0]; exact hRR)
  have HB0 := hid hw
  obtain ⟨g, hg⟩ : ∃ g, Hid (decide (40 < L.length ∨ 40 < V.length) = g) := ⟨_, hid rfl⟩
  have cG0 := great_any i a c L j b d V W0 g hg.out
  have cLay := fun w' (hb : Below W0.heap.size W0 w') => layR_any i a c L j b d V w' (HL.out.below hb) (HV.out.below hb) hL hV
  have cTake := fun w' (hb : Below W0.heap.size W0 w') => takeR_any i a c L ab lenb capb xs w' (HL.out.below hb) hL (HRD.out.below hb) HXS.out hcb hmb
  have cLo := fun (hL4 : L.length ≤ 40) w' (hb : Below W0.heap.size W0 w') => refLong_any i a c L w' (HL.out.below hb) hL4
  have cL2 := fun TF x6 c6 (TV : List Va) w' (hb : Below W0.heap.size W0 w') (hv6 : field.Vas w' x6 TV) (hn : TV.length ≤ maxLen) => layR_any i a c L TF x6 c6 TV w' (HL.out.below hb) hv6 hL hn
  clear hl hv hl0 hv0 hRF hRR hw hW0 hrd hrd0 hxs
  rw [← HW0.out] at cG0
  unfold Gives at cA cG0
  unfold LaysR at cLay
  unfold TakesR at cTake
  by_cases hgt : g = true
  · subst hgt
    clear cLay cTake cLo cL2
    go_enter Try.func5, Try.ntmps5
    go_wp2_with (first
      | (go_at_call 6; ((with_reducible refine cG0.mono ?_); clear cG0; rintro e w1 ⟨rfl, hb01⟩; rw [HW0.out] at hb01; have fb1 := HRF.out.later hb01; have rb1 := HRR.out.later hb01; have x0 := fb1.cell 0; have x1 := fb1.cell 1; have v0 := rb1.cell 0; have v1 := rb1.cell 1))
      | (go_at_call 7; ((with_reducible refine (cA _).mono ?_); rintro e w9 ⟨rfl, hb9⟩)))
    go_ret
    exact ⟨rfl, HB0.out.trans ((hb01.trans (hb9.mono hb01.size)).mono HB0.out.size)⟩
  rw [Bool.not_eq_true] at hgt
  subst hgt
  obtain ⟨⟨TF, TV, TE⟩, hT⟩ : ∃ T, Hid (takeR i L xs = T) := ⟨_, hid rfl⟩
  rw [hT.out] at cTake
  simp only at cTake
  obtain ⟨ST, hST⟩ : ∃ s, Hid (strOf xs = s) := ⟨_, hid rfl⟩
  have HST := hST
  unfold LaysR at cL2
  by_cases hh : Has i L j V
  · have hL8 := fine_len hh.1
    rw [show layB i L j V = layL L V from if_pos hh, show layE i L j V = 0 from (if_neg (fun k => k hh.1)).trans (if_neg (fun k => k hh.2))] at cLay
    have cT1 := fun ua uc w' (hb : Below W0.heap.size W0 w') (hr : Reads .u8 w' ua (layL L V).length (layL L V)) (hc : (layL L V).length ≤ uc) (hm : uc ≤ maxLen) => takeR_any i a c L ua (layL L V).length uc (layL L V) w' (HL.out.below hb) hL hr (layL_lt L V) hc (by unfold maxLen at hm; omega)
    unfold TakesR at cT1
    rw [takeR_back hh] at cT1
    simp only at cT1
    have cRS := fun x3 c3 w' (hb : Below W0.heap.size W0 w') (h3 : field.Vas w' x3 V) => refSame_any j x3 c3 V j b d V w' h3 (HV.out.below hb) hV hV
    simp only at cRS
    replace cLo := cLo (by omega)
    unfold Gives at cRS cLo
    have hle : ¬ (((layL L V).length : Int) > (size L : Int)) := by have := layL_le L V; omega
    have hle2 : decide (((layL L V).length : Int) > (size L : Int)) = false := decide_eq_false hle
    have hle3 : ¬ (size L < (layL L V).length) := by have := layL_le L V; omega
    clear hh hL8 hcb hmb
    generalize layL L V = Y at *
    generalize size L = Z at *
    by_cases hE : TE = 0
    · subst hE
      obtain ⟨hh2, hx2⟩ := takeR_there HXS.out hT.out
      replace cL2 := fun x6 c6 w' (hb : Below W0.heap.size W0 w') (hv6 : field.Vas w' x6 TV) => cL2 TF x6 c6 TV w' hb hv6 (by have h1 := hh2.2.2.length; have h2 := fine_len hh2.1; unfold maxLen; omega)
      rw [show layB i L TF TV = xs from (if_pos hh2).trans hx2, show layE i L TF TV = 0 from (if_neg (fun k => k hh2.1)).trans (if_neg (fun k => k hh2.2))] at cL2
      clear hh2 hx2 hT
      go_enter Try.func5, Try.ntmps5
      go_wp2_with (first
        | (go_at_call 6; ((with_reducible refine cG0.mono ?_); clear cG0; rintro e w1 ⟨rfl, hb01⟩; rw [HW0.out] at hb01; have fb1 := HRF.out.later hb01; have rb1 := HRR.out.later hb01; have x0 := fb1.cell 0; have x1 := fb1.cell 1; have v0 := rb1.cell 0; have v1 := rb1.cell 1))
        | (go_at_call 15; ((with_reducible refine (cLay _ hb01).mono ?_); rintro e w2 ⟨z2, rfl, ho2, hb2⟩; have hb02 := hb01.trans (hb2.mono hb01.size); have fb2 := HRF.out.later hb02; have rb2 := HRR.out.later hb02; have x0 := fb2.cell 0; have x1 := fb2.cell 1; have v0 := rb2.cell 0; have v1 := rb2.cell 1; obtain ⟨ua, uc, rfl, _⟩ := ownsRow_slice ho2; have HO2 := hid ho2))
        | (go_at_call 16; ((with_reducible refine (cT1 ua uc _ hb02 (Reads.own (xs := Y) ho2) (own_cap ho2).1 (own_cap ho2).2).mono ?_); rintro e w3 ⟨x3, c3, rfl, hv3, hb3⟩; have hb03 := hb02.trans (hb3.mono hb02.size); have fb3 := HRF.out.later hb03; have rb3 := HRR.out.later hb03; have x0 := fb3.cell 0; have x1 := fb3.cell 1; have v0 := rb3.cell 0; have v1 := rb3.cell 1; have hz3 : w.heap.size < w3.heap.size := fb3.lt; have hz3r : w.heap.size + 1 < w3.heap.size := rb3.lt; have hbA := hb03.trans ((newB w3 (.cells #[.int .i64 j, .slice x3 V.length c3] 27)).mono hb03.size); have hvA := hv3.below (newB w3 (.cells #[.int .i64 j, .slice x3 V.length c3] 27))))
        | (go_at_call 12; ((with_reducible refine (cRS x3 c3 _ hbA hvA).mono ?_); rintro e w4 ⟨rfl, hb4⟩; have hb04 := hbA.trans (hb4.mono hbA.size); have fb4 := HRF.out.later hb04; have rb4 := HRR.out.later hb04; have x0 := fb4.cell 0; have x1 := fb4.cell 1; have v0 := rb4.cell 0; have v1 := rb4.cell 1))
        | (go_at_call 19; ((with_reducible refine (cLo _ hb04).mono ?_); rintro e w5 ⟨rfl, hb5⟩; have hb05 := hb04.trans (hb5.mono hb04.size); have fb5 := HRF.out.later hb05; have rb5 := HRR.out.later hb05; have x0 := fb5.cell 0; have x1 := fb5.cell 1; have v0 := rb5.cell 0; have v1 := rb5.cell 1))
        | (go_at_call 16; ((with_reducible refine (cTake _ hb05).mono ?_); rintro e w6 ⟨x6, c6, rfl, hv6, hb6⟩; have hb06 := hb05.trans (hb6.mono hb05.size); have fb6 := HRF.out.later hb06; have rb6 := HRR.out.later hb06; have x0 := fb6.cell 0; have x1 := fb6.cell 1; have v0 := rb6.cell 0; have v1 := rb6.cell 1; have hz6 : w.heap.size < w6.heap.size := fb6.lt; have hbC := hb06.trans ((newB w6 (.cells #[.int .i64 TF, .slice x6 TV.length c6] 27)).mono hb06.size); have hvC := hv6.below (newB w6 (.cells #[.int .i64 TF, .slice x6 TV.length c6] 27))))
        | (go_at_call 15; ((with_reducible refine (cL2 x6 c6 _ hbC hvC).mono ?_); rintro e w7 ⟨z7, rfl, ho7, hb7⟩; have hb07 := hbC.trans (hb7.mono hbC.size); have fb7 := HRF.out.later hb07; have rb7 := HRR.out.later hb07; have x0 := fb7.cell 0; have x1 := fb7.cell 1; have v0 := rb7.cell 0; have v1 := rb7.cell 1; obtain ⟨ta, tc, rfl, _⟩ := ownsRow_slice ho7; have hcz := Reads.str (P := Try.prog) (Reads.own (xs := xs) ho7) 34 5 Try.underlying34 Try.underlying5 tc 9 Try.underlying9; have hcb := Reads.str (P := Try.prog) (HRD.out.below hb07) 34 5 Try.underlying34 Try.underlying5 capb 9 Try.underlying9; rw [HST.out] at hcz hcb))
        | (go_at_call 7; ((with_reducible refine (cA _).mono ?_); rintro e w9 ⟨rfl, hb9⟩)))
      go_ret
      exact ⟨rfl, HB0.out.trans ((hb07.trans (hb9.mono hb07.size)).mono HB0.out.size)⟩
    · have hE2 : (TE == 0) = false := beq_eq_false_iff_ne.2 hE
      clear hT cL2 hE
      go_enter Try.func5, Try.ntmps5
      go_wp2_with (first
        | (go_at_call 6; ((with_reducible refine cG0.mono ?_); clear cG0; rintro e w1 ⟨rfl, hb01⟩; rw [HW0.out] at hb01; have fb1 := HRF.out.later hb01; have rb1 := HRR.out.later hb01; have x0 := fb1.cell 0; have x1 := fb1.cell 1; have v0 := rb1.cell 0; have v1 := rb1.cell 1))
        | (go_at_call 15; ((with_reducible refine (cLay _ hb01).mono ?_); rintro e w2 ⟨z2, rfl, ho2, hb2⟩; have hb02 := hb01.trans (hb2.mono hb01.size); have fb2 := HRF.out.later hb02; have rb2 := HRR.out.later hb02; have x0 := fb2.cell 0; have x1 := fb2.cell 1; have v0 := rb2.cell 0; have v1 := rb2.cell 1; obtain ⟨ua, uc, rfl, _⟩ := ownsRow_slice ho2; have HO2 := hid ho2))
        | (go_at_call 16; ((with_reducible refine (cT1 ua uc _ hb02 (Reads.own (xs := Y) ho2) (own_cap ho2).1 (own_cap ho2).2).mono ?_); rintro e w3 ⟨x3, c3, rfl, hv3, hb3⟩; have hb03 := hb02.trans (hb3.mono hb02.size); have fb3 := HRF.out.later hb03; have rb3 := HRR.out.later hb03; have x0 := fb3.cell 0; have x1 := fb3.cell 1; have v0 := rb3.cell 0; have v1 := rb3.cell 1; have hz3 : w.heap.size < w3.heap.size := fb3.lt; have hz3r : w.heap.size + 1 < w3.heap.size := rb3.lt; have hbA := hb03.trans ((newB w3 (.cells #[.int .i64 j, .slice x3 V.length c3] 27)).mono hb03.size); have hvA := hv3.below (newB w3 (.cells #[.int .i64 j, .slice x3 V.length c3] 27))))
        | (go_at_call 12; ((with_reducible refine (cRS x3 c3 _ hbA hvA).mono ?_); rintro e w4 ⟨rfl, hb4⟩; have hb04 := hbA.trans (hb4.mono hbA.size); have fb4 := HRF.out.later hb04; have rb4 := HRR.out.later hb04; have x0 := fb4.cell 0; have x1 := fb4.cell 1; have v0 := rb4.cell 0; have v1 := rb4.cell 1))
        | (go_at_call 19; ((with_reducible refine (cLo _ hb04).mono ?_); rintro e w5 ⟨rfl, hb5⟩; have hb05 := hb04.trans (hb5.mono hb04.size); have fb5 := HRF.out.later hb05; have rb5 := HRR.out.later hb05; have x0 := fb5.cell 0; have x1 := fb5.cell 1; have v0 := rb5.cell 0; have v1 := rb5.cell 1))
        | (go_at_call 16; ((with_reducible refine (cTake _ hb05).mono ?_); rintro e w6 ⟨x6, c6, rfl, hv6, hb6⟩; have hb06 := hb05.trans (hb6.mono hb05.size); have fb6 := HRF.out.later hb06; have rb6 := HRR.out.later hb06; have x0 := fb6.cell 0; have x1 := fb6.cell 1; have v0 := rb6.cell 0; have v1 := rb6.cell 1; have hz6 : w.heap.size < w6.heap.size := fb6.lt; have hbC := hb06.trans ((newB w6 (.cells #[.int .i64 TF, .slice x6 TV.length c6] 27)).mono hb06.size); have hvC := hv6.below (newB w6 (.cells #[.int .i64 TF, .slice x6 TV.length c6] 27))))
        | (go_at_call 7; ((with_reducible refine (cA _).mono ?_); rintro e w9 ⟨rfl, hb9⟩)))
      go_ret
      exact ⟨rfl, HB0.out.trans ((hbC.trans (hb9.mono hbC.size)).mono HB0.out.size)⟩
  · have hE0 : layE i L j V ≠ 0 := by
      unfold layE
      split
      · simp
      · rename_i h1
        rw [if_pos (fun k => hh ⟨Classical.byContradiction h1, k⟩)]; simp
    have hE1 : (layE i L j V == 0) = false := beq_eq_false_iff_ne.2 hE0
    rw [show layB i L j V = [] from if_neg hh] at cLay
    simp only [List.length_nil] at cLay
    clear hh hcb hmb cLo hE0
    generalize layE i L j V = E at *
    by_cases hE : TE = 0
    · subst hE
      obtain ⟨hh2, hx2⟩ := takeR_there HXS.out hT.out
      replace cL2 := fun x6 c6 w' (hb : Below W0.heap.size W0 w') (hv6 : field.Vas w' x6 TV) => cL2 TF x6 c6 TV w' hb hv6 (by have h1 := hh2.2.2.length; have h2 := fine_len hh2.1; unfold maxLen; omega)
      rw [show layB i L TF TV = xs from (if_pos hh2).trans hx2, show layE i L TF TV = 0 from (if_neg (fun k => k hh2.1)).trans (if_neg (fun k => k hh2.2))] at cL2
      clear hh2 hx2 hT
      go_enter Try.func5, Try.ntmps5
      go_wp2_with (first
        | (go_at_call 6; ((with_reducible refine cG0.mono ?_); clear cG0; rintro e w1 ⟨rfl, hb01⟩; rw [HW0.out] at hb01; have fb1 := HRF.out.later hb01; have rb1 := HRR.out.later hb01; have x0 := fb1.cell 0; have x1 := fb1.cell 1; have v0 := rb1.cell 0; have v1 := rb1.cell 1))
        | (go_at_call 15; ((with_reducible refine (cLay _ hb01).mono ?_); rintro e w2 ⟨z2, rfl, ho2, hb2⟩; have hb02 := hb01.trans (hb2.mono hb01.size); have fb2 := HRF.out.later hb02; have rb2 := HRR.out.later hb02; have x0 := fb2.cell 0; have x1 := fb2.cell 1; have v0 := rb2.cell 0; have v1 := rb2.cell 1; obtain ⟨ua, uc, rfl, _⟩ := ownsRow_slice ho2; have HO2 := hid ho2))
        | (go_at_call 16; ((with_reducible refine (cTake _ hb02).mono ?_); rintro e w6 ⟨x6, c6, rfl, hv6, hb6⟩; have hb06 := hb02.trans (hb6.mono hb02.size); have fb6 := HRF.out.later hb06; have rb6 := HRR.out.later hb06; have x0 := fb6.cell 0; have x1 := fb6.cell 1; have v0 := rb6.cell 0; have v1 := rb6.cell 1; have hz6 : w.heap.size < w6.heap.size := fb6.lt; have hbC := hb06.trans ((newB w6 (.cells #[.int .i64 TF, .slice x6 TV.length c6] 27)).mono hb06.size); have hvC := hv6.below (newB w6 (.cells #[.int .i64 TF, .slice x6 TV.length c6] 27))))
        | (go_at_call 15; ((with_reducible refine (cL2 x6 c6 _ hbC hvC).mono ?_); rintro e w7 ⟨z7, rfl, ho7, hb7⟩; have hb07 := hbC.trans (hb7.mono hbC.size); have fb7 := HRF.out.later hb07; have rb7 := HRR.out.later hb07; have x0 := fb7.cell 0; have x1 := fb7.cell 1; have v0 := rb7.cell 0; have v1 := rb7.cell 1; obtain ⟨ta, tc, rfl, _⟩ := ownsRow_slice ho7; have hcz := Reads.str (P := Try.prog) (Reads.own (xs := xs) ho7) 34 5 Try.underlying34 Try.underlying5 tc 9 Try.underlying9; have hcb := Reads.str (P := Try.prog) (HRD.out.below hb07) 34 5 Try.underlying34 Try.underlying5 capb 9 Try.underlying9; rw [HST.out] at hcz hcb))
        | (go_at_call 7; ((with_reducible refine (cA _).mono ?_); rintro e w9 ⟨rfl, hb9⟩)))
      go_ret
      exact ⟨rfl, HB0.out.trans ((hb07.trans (hb9.mono hb07.size)).mono HB0.out.size)⟩
    · have hE2 : (TE == 0) = false := beq_eq_false_iff_ne.2 hE
      clear hT cL2 hE
      go_enter Try.func5, Try.ntmps5
      go_wp2_with (first
        | (go_at_call 6; ((with_reducible refine cG0.mono ?_); clear cG0; rintro e w1 ⟨rfl, hb01⟩; rw [HW0.out] at hb01; have fb1 := HRF.out.later hb01; have rb1 := HRR.out.later hb01; have x0 := fb1.cell 0; have x1 := fb1.cell 1; have v0 := rb1.cell 0; have v1 := rb1.cell 1))
        | (go_at_call 15; ((with_reducible refine (cLay _ hb01).mono ?_); rintro e w2 ⟨z2, rfl, ho2, hb2⟩; have hb02 := hb01.trans (hb2.mono hb01.size); have fb2 := HRF.out.later hb02; have rb2 := HRR.out.later hb02; have x0 := fb2.cell 0; have x1 := fb2.cell 1; have v0 := rb2.cell 0; have v1 := rb2.cell 1; obtain ⟨ua, uc, rfl, _⟩ := ownsRow_slice ho2; have HO2 := hid ho2))
        | (go_at_call 16; ((with_reducible refine (cTake _ hb02).mono ?_); rintro e w6 ⟨x6, c6, rfl, hv6, hb6⟩; have hb06 := hb02.trans (hb6.mono hb02.size); have fb6 := HRF.out.later hb06; have rb6 := HRR.out.later hb06; have x0 := fb6.cell 0; have x1 := fb6.cell 1; have v0 := rb6.cell 0; have v1 := rb6.cell 1; have hz6 : w.heap.size < w6.heap.size := fb6.lt; have hbC := hb06.trans ((newB w6 (.cells #[.int .i64 TF, .slice x6 TV.length c6] 27)).mono hb06.size); have hvC := hv6.below (newB w6 (.cells #[.int .i64 TF, .slice x6 TV.length c6] 27))))
        | (go_at_call 7; ((with_reducible refine (cA _).mono ?_); rintro e w9 ⟨rfl, hb9⟩)))
      go_ret
      exact ⟨rfl, HB0.out.trans ((hbC.trans (hb9.mono hbC.size)).mono HB0.out.size)⟩
theorem walk (f : schema.Fm) (r : Rc) (ab : Option Addr) (lenb capb : Nat) (xs : List Nat) (w : World) (hf : f.Good w) (hr : r.Good w) (hrd : Reads .u8 w ab lenb xs) (hx : ∀ x ∈ xs, x < 256) (hc : lenb ≤ capb) (hm : capb * 1 ≤ 140737488351232) :
    Calls Try.prog 5 #[f.val, r.val, .slice ab lenb capb] w (Yes w) :=
  walk0 f.id f.f f.fCap f.fL r.form r.v r.vCap r.vL ab lenb capb xs w hf.rf (Nat.le_trans hf.cf hf.df) hr.rv (Nat.le_trans hr.cv hr.dv) hrd hx hc (by omega)
end Go.Proofs.Ytegeeobfamjjpaa.recordBack
/- RecordBack returns true for every form, every record and all bytes, and each argument reads afterwards as it read before. No condition. -/
namespace Go.Proofs.Ytegeeobfamjjpaa.recordBack
open Go.ChangeShapes Go.WideShapes Go.ChangeAt Go.RowKit Go.Proofs.Ytegeeobfamjjpaa.record Go.Proofs.Ytegeeobfamjjpaa.schema
open Go.ChangeMaps (open_string shut_string)
set_option linter.unusedVariables false
set_option maxRecDepth 100000 in
theorem lifted (os : Os) (started : os.Started) (H : Type) (enc : TypeId × Value → H) :
    ReturnsInHanded {} Try.checked os 5 .any (Rows.recordBackSpec.pre6 enc Try.prog Try.f5 Rows.recordBackRow.domain false) (Rows.recordBackSpec.post enc Try.prog Try.f5 false true false false) := by
  refine returnsInHanded_of_change_sized (C := Try.checked) own started (by kernel_rfl) Try.func5
    (ChangeSpec.witness6 (enc := enc) (C := Try.checked) false ⟨#[], #[.agg #[.int .i64 0, .slice none 0 0], .agg #[.int .i64 0, .slice none 0 0], .slice none 0 0], []⟩ 8 (by kernel_rfl) (by kernel_rfl) (by kernel_rfl) (by kernel_rfl)) ?_
  intro W base args ds gs before hval0 hW hcnd hsz0 _
  have hsz : (DataW.weightsEach Try.prog (Try.f5.params.toList ++ Rows.recordBackSpec.plain.varTypes Try.prog) (ds ++ gs)).all (· ≤ reachBytes) = true := hsz0
  clear hsz0
  have hval : ∀ (j : Nat) t v, Try.f5.params[j]? = some t → args[j]? = some v → Value.okWide Try.prog W .any base t v := hval0
  have hW' := hW
  obtain ⟨p, q, hA0, hV, rfl, hfz, hnd⟩ := hW
  have hA : DataW.TrodAll enc Try.prog W 0 (fun _ => true) true Try.f5.params.toList args.toList ds p := hA0
  rw [Try.params5] at hA hval hsz
  obtain ⟨v0, vs0, d0, ds0, p0, q0, hargs, rfl, rfl, h0, r0⟩ := trodAll_cons hA
  obtain ⟨v1, vs1, d1, ds1, p1, q1, rfl, rfl, rfl, h1, r1⟩ := trodAll_cons r0
  obtain ⟨v2, vs2, d2, ds2, p2, q2, rfl, rfl, rfl, h2, r2⟩ := trodAll_cons r1
  obtain ⟨rfl, rfl, rfl⟩ := trodAll_nil r2
  obtain rfl : args = #[v0, v1, v2] := by cases args; simp_all
  obtain ⟨rfl, rfl⟩ := trodVars_none hV
  have k0 := h0
  have lt0 : ∀ x ∈ p0, x.block < W.heap.size := by obtain ⟨m, hm⟩ := k0; exact DataW.trod_lt m _ _ _ hm
  obtain ⟨pc0, fp0, rfl⟩ := open_Fm_arg Try.underlying24 (by kernel_rfl) (by kernel_rfl) (by kernel_rfl) Go.Proofs.Ytegeeobfamjjpaa.field.fdRow (hval 0 24 v0 rfl rfl) h0
  have k1 := h1
  have lt1 : ∀ x ∈ p1, x.block < W.heap.size := by obtain ⟨m, hm⟩ := k1; exact DataW.trod_lt m _ _ _ hm
  obtain ⟨pc1, fp1, rfl⟩ := open_Rc_arg Try.underlying27 (by kernel_rfl) (by kernel_rfl) (by kernel_rfl) Go.Proofs.Ytegeeobfamjjpaa.field.vaRow (hval 1 27 v1 rfl rfl) h1
  obtain ⟨a2, len2, cap2, rfl⟩ := okWide_slice Try.underlying34 (hval 2 34 v2 rfl rfl)
  have k2 := h2
  have lt2 : ∀ x ∈ p2, x.block < W.heap.size := by obtain ⟨m, hm⟩ := k2; exact DataW.trod_lt m _ _ _ hm
  obtain ⟨xs2, rd2, xb2, lc2, rs2⟩ := open_uints (j := 2) Try.underlying34 Try.underlying5 (by kernel_rfl) (by kernel_rfl : Try.prog.bytesOf 5 = 1) wf_u8 h2 hsz rfl rfl
  clear hA0 hval0
  refine (walk pc0 pc1 a2 len2 cap2 xs2 W fp0 fp1 rd2 xb2 lc2 rs2).mono fun e W' ⟨he, bel⟩ => ?_
  subst he
  exact ⟨_, rfl, _, _, _, [], _, [], hW', trodAll_mk1 (shut_bool Try.underlying4 _), (trodAll_cons_mk (Below.trod laidOut (by kernel_rfl) (of_decide_eq_true (by kernel_rfl)) k0 bel lt0) (trodAll_cons_mk (Below.trod laidOut (by kernel_rfl) (of_decide_eq_true (by kernel_rfl)) k1 bel lt1) (trodAll_cons_mk (Below.trod laidOut (by kernel_rfl) (of_decide_eq_true (by kernel_rfl)) k2 bel lt2) trodAll_mk0))), rfl, bel.frame _, fun h => by cases h⟩

theorem holds : Rows.RecordBackSaid :=
  OpenClaim.holds_of_wide 5 Try.f5 rfl rfl rfl rfl rfl rfl rfl ⟨rfl, rfl, rfl, rfl, rfl⟩ rfl rfl rfl rfl rfl (by kernel_rfl) Try.func5 (by kernel_rfl)
    (of_decide_eq_true (by kernel_rfl)) (by unfold Func.isWrapper; first | (rw [if_pos (by decide +kernel)]; kernel_rfl) | (rw [if_neg (by decide +kernel)]; exact ⟨rfl, rfl⟩))
    (fun os started H enc _ => lifted os started H enc)
#print axioms holds
end Go.Proofs.Ytegeeobfamjjpaa.recordBack
