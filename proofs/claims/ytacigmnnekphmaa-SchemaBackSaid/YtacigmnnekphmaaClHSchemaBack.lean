/- SchemaBack returns true for every schema and all bytes, and each argument reads afterwards as it read before. No condition. -/
import Derived.Test.YtacigmnnekphmaaCmD
import Derived.Test.YtacigmnnekphmaaCmJ
import Derived.Test.YtacigmnnekphmaaCmA
/- SchemaBack returns true. No condition. -/
namespace Go.Proofs.Ytacigmnnekphmaa.schemaBack
open Go.RowKit Go.Proofs.Ytacigmnnekphmaa.pen Go.Proofs.Ytacigmnnekphmaa.schema
set_option linter.unusedVariables false

set_option maxRecDepth 20000 in
set_option maxHeartbeats 1600000 in
theorem walk0 (v : Int) (sa : Option Addr) (sc : Nat) (F : List Fm) (a : Option Addr) (cap : Nat) (xs : List Nat) (w : World) (hf : FmL w sa F) (hF : F.length ≤ maxLen) (hr : Reads .u8 w a xs.length xs) (hx : ∀ x ∈ xs, x < 256) (hc : xs.length ≤ cap) (hm : cap ≤ 140737488351232) :
    Calls Try.prog 5 #[.agg #[.int .i64 v, .slice sa F.length sc], .slice a xs.length cap] w (Yes w) := by
  have HX := hid (boxS v sa F sc w)
  have hb0 := field.newB w (.cells #[.int .i64 v, .slice sa F.length sc] 24)
  have hf0 := hf.below hb0
  have hr0 := hr.below hb0
  have cG := great_any v sa sc F (w.alloc (.cells #[.int .i64 v, .slice sa F.length sc] 24)) hf0 hF
  have cA := fun w' => awake_any w'
  unfold Yes at cA ⊢
  by_cases hg : greatB (forms F) = true
  · rw [hg] at cG
    clear hf hf0 hr hr0 hx hg
    go_enter Try.func5, Try.ntmps5
    go_wp2_with (first
      | (go_at_call 6; ((with_reducible refine cG.mono ?_); rintro e w1 ⟨rfl, hb1⟩; obtain ⟨z0, z1, hbo⟩ := HX.out _ hb1))
      | (go_at_call 7; ((with_reducible refine (cA _).mono ?_); rintro e w2 ⟨rfl, hb2⟩)))
    go_ret
    exact ⟨rfl, hbo.trans (hb2.mono hbo.size)⟩
  rw [Bool.not_eq_true] at hg
  rw [hg] at cG
  clear hg
  have cP := fun w' (hb : Below (w.alloc (.cells #[.int .i64 v, .slice sa F.length sc] 24)).heap.size (w.alloc (.cells #[.int .i64 v, .slice sa F.length sc] 24)) w') (hR : Right v (forms F)) => print_yes v sa sc F w' (hf0.below hb) hR
  have cN := fun w' (hb : Below (w.alloc (.cells #[.int .i64 v, .slice sa F.length sc] 24)).heap.size (w.alloc (.cells #[.int .i64 v, .slice sa F.length sc] 24)) w') (hR : ¬ Right v (forms F)) => print_no v sa sc F w' (hf0.below hb) hF hR
  have cS := fun w' (hb : Below (w.alloc (.cells #[.int .i64 v, .slice sa F.length sc] 24)).heap.size (w.alloc (.cells #[.int .i64 v, .slice sa F.length sc] 24)) w') j b' d' M hM hM2 => refSame_any v sa sc F j b' d' M w' (hf0.below hb) (hM : FmL w' b' M) hF hM2
  obtain ⟨V, P, E, hP⟩ : ∃ V P E, parsed xs = (V, P, E) := ⟨_, _, _, rfl⟩
  have cB := fun w' (hb : Below (w.alloc (.cells #[.int .i64 v, .slice sa F.length sc] 24)).heap.size (w.alloc (.cells #[.int .i64 v, .slice sa F.length sc] 24)) w') Z hz => parse_fix (c := cap) (hr0.below hb) hx (by omega) (E := E) Z hz hP
  have hinv : E = 0 → Right V P ∧ schemaB V P = xs := by
    intro h
    have := parsed_inv (xs := xs) hx (by rw [hP]; exact h)
    rw [hP] at this
    exact this
  have HXS := hid hx
  have HRD := hid hr0
  have HINV := hid hinv
  clear hf hf0 hr hr0 hx hP hinv
  by_cases hR : Right v (forms F)
  · have cP := fun w' hb => cP w' hb hR
    have hlay := parsed_lay hR
    have hlt := schemaB_lt v (forms F)
    have hlen := schemaB_len hR
    clear cN
    generalize schemaB v (forms F) = Y at *
    have cY := fun w' ya yc (hY : Reads .u8 w' ya Y.length Y) => parse_fix (a := ya) (c := yc) hY hlt (by omega) (0 : Int) rfl hlay
    have HFo := hid (rfl : forms F = forms F)
    have hEQ : ∀ (j : Int), j = v → ∀ G : List Fm, forms G = forms F → decide (v = j ∧ forms F = forms G) = true := fun j hj G hG => by simp [hG, hj]
    have HEQ := hid hEQ
    have HML : ∀ G : List Fm, forms G = forms F → G.length ≤ maxLen := fun G hG => by have h1 := hR.2.1; rw [← hG, forms_length] at h1; unfold maxLen; omega
    have HML := hid HML
    clear hR hlay hEQ hlt
    by_cases hE : E = 0
    · subst hE
      have hVP := HINV.out rfl
      have cB := fun w' hb => cB w' hb (0 : Int) rfl
      have hMP : ∀ G : List Fm, forms G = P → G.length ≤ maxLen ∧ Right V (forms G) ∧ schemaB V (forms G) = xs := fun G hG => by
        have h1 := hVP.1.2.1
        rw [← hG, forms_length] at h1
        exact ⟨by unfold maxLen; omega, hG ▸ hVP.1, hG ▸ hVP.2⟩
      have HMP := hid hMP
      clear hVP HINV hMP
      go_enter Try.func5, Try.ntmps5
      go_wp2_with (first
        | (go_at_call 6; ((with_reducible refine cG.mono ?_); rintro e w1 ⟨rfl, hb1⟩; obtain ⟨z0, z1, hbo1⟩ := HX.out _ hb1))
        | (go_at_call 21; ((with_reducible refine (cP _ hb1).mono ?_); rintro e w2 ⟨u2, rfl, ho2, hb2⟩; have hB2 := hb1.trans (hb2.mono hb1.size); obtain ⟨z0, z1, hbo2⟩ := HX.out _ hB2; obtain ⟨a2, c2, rfl, _⟩ := ownsRow_slice ho2; have hrd2 := Reads.own ho2; clear ho2))
        | (go_at_call 23; ((with_reducible refine (cY _ _ _ hrd2).mono ?_); rintro e w3 ⟨a3, c3, F3, rfl, hF3, hm3, hb3⟩; have hB3 := hB2.trans (hb3.mono hB2.size); have hN3 := field.newB w3 (.cells #[.int .i64 v, .slice a3 F3.length c3] 24); have hB3' := hB3.trans (hN3.mono hB3.size); obtain ⟨z0, z1, hbo3⟩ := HX.out _ hB3'; have hm3' := hm3.below hN3; have cS3 := cS _ hB3' v a3 c3 F3 hm3' (HML.out F3 hF3); rw [HEQ.out v rfl F3 hF3] at cS3; clear hm3))
        | (go_at_call 20; ((with_reducible refine cS3.mono ?_); rintro e w4 ⟨rfl, hb4⟩; have hB4 := hB3'.trans (hb4.mono hB3'.size); obtain ⟨z0, z1, hbo4⟩ := HX.out _ hB4; clear cS3))
        | (go_at_call 23; ((with_reducible refine (cB _ hB4).mono ?_); rintro e w5 ⟨a5, c5, F5, rfl, hF5, hm5, hb5⟩; have hB5 := hB4.trans (hb5.mono hB4.size); have hN5 := field.newB w5 (.cells #[.int .i64 V, .slice a5 F5.length c5] 24); have hB5' := hB5.trans (hN5.mono hB5.size); have hbl5 := Block.new w5 24 [.int .i64 V, .slice a5 F5.length c5]; have hm5' := hm5.below hN5; clear hm5))
        | (go_at_call 21; ((with_reducible refine (print_yes V a5 c5 F5 _ hm5' (HMP.out F5 hF5).2.1).mono ?_); rintro e w6 ⟨u6, rfl, ho6, hb6⟩; rw [(HMP.out F5 hF5).2.2] at ho6; have hB6 := hB5'.trans (hb6.mono hB5'.size); obtain ⟨a6, c6, rfl, _⟩ := ownsRow_slice ho6; have hcv6 := Reads.str (P := Try.prog) (Reads.own ho6) 39 5 Try.underlying39 Try.underlying5 c6 9 Try.underlying9; have hcvb := Reads.str (P := Try.prog) (HRD.out.below hB6) 39 5 Try.underlying39 Try.underlying5 cap 9 Try.underlying9; have hbl6 := hbl5.later hb6; have y0 := hbl6.cell 0; have y1 := hbl6.cell 1; have hm6 := hm5'.below hb6; clear ho6))
        | (go_at_call 17; ((with_reducible refine (right_any V a5 c5 F5 _ hm6 (HMP.out F5 hF5).1).mono ?_); rw [decide_eq_true (HMP.out F5 hF5).2.1]; rintro e w7 ⟨rfl, hb7⟩; have hB7 := hB6.trans (hb7.mono hB6.size)))
        | (go_at_call 7; ((with_reducible refine (cA _).mono ?_); rintro e w8 ⟨rfl, hb8⟩)))
      go_ret
      exact ⟨rfl, (HX.out _ (hB7.trans (hb8.mono hB7.size))).2.2⟩
    · have hne : ((E : Int) == 0) = false := by rw [beq_eq_false_iff_ne]; omega
      have cB := fun w' hb => cB w' hb (E : Int) rfl
      clear hE HINV
      go_enter Try.func5, Try.ntmps5
      go_wp2_with (first
        | (go_at_call 6; ((with_reducible refine cG.mono ?_); rintro e w1 ⟨rfl, hb1⟩; obtain ⟨z0, z1, hbo1⟩ := HX.out _ hb1))
        | (go_at_call 21; ((with_reducible refine (cP _ hb1).mono ?_); rintro e w2 ⟨u2, rfl, ho2, hb2⟩; have hB2 := hb1.trans (hb2.mono hb1.size); obtain ⟨z0, z1, hbo2⟩ := HX.out _ hB2; obtain ⟨a2, c2, rfl, _⟩ := ownsRow_slice ho2; have hrd2 := Reads.own ho2; clear ho2))
        | (go_at_call 23; ((with_reducible refine (cY _ _ _ hrd2).mono ?_); rintro e w3 ⟨a3, c3, F3, rfl, hF3, hm3, hb3⟩; have hB3 := hB2.trans (hb3.mono hB2.size); have hN3 := field.newB w3 (.cells #[.int .i64 v, .slice a3 F3.length c3] 24); have hB3' := hB3.trans (hN3.mono hB3.size); obtain ⟨z0, z1, hbo3⟩ := HX.out _ hB3'; have hm3' := hm3.below hN3; have cS3 := cS _ hB3' v a3 c3 F3 hm3' (HML.out F3 hF3); rw [HEQ.out v rfl F3 hF3] at cS3; clear hm3))
        | (go_at_call 20; ((with_reducible refine cS3.mono ?_); rintro e w4 ⟨rfl, hb4⟩; have hB4 := hB3'.trans (hb4.mono hB3'.size); obtain ⟨z0, z1, hbo4⟩ := HX.out _ hB4; clear cS3))
        | (go_at_call 23; ((with_reducible refine (cB _ hB4).mono ?_); rintro e w5 ⟨a5, c5, F5, rfl, hF5, hm5, hb5⟩; have hB5 := hB4.trans (hb5.mono hB4.size); have hN5 := field.newB w5 (.cells #[.int .i64 V, .slice a5 F5.length c5] 24); have hB5' := hB5.trans (hN5.mono hB5.size); have hbl5 := Block.new w5 24 [.int .i64 V, .slice a5 F5.length c5]; have hm5' := hm5.below hN5; clear hm5))
        | (go_at_call 7; ((with_reducible refine (cA _).mono ?_); rintro e w8 ⟨rfl, hb8⟩)))
      go_ret
      exact ⟨rfl, (HX.out _ (hB5'.trans (hb8.mono hB5'.size))).2.2⟩
  · have cN := fun w' hb => cN w' hb hR
    clear cP hR cS
    by_cases hE : E = 0
    · subst hE
      have hVP := HINV.out rfl
      have cB := fun w' hb => cB w' hb (0 : Int) rfl
      have hMP : ∀ G : List Fm, forms G = P → G.length ≤ maxLen ∧ Right V (forms G) ∧ schemaB V (forms G) = xs := fun G hG => by
        have h1 := hVP.1.2.1
        rw [← hG, forms_length] at h1
        exact ⟨by unfold maxLen; omega, hG ▸ hVP.1, hG ▸ hVP.2⟩
      have HMP := hid hMP
      clear hVP HINV hMP
      go_enter Try.func5, Try.ntmps5
      go_wp2_with (first
        | (go_at_call 6; ((with_reducible refine cG.mono ?_); rintro e w1 ⟨rfl, hb1⟩; obtain ⟨z0, z1, hbo1⟩ := HX.out _ hb1))
        | (go_at_call 21; ((with_reducible refine (cN _ hb1).mono ?_); rintro e w2 ⟨rfl, hb2⟩; have hB2 := hb1.trans (hb2.mono hb1.size)))
        | (go_at_call 23; ((with_reducible refine (cB _ hB2).mono ?_); rintro e w5 ⟨a5, c5, F5, rfl, hF5, hm5, hb5⟩; have hB5 := hB2.trans (hb5.mono hB2.size); have hN5 := field.newB w5 (.cells #[.int .i64 V, .slice a5 F5.length c5] 24); have hB5' := hB5.trans (hN5.mono hB5.size); have hbl5 := Block.new w5 24 [.int .i64 V, .slice a5 F5.length c5]; have hm5' := hm5.below hN5; clear hm5))
        | (go_at_call 21; ((with_reducible refine (print_yes V a5 c5 F5 _ hm5' (HMP.out F5 hF5).2.1).mono ?_); rintro e w6 ⟨u6, rfl, ho6, hb6⟩; rw [(HMP.out F5 hF5).2.2] at ho6; have hB6 := hB5'.trans (hb6.mono hB5'.size); obtain ⟨a6, c6, rfl, _⟩ := ownsRow_slice ho6; have hcv6 := Reads.str (P := Try.prog) (Reads.own ho6) 39 5 Try.underlying39 Try.underlying5 c6 9 Try.underlying9; have hcvb := Reads.str (P := Try.prog) (HRD.out.below hB6) 39 5 Try.underlying39 Try.underlying5 cap 9 Try.underlying9; have hbl6 := hbl5.later hb6; have y0 := hbl6.cell 0; have y1 := hbl6.cell 1; have hm6 := hm5'.below hb6; clear ho6))
        | (go_at_call 17; ((with_reducible refine (right_any V a5 c5 F5 _ hm6 (HMP.out F5 hF5).1).mono ?_); rw [decide_eq_true (HMP.out F5 hF5).2.1]; rintro e w7 ⟨rfl, hb7⟩; have hB7 := hB6.trans (hb7.mono hB6.size)))
        | (go_at_call 7; ((with_reducible refine (cA _).mono ?_); rintro e w8 ⟨rfl, hb8⟩)))
      go_ret
      exact ⟨rfl, (HX.out _ (hB7.trans (hb8.mono hB7.size))).2.2⟩
    · have hne : ((E : Int) == 0) = false := by rw [beq_eq_false_iff_ne]; omega
      have cB := fun w' hb => cB w' hb (E : Int) rfl
      clear hE HINV
      go_enter Try.func5, Try.ntmps5
      go_wp2_with (first
        | (go_at_call 6; ((with_reducible refine cG.mono ?_); rintro e w1 ⟨rfl, hb1⟩; obtain ⟨z0, z1, hbo1⟩ := HX.out _ hb1))
        | (go_at_call 21; ((with_reducible refine (cN _ hb1).mono ?_); rintro e w2 ⟨rfl, hb2⟩; have hB2 := hb1.trans (hb2.mono hb1.size)))
        | (go_at_call 23; ((with_reducible refine (cB _ hB2).mono ?_); rintro e w5 ⟨a5, c5, F5, rfl, hF5, hm5, hb5⟩; have hB5 := hB2.trans (hb5.mono hB2.size); have hN5 := field.newB w5 (.cells #[.int .i64 V, .slice a5 F5.length c5] 24); have hB5' := hB5.trans (hN5.mono hB5.size); have hbl5 := Block.new w5 24 [.int .i64 V, .slice a5 F5.length c5]; have hm5' := hm5.below hN5; clear hm5))
        | (go_at_call 7; ((with_reducible refine (cA _).mono ?_); rintro e w8 ⟨rfl, hb8⟩)))
      go_ret
      exact ⟨rfl, (HX.out _ (hB5'.trans (hb8.mono hB5'.size))).2.2⟩
theorem walk (p : Sc) (a : Option Addr) (len cap : Nat) (xs : List Nat) (w : World) (hp : p.Good w) (hr : Reads .u8 w a len xs) (hx : ∀ x ∈ xs, x < 256) (hc : len ≤ cap) (hm : cap * 1 ≤ 140737488351232) :
    Calls Try.prog 5 #[p.val, .slice a len cap] w (Yes w) := by
  obtain rfl := hr.1
  exact walk0 p.ver p.f p.fCap p.fL a cap xs w ⟨hp.rf, fun q hq => (hp.mf q hq).ok⟩ (Nat.le_trans hp.cf hp.df) hr hx hc (by omega)
end Go.Proofs.Ytacigmnnekphmaa.schemaBack
/- SchemaBack returns true for every schema and all bytes, and each argument reads afterwards as it read before. No condition. -/
namespace Go.Proofs.Ytacigmnnekphmaa.schemaBack
open Go.ChangeShapes Go.WideShapes Go.ChangeAt Go.RowKit Go.Proofs.Ytacigmnnekphmaa.schema
open Go.ChangeMaps (open_string shut_string)
set_option linter.unusedVariables false
set_option maxRecDepth 100000 in
theorem lifted (os : Os) (started : os.Started) (H : Type) (enc : TypeId × Value → H) :
    ReturnsInHanded {} Try.checked os 5 .any (Rows.schemaBackSpec.pre6 enc Try.prog Try.f5 Rows.schemaBackRow.domain false) (Rows.schemaBackSpec.post enc Try.prog Try.f5 false true false false) := by
  refine returnsInHanded_of_change_sized (C := Try.checked) own started (by kernel_rfl) Try.func5
    (ChangeSpec.witness6 (enc := enc) (C := Try.checked) false ⟨#[], #[.agg #[.int .i64 0, .slice none 0 0], .slice none 0 0], []⟩ 8 (by kernel_rfl) (by kernel_rfl) (by kernel_rfl) (by kernel_rfl)) ?_
  intro W base args ds gs before hval0 hW hcnd hsz0 _
  have hsz : (DataW.weightsEach Try.prog (Try.f5.params.toList ++ Rows.schemaBackSpec.plain.varTypes Try.prog) (ds ++ gs)).all (· ≤ reachBytes) = true := hsz0
  clear hsz0
  have hval : ∀ (j : Nat) t v, Try.f5.params[j]? = some t → args[j]? = some v → Value.okWide Try.prog W .any base t v := hval0
  have hW' := hW
  obtain ⟨p, q, hA0, hV, rfl, hfz, hnd⟩ := hW
  have hA : DataW.TrodAll enc Try.prog W 0 (fun _ => true) true Try.f5.params.toList args.toList ds p := hA0
  rw [Try.params5] at hA hval hsz
  obtain ⟨v0, vs0, d0, ds0, p0, q0, hargs, rfl, rfl, h0, r0⟩ := trodAll_cons hA
  obtain ⟨v1, vs1, d1, ds1, p1, q1, rfl, rfl, rfl, h1, r1⟩ := trodAll_cons r0
  obtain ⟨rfl, rfl, rfl⟩ := trodAll_nil r1
  obtain rfl : args = #[v0, v1] := by cases args; simp_all
  obtain ⟨rfl, rfl⟩ := trodVars_none hV
  have k0 := h0
  have lt0 : ∀ x ∈ p0, x.block < W.heap.size := by obtain ⟨m, hm⟩ := k0; exact DataW.trod_lt m _ _ _ hm
  obtain ⟨pc0, fp0, rfl⟩ := open_Sc_arg Try.underlying24 (by kernel_rfl) (by kernel_rfl) (by kernel_rfl) fmRow (hval 0 24 v0 rfl rfl) h0
  obtain ⟨a1, len1, cap1, rfl⟩ := okWide_slice Try.underlying39 (hval 1 39 v1 rfl rfl)
  have k1 := h1
  have lt1 : ∀ x ∈ p1, x.block < W.heap.size := by obtain ⟨m, hm⟩ := k1; exact DataW.trod_lt m _ _ _ hm
  obtain ⟨xs1, rd1, xb1, lc1, rs1⟩ := open_uints (j := 1) Try.underlying39 Try.underlying5 (by kernel_rfl) (by kernel_rfl : Try.prog.bytesOf 5 = 1) wf_u8 h1 hsz rfl rfl
  clear hA0 hval0
  refine (walk pc0 a1 len1 cap1 xs1 W fp0 rd1 xb1 lc1 rs1).mono fun e W' ⟨he, bel⟩ => ?_
  subst he
  exact ⟨_, rfl, _, _, _, [], _, [], hW', trodAll_mk1 (shut_bool Try.underlying4 _), (trodAll_cons_mk (Below.trod laidOut (by kernel_rfl) (of_decide_eq_true (by kernel_rfl)) k0 bel lt0) (trodAll_cons_mk (Below.trod laidOut (by kernel_rfl) (of_decide_eq_true (by kernel_rfl)) k1 bel lt1) trodAll_mk0)), rfl, bel.frame _, fun h => by cases h⟩

theorem holds : Rows.SchemaBackSaid :=
  OpenClaim.holds_of_wide 5 Try.f5 rfl rfl rfl rfl rfl rfl rfl ⟨rfl, rfl, rfl, rfl, rfl⟩ rfl rfl rfl rfl rfl (by kernel_rfl) Try.func5 (by kernel_rfl)
    (of_decide_eq_true (by kernel_rfl)) (by unfold Func.isWrapper; first | (rw [if_pos (by decide +kernel)]; kernel_rfl) | (rw [if_neg (by decide +kernel)]; exact ⟨rfl, rfl⟩))
    (fun os started H enc _ => lifted os started H enc)
#print axioms holds
end Go.Proofs.Ytacigmnnekphmaa.schemaBack
