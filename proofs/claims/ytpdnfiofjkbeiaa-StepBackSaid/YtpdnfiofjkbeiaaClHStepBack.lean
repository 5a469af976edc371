/- StepBack returns true for every list of steps and every bytes, and each argument reads afterwards as it read before. No condition. -/
import Derived.Test.YtpdnfiofjkbeiaaCmL
import Derived.Test.YtpdnfiofjkbeiaaCmR
import Derived.Test.YtpdnfiofjkbeiaaCmC
import Derived.Test.YtpdnfiofjkbeiaaCmA
/- StepBack returns true. No condition. -/
namespace Go.Proofs.Ytpdnfiofjkbeiaa.stepBack
open Go.RowKit Go.Proofs.Ytpdnfiofjkbeiaa.pen Go.Proofs.Ytpdnfiofjkbeiaa.step
set_option linter.unusedVariables false

set_option maxRecDepth 20000 in
set_option maxHeartbeats 3200000 in
theorem walk0 (sa : Option Addr) (sc : Nat) (L : List St) (a : Option Addr) (cap : Nat) (xs : List Nat) (w : World) (hf : StL w sa L) (hF : L.length ≤ maxLen) (hr : Reads .u8 w a xs.length xs) (hx : ∀ x ∈ xs, x < 256) (hc : xs.length ≤ cap) (hm : cap ≤ 140737488351232) :
    Calls Try.prog 5 #[.slice sa L.length sc, .slice a xs.length cap] w (Yes w) := by
  have cG := great_any sa sc L w hf hF
  have cA : ∀ w', Calls Try.prog 7 #[] w' (field.Gives (.bool true) w') := fun w' => awake_any w'
  unfold field.Gives at cA cG
  unfold Yes
  by_cases hg : GreatL (sps L)
  · rw [decide_eq_true hg] at cG
    clear hf hr hx hg
    go_enter Try.func5, Try.ntmps5
    go_wp2_with (first
      | (go_at_call 6; ((with_reducible refine cG.mono ?_); clear cG; rintro e w1 ⟨rfl, hb1⟩))
      | (go_at_call 7; ((with_reducible refine (cA _).mono ?_); rintro e w8 ⟨rfl, hb8⟩))
        )
    go_ret
    exact ⟨rfl, hb1.trans (hb8.mono hb1.size)⟩
  rw [decide_eq_false hg] at cG
  obtain ⟨PL, PE, hP⟩ : ∃ P E, parsed xs = (P, E) := ⟨_, _, rfl⟩
  have cB := fun w' (hb : Below w.heap.size w w') => parse_fix (c := cap) (hr.below hb) hx (by omega) (E := PE) (PE : Int) rfl hP
  have hinv : PE = 0 → rightsE PL = 0 ∧ listB PL = xs := by
    intro h
    have h1 := parsed_inv (xs := xs) hx (by rw [hP]; exact h)
    rw [hP] at h1
    exact ⟨rightsE_yes h1.2.1 h1.1, h1.2.2⟩
  have HRD := hid hr
  have HINV := hid hinv
  obtain ⟨E, hE⟩ : ∃ E, rightsE (sps L) = E := ⟨_, rfl⟩
  have cP := fun w' (hb : Below w.heap.size w w') (h0 : E = 0) => print_zero sa sc L w' (hf.below hb) (hE.trans h0)
  have cN := fun w' (hb : Below w.heap.size w w') (h0 : E ≠ 0) => print_bad sa sc L w' (hf.below hb) hF E hE h0
  have cM : PE = 0 → ∀ a5 c5 P5 w5, StL w5 a5 P5 → sps P5 = PL → Calls Try.prog 12 #[.slice a5 P5.length c5] w5 (pen.Gives xs 0 w5) := fun h0 a5 c5 P5 w5 h5 e5 => by
    have h1 := HINV.out h0
    have h2 := print_zero a5 c5 P5 w5 h5 (by rw [e5]; exact h1.1)
    rw [e5, h1.2] at h2
    exact h2
  unfold FixAs at cB
  unfold pen.Gives at cP cM
  clear hr hx hP hinv hg
  by_cases hE0 : E = 0
  · have cP := fun w' hb => cP w' hb hE0
    have hEE := rightsE_zero (hE.trans hE0)
    have cS := fun a3 c3 (P3 : List St) w3 (hb : Below w.heap.size w w3) h3 (hl : P3.length ≤ 40) (e3 : sps P3 = sps L) => same_lists (PL := sps L) sa sc L a3 c3 P3 w3 (hf.below hb) h3 (by have := hEE.1; rw [sps_length] at this; omega) (by omega) rfl e3
    have hlay := parsed_lay hEE.2 hEE.1
    have hlt := listB_lt (sps L)
    have hlen := listB_len hEE.2 hEE.1
    clear cN
    generalize listB (sps L) = Y at *
    have cY := fun w' ya yc (hY : Reads .u8 w' ya Y.length Y) => parse_fix (a := ya) (c := yc) hY hlt (by omega) (0 : Int) rfl hlay
    unfold FixAs at cY
    unfold field.Gives at cS
    clear hE hEE hlay hlt hlen hf hE0
    by_cases hPE : PE = 0
    · have cM2 := cM hPE
      clear cM
      subst hPE
      clear HINV
      go_enter Try.func5, Try.ntmps5
      go_wp2_with (first
        | (go_at_call 6; ((with_reducible refine cG.mono ?_); clear cG; rintro e w1 ⟨rfl, hb1⟩))
        | (go_at_call 12; ((with_reducible refine (cP _ hb1).mono ?_); clear cP; rintro e w2 ⟨u2, rfl, ho2, hb2⟩; have hB2 := hb1.trans (hb2.mono hb1.size); obtain ⟨a2, c2, rfl, _⟩ := ownsRow_slice ho2; have hrd2 := Reads.own (xs := Y) ho2; clear ho2))
        | (go_at_call 15; ((with_reducible refine (cY _ _ _ hrd2).mono ?_); clear cY; rintro e w3 ⟨a3, c3, P3, rfl, hP3, hm3, hl3, hb3⟩; have hB3 := hB2.trans (hb3.mono hB2.size); have cS3 := cS a3 c3 P3 w3 hB3 hm3 hl3 hP3; clear hm3 hl3 hP3))
        | (go_at_call 17; ((with_reducible refine cS3.mono ?_); clear cS3; rintro e w4 ⟨rfl, hb4⟩; have hB4 := hB3.trans (hb4.mono hB3.size)))
        | (go_at_call 15; ((with_reducible refine (cB _ hB4).mono ?_); clear cB; rintro e w5 ⟨a5, c5, P5, rfl, hP5, hm5, hl5, hb5⟩; have hB5 := hB4.trans (hb5.mono hB4.size)))
        | (go_at_call 12; ((with_reducible refine (cM2 a5 c5 P5 w5 hm5 hP5).mono ?_); clear cM2; rintro e w6 ⟨u6, rfl, ho6, hb6⟩; have hB6 := hB5.trans (hb6.mono hB5.size); obtain ⟨a6, c6, rfl, _⟩ := ownsRow_slice ho6; have hcv6 := Reads.str (P := Try.prog) (Reads.own (xs := xs) ho6) 35 5 Try.underlying35 Try.underlying5 c6 9 Try.underlying9; have hcvb := Reads.str (P := Try.prog) (HRD.out.below hB6) 35 5 Try.underlying35 Try.underlying5 cap 9 Try.underlying9; clear ho6))
        | (go_at_call 7; ((with_reducible refine (cA _).mono ?_); rintro e w8 ⟨rfl, hb8⟩))
        )
      go_ret
      exact ⟨rfl, hB6.trans (hb8.mono hB6.size)⟩
    · have hne : ((PE : Int) == 0) = false := by rw [beq_eq_false_iff_ne]; omega
      clear hPE HINV cM
      go_enter Try.func5, Try.ntmps5
      go_wp2_with (first
        | (go_at_call 6; ((with_reducible refine cG.mono ?_); clear cG; rintro e w1 ⟨rfl, hb1⟩))
        | (go_at_call 12; ((with_reducible refine (cP _ hb1).mono ?_); clear cP; rintro e w2 ⟨u2, rfl, ho2, hb2⟩; have hB2 := hb1.trans (hb2.mono hb1.size); obtain ⟨a2, c2, rfl, _⟩ := ownsRow_slice ho2; have hrd2 := Reads.own (xs := Y) ho2; clear ho2))
        | (go_at_call 15; ((with_reducible refine (cY _ _ _ hrd2).mono ?_); clear cY; rintro e w3 ⟨a3, c3, P3, rfl, hP3, hm3, hl3, hb3⟩; have hB3 := hB2.trans (hb3.mono hB2.size); have cS3 := cS a3 c3 P3 w3 hB3 hm3 hl3 hP3; clear hm3 hl3 hP3))
        | (go_at_call 17; ((with_reducible refine cS3.mono ?_); clear cS3; rintro e w4 ⟨rfl, hb4⟩; have hB4 := hB3.trans (hb4.mono hB3.size)))
        | (go_at_call 15; ((with_reducible refine (cB _ hB4).mono ?_); clear cB; rintro e w5 ⟨a5, c5, P5, rfl, hP5, hm5, hl5, hb5⟩; have hB5 := hB4.trans (hb5.mono hB4.size)))
        | (go_at_call 7; ((with_reducible refine (cA _).mono ?_); rintro e w8 ⟨rfl, hb8⟩))
        )
      go_ret
      exact ⟨rfl, hB5.trans (hb8.mono hB5.size)⟩
  · have cN := fun w' hb => cN w' hb hE0
    have hneE : ((E : Int) == 0) = false := by rw [beq_eq_false_iff_ne]; omega
    clear cP hE hE0 hf
    by_cases hPE : PE = 0
    · have cM2 := cM hPE
      clear cM
      subst hPE
      clear HINV
      go_enter Try.func5, Try.ntmps5
      go_wp2_with (first
        | (go_at_call 6; ((with_reducible refine cG.mono ?_); clear cG; rintro e w1 ⟨rfl, hb1⟩))
        | (go_at_call 12; ((with_reducible refine (cN _ hb1).mono ?_); clear cN; rintro e w2 ⟨rfl, hb2⟩; have hB4 := hb1.trans (hb2.mono hb1.size)))
        | (go_at_call 15; ((with_reducible refine (cB _ hB4).mono ?_); clear cB; rintro e w5 ⟨a5, c5, P5, rfl, hP5, hm5, hl5, hb5⟩; have hB5 := hB4.trans (hb5.mono hB4.size)))
        | (go_at_call 12; ((with_reducible refine (cM2 a5 c5 P5 w5 hm5 hP5).mono ?_); clear cM2; rintro e w6 ⟨u6, rfl, ho6, hb6⟩; have hB6 := hB5.trans (hb6.mono hB5.size); obtain ⟨a6, c6, rfl, _⟩ := ownsRow_slice ho6; have hcv6 := Reads.str (P := Try.prog) (Reads.own (xs := xs) ho6) 35 5 Try.underlying35 Try.underlying5 c6 9 Try.underlying9; have hcvb := Reads.str (P := Try.prog) (HRD.out.below hB6) 35 5 Try.underlying35 Try.underlying5 cap 9 Try.underlying9; clear ho6))
        | (go_at_call 7; ((with_reducible refine (cA _).mono ?_); rintro e w8 ⟨rfl, hb8⟩))
        )
      go_ret
      exact ⟨rfl, hB6.trans (hb8.mono hB6.size)⟩
    · have hne : ((PE : Int) == 0) = false := by rw [beq_eq_false_iff_ne]; omega
      clear hPE HINV cM
      go_enter Try.func5, Try.ntmps5
      go_wp2_with (first
        | (go_at_call 6; ((with_reducible refine cG.mono ?_); clear cG; rintro e w1 ⟨rfl, hb1⟩))
        | (go_at_call 12; ((with_reducible refine (cN _ hb1).mono ?_); clear cN; rintro e w2 ⟨rfl, hb2⟩; have hB4 := hb1.trans (hb2.mono hb1.size)))
        | (go_at_call 15; ((with_reducible refine (cB _ hB4).mono ?_); clear cB; rintro e w5 ⟨a5, c5, P5, rfl, hP5, hm5, hl5, hb5⟩; have hB5 := hB4.trans (hb5.mono hB4.size)))
        | (go_at_call 7; ((with_reducible refine (cA _).mono ?_); rintro e w8 ⟨rfl, hb8⟩))
        )
      go_ret
      exact ⟨rfl, hB5.trans (hb8.mono hB5.size)⟩
theorem walk (sa : Option Addr) (sc : Nat) (L : List St) (a : Option Addr) (len cap : Nat) (xs : List Nat) (w : World) (hs : Sts w sa L) (hg : ∀ p ∈ L, p.Good w) (hl : L.length ≤ sc) (hm0 : sc ≤ maxLen) (hr : Reads .u8 w a len xs) (hx : ∀ x ∈ xs, x < 256) (hc : len ≤ cap) (hm : cap * 1 ≤ 140737488351232) :
    Calls Try.prog 5 #[.slice sa L.length sc, .slice a len cap] w (Yes w) := by
  obtain rfl := hr.1
  exact walk0 sa sc L a cap xs w ⟨hs, fun q hq => (hg q hq).lists⟩ (Nat.le_trans hl hm0) hr hx hc (by omega)
end Go.Proofs.Ytpdnfiofjkbeiaa.stepBack
/- StepBack returns true for every list of steps and every bytes, and each argument reads afterwards as it read before. No condition. -/
namespace Go.Proofs.Ytpdnfiofjkbeiaa.stepBack
open Go.ChangeShapes Go.WideShapes Go.ChangeAt Go.RowKit Go.Proofs.Ytpdnfiofjkbeiaa.step
open Go.ChangeMaps (open_string shut_string)
set_option linter.unusedVariables false
set_option maxRecDepth 100000 in
theorem lifted (os : Os) (started : os.Started) (H : Type) (enc : TypeId × Value → H) :
    ReturnsInHanded {} Try.checked os 5 .any (Rows.stepBackSpec.pre6 enc Try.prog Try.f5 Rows.stepBackRow.domain false) (Rows.stepBackSpec.post enc Try.prog Try.f5 false true false false) := by
  refine returnsInHanded_of_change_sized (C := Try.checked) own started (by kernel_rfl) Try.func5
    (ChangeSpec.witness6 (enc := enc) (C := Try.checked) false ⟨#[], #[.slice none 0 0, .slice none 0 0], []⟩ 8 (by kernel_rfl) (by kernel_rfl) (by kernel_rfl) (by kernel_rfl)) ?_
  intro W base args ds gs before hval0 hW hcnd hsz0 _
  have hsz : (DataW.weightsEach Try.prog (Try.f5.params.toList ++ Rows.stepBackSpec.plain.varTypes Try.prog) (ds ++ gs)).all (· ≤ reachBytes) = true := hsz0
  clear hsz0
  have hval : ∀ (j : Nat) t v, Try.f5.params[j]? = some t → args[j]? = some v → Value.okWide Try.prog W .any base t v := hval0
  have hW' := hW
  obtain ⟨p, q, hA0, hV, rfl, hfz, hnd⟩ := hW
  have hA : DataW.TrodAll enc Try.prog W 0 (fun _ => true) true Try.f5.params.toList args.toList ds p := hA0
  rw [Try.params5] at hA hval hsz
  obtain ⟨v0, vs0, d0, ds0, p0, q0, hargs, rfl, rfl, h0, r0⟩ := trodAll_cons hA
  obtain ⟨v1, vs1, d1, ds1, p1, q1, rfl, rfl, rfl, h1, r1⟩ := trodAll_cons r0
  obtain ⟨rfl, rfl, rfl⟩ := trodAll_nil r1
  obtain rfl : args = #[v0, v1] := by cases args; simp_all
  obtain ⟨rfl, rfl⟩ := trodVars_none hV
  obtain ⟨a0, len0, cap0, rfl⟩ := okWide_slice Try.underlying31 (hval 0 31 v0 rfl rfl)
  have k0 := h0
  have lt0 : ∀ x ∈ p0, x.block < W.heap.size := by obtain ⟨m, hm⟩ := k0; exact DataW.trod_lt m _ _ _ hm
  obtain ⟨l0, rfl, ac0, fp0, lc0, cm0⟩ := open_Sts Try.underlying31 Go.Proofs.Ytpdnfiofjkbeiaa.step.stType h0
  obtain ⟨a1, len1, cap1, rfl⟩ := okWide_slice Try.underlying35 (hval 1 35 v1 rfl rfl)
  have k1 := h1
  have lt1 : ∀ x ∈ p1, x.block < W.heap.size := by obtain ⟨m, hm⟩ := k1; exact DataW.trod_lt m _ _ _ hm
  obtain ⟨xs1, rd1, xb1, lc1, rs1⟩ := open_uints (j := 1) Try.underlying35 Try.underlying5 (by kernel_rfl) (by kernel_rfl : Try.prog.bytesOf 5 = 1) wf_u8 h1 hsz rfl rfl
  clear hA0 hval0
  refine (walk a0 cap0 l0 a1 len1 cap1 xs1 W ac0 fp0 lc0 cm0 rd1 xb1 lc1 rs1).mono fun e W' ⟨he, bel⟩ => ?_
  subst he
  exact ⟨_, rfl, _, _, _, [], _, [], hW', trodAll_mk1 (shut_bool Try.underlying4 _), (trodAll_cons_mk (Below.trod laidOut (by kernel_rfl) (of_decide_eq_true (by kernel_rfl)) k0 bel lt0) (trodAll_cons_mk (Below.trod laidOut (by kernel_rfl) (of_decide_eq_true (by kernel_rfl)) k1 bel lt1) trodAll_mk0)), rfl, bel.frame _, fun h => by cases h⟩

theorem holds : Rows.StepBackSaid :=
  OpenClaim.holds_of_wide 5 Try.f5 rfl rfl rfl rfl rfl rfl rfl ⟨rfl, rfl, rfl, rfl, rfl⟩ rfl rfl rfl rfl rfl (by kernel_rfl) Try.func5 (by kernel_rfl)
    (of_decide_eq_true (by kernel_rfl)) (by unfold Func.isWrapper; first | (rw [if_pos (by decide +kernel)]; kernel_rfl) | (rw [if_neg (by decide +kernel)]; exact ⟨rfl, rfl⟩))
    (fun os started H enc _ => lifted os started H enc)
#print axioms holds
end Go.Proofs.Ytpdnfiofjkbeiaa.stepBack
