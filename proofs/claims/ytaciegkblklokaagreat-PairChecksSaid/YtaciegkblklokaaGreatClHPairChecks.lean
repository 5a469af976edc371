
import Derived.Test.YtaciegkblklokaaGreatCmAC
import Derived.Test.YtaciegkblklokaaGreatCmAB
import Derived.Test.YtaciegkblklokaaGreatCmV
import Derived.Conc.WalkWords
import Derived.Test.YtaciegkblklokaaGreatCmA
set_option linter.unusedVariables false
namespace Go.Proofs.YtaciegkblklokaaGreat.pairChecks
open Go.RowKit Go.Proofs.YtaciegkblklokaaGreat.schema Go.Proofs.YtaciegkblklokaaGreat.typing Go.Proofs.YtaciegkblklokaaGreat.pair
open Go.Proofs.YtaciegkblklokaaGreat.field (Gives newB gives_from)
open Go.Proofs.YtaciegkblklokaaGreat.step (Lists Sp St StL sps sps_length GreatL great_not OwnS)
theorem boxes (v : Int) (sa : Option Addr) (sc : Nat) (F : List Fm) (w : World) : ∃ W0, Hid ((w.alloc (.cells (zS v sa F.length sc) 24)) = W0) ∧ Below w.heap.size w W0 ∧ Hid (∀ w', Below W0.heap.size W0 w' → Block w' w.heap.size 24 (zS v sa F.length sc) ∧ Below w.heap.size w w') := by
 have hw : Below w.heap.size w (w.alloc (.cells (zS v sa F.length sc) 24)) := newB w (.cells (zS v sa F.length sc) 24)
 exact ⟨_, hid rfl, hw, hid (fun w' hb => ⟨(Block.new w _ _).later hb, hw.trans (hb.mono hw.size)⟩)⟩
set_option maxRecDepth 20000 in
set_option maxHeartbeats 3200000 in
theorem walk1 (v : Int) (sa : Option Addr) (sc : Nat) (F : List Fm) (la : Option Addr) (lc : Nat) (L : List St) (ba : Option Addr) (bc : Nat) (M : List St) (w : World) (h : FmL w sa F) (hF : F.length ≤ maxLen) (hl : StL w la L) (hL : L.length ≤ maxLen) (hm : StL w ba M) (hM : M.length ≤ maxLen) (hg : (greatB (forms F) || decide (GreatL (sps L))) = true) :
  Calls Tryz.prog 4 #[zS v sa F.length sc, .slice la L.length lc, .slice ba M.length bc] w (Yes w) := by
 obtain ⟨W0, HW0, hw, HX⟩ := boxes v sa sc F w
 have hf0 := h.below hw
 have hl0 := hl.below hw
 have hm0 := hm.below hw
 have cG := great_any v sa sc F la lc L W0 hf0 hF hl0 hL
 have cT := fun (w' : World) (hb : Below W0.heap.size W0 w') => step.great_any ba bc M w' (hm0.below hb) hM
 have cA := fun w' => awake_any w'
 unfold Yes at cA ⊢
 unfold Gives at cG cT
 rw [← HW0.out] at cG
 rw [hg] at cG
 clear h hl hw hf0 hl0 hg hF hL hm hm0 hM cT
 go_enter Tryz.func4, Tryz.ntmps4
 go_wp2_with (first
  | (go_at_call 6; ((with_reducible refine cG.mono ?_); clear cG; rintro e w1 ⟨rfl, hb1⟩; rw [HW0.out] at hb1; skip))
  | (go_at_call 8; ((with_reducible refine (cA _).mono ?_); rintro e w9 ⟨rfl, hb9⟩)))
 go_ret
 exact ⟨rfl, (HX.out _ (hb1.trans (hb9.mono hb1.size))).2⟩
set_option maxRecDepth 20000 in
set_option maxHeartbeats 3200000 in
theorem walk2 (v : Int) (sa : Option Addr) (sc : Nat) (F : List Fm) (la : Option Addr) (lc : Nat) (L : List St) (ba : Option Addr) (bc : Nat) (M : List St) (w : World) (h : FmL w sa F) (hF : F.length ≤ maxLen) (hl : StL w la L) (hL : L.length ≤ maxLen) (hm : StL w ba M) (hM : M.length ≤ maxLen) (hg : (greatB (forms F) || decide (GreatL (sps L))) = false) (hg2 : decide (GreatL (sps M)) = true) :
  Calls Tryz.prog 4 #[zS v sa F.length sc, .slice la L.length lc, .slice ba M.length bc] w (Yes w) := by
 obtain ⟨W0, HW0, hw, HX⟩ := boxes v sa sc F w
 have hf0 := h.below hw
 have hl0 := hl.below hw
 have hm0 := hm.below hw
 have cG := great_any v sa sc F la lc L W0 hf0 hF hl0 hL
 have cT := fun (w' : World) (hb : Below W0.heap.size W0 w') => step.great_any ba bc M w' (hm0.below hb) hM
 have cA := fun w' => awake_any w'
 unfold Yes at cA ⊢
 unfold Gives at cG cT
 rw [← HW0.out] at cG
 rw [hg] at cG
 rw [hg2] at cT
 clear h hl hw hf0 hl0 hg hF hL hm hm0 hM hg2
 go_enter Tryz.func4, Tryz.ntmps4
 go_wp2_with (first
  | (go_at_call 6; ((with_reducible refine cG.mono ?_); clear cG; rintro e w1 ⟨rfl, hb1⟩; rw [HW0.out] at hb1; skip))
  | (go_at_call 7; ((with_reducible refine (cT _ hb1).mono ?_); rintro e w2 ⟨rfl, hb2⟩; have hB2 := hb1.trans (hb2.mono hb1.size); skip))
  | (go_at_call 8; ((with_reducible refine (cA _).mono ?_); rintro e w9 ⟨rfl, hb9⟩)))
 go_ret
 exact ⟨rfl, (HX.out _ (hB2.trans (hb9.mono hB2.size))).2⟩
set_option maxRecDepth 20000 in
set_option maxHeartbeats 3200000 in
theorem walk3 (v : Int) (sa : Option Addr) (sc : Nat) (F : List Fm) (la : Option Addr) (lc : Nat) (L : List St) (ba : Option Addr) (bc : Nat) (M : List St) (w : World) (h : FmL w sa F) (hF : F.length ≤ maxLen) (hl : StL w la L) (hL : L.length ≤ maxLen) (hm : StL w ba M) (hM : M.length ≤ maxLen) (hg : (greatB (forms F) || decide (GreatL (sps L))) = false) (hg2 : decide (GreatL (sps M)) = false) :
  Calls Tryz.prog 4 #[zS v sa F.length sc, .slice la L.length lc, .slice ba M.length bc] w (Yes w) := by
 obtain ⟨W0, HW0, hw, HX⟩ := boxes v sa sc F w
 have hf0 := h.below hw
 have hl0 := hl.below hw
 have hm0 := hm.below hw
 have cG := great_any v sa sc F la lc L W0 hf0 hF hl0 hL
 have cT := fun (w' : World) (hb : Below W0.heap.size W0 w') => step.great_any ba bc M w' (hm0.below hb) hM
 have cA := fun w' => awake_any w'
 unfold Yes at cA ⊢
 unfold Gives at cG cT
 rw [← HW0.out] at cG
 rw [hg] at cG
 rw [hg2] at cT
 obtain ⟨hsm, hll⟩ := small_of h hg
 have hgl : ¬ GreatL (sps L) := by simp only [Bool.or_eq_false_iff, decide_eq_false_iff_not] at hg; exact hg.2
 have hgm : ¬ GreatL (sps M) := by simpa using hg2
 have h60 : L.length ≤ 60 := by have := (great_not hgl).1; rwa [sps_length] at this
 have m60 : M.length ≤ 60 := by have := (great_not hgm).1; rwa [sps_length] at this
 have htt : ∀ q ∈ L, q.s.t.length ≤ 1000000 := fun q hq => by have := ((great_not hgl).2 q.s (List.mem_map_of_mem hq)).1; omega
 have cV := fun (w' : World) (hb : Below W0.heap.size W0 w') => check_any v sa sc F la lc L ba bc M w' (hf0.below hb) ((hsm.below hw).below hb) (hl0.below hb) h60 hll htt (hm0.below hb) hM
 have cU := fun (w' : World) (hb : Below W0.heap.size W0 w') => refCheck_any v sa sc F la lc L ba bc M w' (hf0.below hb) ((hsm.below hw).below hb) (hl0.below hb) h60 hll htt (hm0.below hb) hM
 generalize check v (forms F) (sps L) (sps M) = X at cV cU
 obtain ⟨x1, x2⟩ := X
 unfold Gives at cV cU
 simp only at cV cU
 clear h hl hw hf0 hl0 hg hF hL hm hm0 hM hg2 hsm hll hgl hgm h60 m60 htt
 go_enter Tryz.func4, Tryz.ntmps4
 go_wp2_with (first
  | (go_at_call 6; ((with_reducible refine cG.mono ?_); clear cG; rintro e w1 ⟨rfl, hb1⟩; rw [HW0.out] at hb1; skip))
  | (go_at_call 7; ((with_reducible refine (cT _ hb1).mono ?_); rintro e w2 ⟨rfl, hb2⟩; have hB2 := hb1.trans (hb2.mono hb1.size); obtain ⟨k0, kb⟩ := HX.out _ hB2; have z0 := k0.cell 0; have z1 := k0.cell 1; clear k0; skip))
  | (go_at_call 15; ((with_reducible refine (cV _ hB2).mono ?_); rintro e w3 ⟨rfl, hb3⟩; have hB3 := hB2.trans (hb3.mono hB2.size); obtain ⟨k0, kb⟩ := HX.out _ hB3; have z0 := k0.cell 0; have z1 := k0.cell 1; clear k0; skip))
  | (go_at_call 16; ((with_reducible refine (cU _ hB3).mono ?_); rintro e w4 ⟨rfl, hb4⟩; have hB4 := hB3.trans (hb4.mono hB3.size)))
  | (go_at_call 8; ((with_reducible refine (cA _).mono ?_); rintro e w9 ⟨rfl, hb9⟩)))
 go_ret
 exact ⟨rfl, (HX.out _ (hB4.trans (hb9.mono hB4.size))).2⟩
theorem walk0 (v : Int) (sa : Option Addr) (sc : Nat) (F : List Fm) (la : Option Addr) (lc : Nat) (L : List St) (ba : Option Addr) (bc : Nat) (M : List St) (w : World) (h : FmL w sa F) (hF : F.length ≤ maxLen) (hl : StL w la L) (hL : L.length ≤ maxLen) (hm : StL w ba M) (hM : M.length ≤ maxLen) : Calls Tryz.prog 4 #[zS v sa F.length sc, .slice la L.length lc, .slice ba M.length bc] w (Yes w) := by
 cases hg : (greatB (forms F) || decide (GreatL (sps L)))
 ·cases hg2 : decide (GreatL (sps M))
  ·exact walk3 v sa sc F la lc L ba bc M w h hF hl hL hm hM hg hg2
  ·exact walk2 v sa sc F la lc L ba bc M w h hF hl hL hm hM hg hg2
 ·exact walk1 v sa sc F la lc L ba bc M w h hF hl hL hm hM hg
theorem walk (p : Sc) (a : Option Addr) (cap : Nat) (L : List St) (b : Option Addr) (cap2 : Nat) (M : List St) (w : World) (hp : p.Good w) (hs : step.Sts w a L) (hg : ∀ q ∈ L, q.Good w) (hl : L.length ≤ cap) (hm : cap ≤ maxLen) (hs2 : step.Sts w b M) (hg2 : ∀ q ∈ M, q.Good w) (hl2 : M.length ≤ cap2) (hm2 : cap2 ≤ maxLen) : Calls Tryz.prog 4 #[p.val, .slice a L.length cap, .slice b M.length cap2] w (Yes w) :=
 walk0 p.ver p.f p.fCap p.fL a cap L b cap2 M w ⟨hp.rf, fun y hy => (hp.mf y hy).ok⟩ (Nat.le_trans hp.cf hp.df) ⟨hs, fun q hq => (hg q hq).lists⟩ (Nat.le_trans hl hm) ⟨hs2, fun q hq => (hg2 q hq).lists⟩ (Nat.le_trans hl2 hm2)
end Go.Proofs.YtaciegkblklokaaGreat.pairChecks
namespace Go.Proofs.YtaciegkblklokaaGreat.pairChecks
open Go.ChangeShapes Go.WideShapes Go.ChangeAt Go.RowKit Go.Proofs.YtaciegkblklokaaGreat.schema Go.Proofs.YtaciegkblklokaaGreat.step
open Go.ChangeMaps (open_string shut_string)
set_option maxRecDepth 100000 in
theorem lifted (os : Os) (started : os.Started) (H : Type) (enc : TypeId × Value → H) :
  ReturnsInHanded {} Tryz.checked os 4 .any (Rows.pairChecksSpec.pre6 enc Tryz.prog Tryz.f4 Rows.pairChecksRow.domain false) (Rows.pairChecksSpec.post enc Tryz.prog Tryz.f4 false true false false) := by
 refine returnsInHanded_of_change_sized (C := Tryz.checked) own started (by kernel_rfl) Tryz.func4
  (ChangeSpec.witness6 (enc := enc) (C := Tryz.checked) false ⟨#[], #[.agg #[.int .i64 0, .slice none 0 0], .slice none 0 0, .slice none 0 0], []⟩ 8 (by kernel_rfl) (by kernel_rfl) (by kernel_rfl) (by kernel_rfl)) ?_
 intro W base args ds gs before hval0 hW hcnd hsz0 _
 have hsz : (DataW.weightsEach Tryz.prog (Tryz.f4.params.toList ++ Rows.pairChecksSpec.plain.varTypes Tryz.prog) (ds ++ gs)).all (· ≤ reachBytes) = true := hsz0
 clear hsz0
 have hval : ∀ (j : Nat) t v, Tryz.f4.params[j]? = some t → args[j]? = some v → Value.okWide Tryz.prog W .any base t v := hval0
 have hW' := hW
 obtain ⟨p, q, hA0, hV, rfl, hfz, hnd⟩ := hW
 have hA : DataW.TrodAll enc Tryz.prog W 0 (fun _ => true) true Tryz.f4.params.toList args.toList ds p := hA0
 rw [Tryz.params4] at hA hval hsz
 obtain ⟨v0, vs0, d0, ds0, p0, q0, hargs, rfl, rfl, h0, r0⟩ := trodAll_cons hA
 obtain ⟨v1, vs1, d1, ds1, p1, q1, rfl, rfl, rfl, h1, r1⟩ := trodAll_cons r0
 obtain ⟨v2, vs2, d2, ds2, p2, q2, rfl, rfl, rfl, h2, r2⟩ := trodAll_cons r1
 obtain ⟨rfl, rfl, rfl⟩ := trodAll_nil r2
 obtain rfl : args = #[v0, v1, v2] := by cases args; simp_all
 obtain ⟨rfl, rfl⟩ := trodVars_none hV
 have k0 := h0
 have lt0 : ∀ x ∈ p0, x.block < W.heap.size := by obtain ⟨m, hm⟩ := k0; exact DataW.trod_lt m _ _ _ hm
 obtain ⟨pc0, fp0, rfl⟩ := open_Sc_arg Tryz.underlying24 Go.Proofs.YtaciegkblklokaaGreat.schema.fmRow (hval 0 24 v0 rfl rfl) h0
 obtain ⟨a1, len1, cap1, rfl⟩ := okWide_slice Tryz.underlying33 (hval 1 33 v1 rfl rfl)
 have k1 := h1
 have lt1 : ∀ x ∈ p1, x.block < W.heap.size := by obtain ⟨m, hm⟩ := k1; exact DataW.trod_lt m _ _ _ hm
 obtain ⟨l1, rfl, ac1, fp1, lc1, cm1⟩ := open_Sts Tryz.underlying33 Go.Proofs.YtaciegkblklokaaGreat.step.stType h1
 obtain ⟨a2, len2, cap2, rfl⟩ := okWide_slice Tryz.underlying33 (hval 2 33 v2 rfl rfl)
 have k2 := h2
 have lt2 : ∀ x ∈ p2, x.block < W.heap.size := by obtain ⟨m, hm⟩ := k2; exact DataW.trod_lt m _ _ _ hm
 obtain ⟨l2, rfl, ac2, fp2, lc2, cm2⟩ := open_Sts Tryz.underlying33 Go.Proofs.YtaciegkblklokaaGreat.step.stType h2
 clear hA0 hval0
 refine (walk pc0 a1 cap1 l1 a2 cap2 l2 W fp0 ac1 fp1 lc1 cm1 ac2 fp2 lc2 cm2).mono fun e W' ⟨he, bel⟩ => ?_
 subst he
 exact ⟨_, rfl, _, _, _, [], _, [], hW', trodAll_mk1 (shut_bool Tryz.underlying4 _), (trodAll_cons_mk (Below.trod laidOut (by kernel_rfl) (of_decide_eq_true (by kernel_rfl)) k0 bel lt0) (trodAll_cons_mk (Below.trod laidOut (by kernel_rfl) (of_decide_eq_true (by kernel_rfl)) k1 bel lt1) (trodAll_cons_mk (Below.trod laidOut (by kernel_rfl) (of_decide_eq_true (by kernel_rfl)) k2 bel lt2) trodAll_mk0))), rfl, bel.frame _, fun h => by cases h⟩
theorem holds : Rows.PairChecksSaid :=
 OpenClaim.holds_of_wide 4 Tryz.f4 rfl rfl rfl rfl rfl rfl rfl ⟨rfl, rfl, rfl, rfl, rfl⟩ rfl rfl rfl rfl rfl (by kernel_rfl) Tryz.func4 (by kernel_rfl)
  (of_decide_eq_true (by kernel_rfl)) (by unfold Func.isWrapper; first | (rw [if_pos (by decide +kernel)]; kernel_rfl) | (rw [if_neg (by decide +kernel)]; exact ⟨rfl, rfl⟩))
  (fun os started H enc _ => lifted os started H enc)
#print axioms holds
end Go.Proofs.YtaciegkblklokaaGreat.pairChecks
