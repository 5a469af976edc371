
import Derived.Test.YtaciegkblklokaaGreatCmAC
import Derived.Test.YtaciegkblklokaaGreatCmAB
import Derived.Test.YtaciegkblklokaaGreatCmV
import Derived.Conc.WalkWords
import Derived.Test.YtaciegkblklokaaGreatCmA
set_option linter.unusedVariables false
namespace Go.Proofs.YtaciegkblklokaaGreat.pairSteps
open Go.RowKit Go.Proofs.YtaciegkblklokaaGreat.schema Go.Proofs.YtaciegkblklokaaGreat.typing Go.Proofs.YtaciegkblklokaaGreat.pair
open Go.Proofs.YtaciegkblklokaaGreat.field (Gives newB gives_from)
open Go.Proofs.YtaciegkblklokaaGreat.step (Lists Sp St StL sps sps_length GreatL great_not OwnS)
theorem boxes (v : Int) (sa : Option Addr) (sc : Nat) (F : List Fm) (p : St) (w : World) : ∃ W0, Hid ((((w.alloc (.cells (zS v sa F.length sc) 24))).alloc (.cells (zP p.s p.ta p.tc p.la p.lc) 32)) = W0) ∧ Below w.heap.size w W0 ∧ Hid (∀ w', Below W0.heap.size W0 w' → Block w' w.heap.size 24 (zS v sa F.length sc) ∧ Block w' (w.heap.size + 1) 32 (zP p.s p.ta p.tc p.la p.lc) ∧ Below w.heap.size w w') := by
 have hw : Below w.heap.size w (((w.alloc (.cells (zS v sa F.length sc) 24))).alloc (.cells (zP p.s p.ta p.tc p.la p.lc) 32)) := by
  have h1 := newB w (.cells (zS v sa F.length sc) 24)
  exact h1.alloc h1.size _
 have hA : Block (((w.alloc (.cells (zS v sa F.length sc) 24))).alloc (.cells (zP p.s p.ta p.tc p.la p.lc) 32)) w.heap.size 24 (zS v sa F.length sc) := (Block.new w _ _).alloc _
 have hA1 : Block (((w.alloc (.cells (zS v sa F.length sc) 24))).alloc (.cells (zP p.s p.ta p.tc p.la p.lc) 32)) (w.heap.size + 1) 32 (zP p.s p.ta p.tc p.la p.lc) := by
  have := Block.new ((w.alloc (.cells (zS v sa F.length sc) 24))) 32 (zP p.s p.ta p.tc p.la p.lc)
  simpa using this
 exact ⟨_, hid rfl, hw, hid (fun w' hb => ⟨hA.later hb, hA1.later hb, hw.trans (hb.mono hw.size)⟩)⟩
set_option maxRecDepth 20000 in
set_option maxHeartbeats 3200000 in
theorem walk1 (v : Int) (sa : Option Addr) (sc : Nat) (F : List Fm) (p : St) (la : Option Addr) (lc : Nat) (L : List St) (w : World) (h : FmL w sa F) (hF : F.length ≤ maxLen) (hp : Lists w p.s p.ta p.la) (hl : StL w la L) (hL : L.length ≤ maxLen) (hg : (greatB (forms F) || decide (GreatL (sps L))) = true) :
  Calls Tryz.prog 3 #[zS v sa F.length sc, zP p.s p.ta p.tc p.la p.lc, .slice la L.length lc] w (Yes w) := by
 obtain ⟨W0, HW0, hw, HX⟩ := boxes v sa sc F p w
 have hf0 := h.below hw
 have hl0 := hl.below hw
 have hp0 := hp.below hw
 have cG := great_any v sa sc F la lc L W0 hf0 hF hl0 hL
 have cT : ∀ (w' : World), Below W0.heap.size W0 w' → Calls Tryz.prog 7 #[.slice (some ⟨w'.heap.size, 0, none⟩) 1 1] (w'.alloc (.cells (zP p.s p.ta p.tc p.la p.lc) 32)) (Gives (.bool (decide (GreatL (sps [p])))) (w'.alloc (.cells (zP p.s p.ta p.tc p.la p.lc) 32))) := fun w' hb => step.great_any (some ⟨w'.heap.size, 0, none⟩) 1 [p] (w'.alloc (.cells (zP p.s p.ta p.tc p.la p.lc) 32)) ⟨one_list p w' _, fun q hq => by rw [List.mem_singleton.1 hq]; exact ((hp0.below hb).below (newB w' _))⟩ (by unfold maxLen; simp)
 have cA := fun w' => awake_any w'
 have HIS : Hid ((Tryz.prog.info? 32).map (·.size) = some ((zP p.s p.ta p.tc p.la p.lc) : List Value).length) := hid info_st.out
 unfold Yes at cA ⊢
 unfold Gives at cG cT
 rw [← HW0.out] at cG
 rw [hg] at cG
 clear h hl hw hf0 hl0 hg hF hL hp hp0 cT
 go_enter Tryz.func3, Tryz.ntmps3
 go_wp2_with (first
  | (go_at_call 6; ((with_reducible refine cG.mono ?_); clear cG; rintro e w1 ⟨rfl, hb1⟩; rw [HW0.out] at hb1; skip))
  | (go_at_call 8; ((with_reducible refine (cA _).mono ?_); rintro e w9 ⟨rfl, hb9⟩)))
 go_ret
 exact ⟨rfl, (HX.out _ (hb1.trans (hb9.mono hb1.size))).2.2⟩
set_option maxRecDepth 20000 in
set_option maxHeartbeats 3200000 in
theorem walk2 (v : Int) (sa : Option Addr) (sc : Nat) (F : List Fm) (p : St) (la : Option Addr) (lc : Nat) (L : List St) (w : World) (h : FmL w sa F) (hF : F.length ≤ maxLen) (hp : Lists w p.s p.ta p.la) (hl : StL w la L) (hL : L.length ≤ maxLen) (hg : (greatB (forms F) || decide (GreatL (sps L))) = false) (hg2 : decide (GreatL (sps [p])) = true) :
  Calls Tryz.prog 3 #[zS v sa F.length sc, zP p.s p.ta p.tc p.la p.lc, .slice la L.length lc] w (Yes w) := by
 obtain ⟨W0, HW0, hw, HX⟩ := boxes v sa sc F p w
 have hf0 := h.below hw
 have hl0 := hl.below hw
 have hp0 := hp.below hw
 have cG := great_any v sa sc F la lc L W0 hf0 hF hl0 hL
 have cT : ∀ (w' : World), Below W0.heap.size W0 w' → Calls Tryz.prog 7 #[.slice (some ⟨w'.heap.size, 0, none⟩) 1 1] (w'.alloc (.cells (zP p.s p.ta p.tc p.la p.lc) 32)) (Gives (.bool (decide (GreatL (sps [p])))) (w'.alloc (.cells (zP p.s p.ta p.tc p.la p.lc) 32))) := fun w' hb => step.great_any (some ⟨w'.heap.size, 0, none⟩) 1 [p] (w'.alloc (.cells (zP p.s p.ta p.tc p.la p.lc) 32)) ⟨one_list p w' _, fun q hq => by rw [List.mem_singleton.1 hq]; exact ((hp0.below hb).below (newB w' _))⟩ (by unfold maxLen; simp)
 have cA := fun w' => awake_any w'
 have HIS : Hid ((Tryz.prog.info? 32).map (·.size) = some ((zP p.s p.ta p.tc p.la p.lc) : List Value).length) := hid info_st.out
 unfold Yes at cA ⊢
 unfold Gives at cG cT
 rw [← HW0.out] at cG
 rw [hg] at cG
 rw [hg2] at cT
 clear h hl hw hf0 hl0 hg hF hL hp hp0 hg2
 go_enter Tryz.func3, Tryz.ntmps3
 go_wp2_with (first
  | (go_at_call 6; ((with_reducible refine cG.mono ?_); clear cG; rintro e w1 ⟨rfl, hb1⟩; rw [HW0.out] at hb1; obtain ⟨k0, k1, kb⟩ := HX.out _ hb1; have z0 := k0.cell 0; have z1 := k0.cell 1; have y0 := k1.cell 0; have y1 := k1.cell 1; have y2 := k1.cell 2; have y3 := k1.cell 3; have y4 := k1.cell 4; have y5 := k1.cell 5; have y6 := k1.cell 6; have y7 := k1.cell 7; have y8 := k1.cell 8; have y9 := k1.cell 9; have y10 := k1.cell 10; have y11 := k1.cell 11; have y12 := k1.cell 12; have y13 := k1.cell 13; have y14 := k1.cell 14; have y15 := k1.cell 15; clear k0 k1; skip))
  | (go_at_call 7; ((with_reducible refine (cT _ hb1).mono ?_); rintro e w2 ⟨rfl, hb2⟩; have hN1 := newB w1 (.cells (zP p.s p.ta p.tc p.la p.lc) 32); have hbb := hN1.trans (hb2.mono hN1.size); have hB2 := hb1.trans (hbb.mono hb1.size); skip))
  | (go_at_call 8; ((with_reducible refine (cA _).mono ?_); rintro e w9 ⟨rfl, hb9⟩)))
 go_ret
 exact ⟨rfl, (HX.out _ (hB2.trans (hb9.mono hB2.size))).2.2⟩
set_option maxRecDepth 20000 in
set_option maxHeartbeats 3200000 in
theorem walk3 (v : Int) (sa : Option Addr) (sc : Nat) (F : List Fm) (p : St) (la : Option Addr) (lc : Nat) (L : List St) (w : World) (h : FmL w sa F) (hF : F.length ≤ maxLen) (hp : Lists w p.s p.ta p.la) (hl : StL w la L) (hL : L.length ≤ maxLen) (hg : (greatB (forms F) || decide (GreatL (sps L))) = false) (hg2 : decide (GreatL (sps [p])) = false) :
  Calls Tryz.prog 3 #[zS v sa F.length sc, zP p.s p.ta p.tc p.la p.lc, .slice la L.length lc] w (Yes w) := by
 obtain ⟨W0, HW0, hw, HX⟩ := boxes v sa sc F p w
 have hf0 := h.below hw
 have hl0 := hl.below hw
 have hp0 := hp.below hw
 have cG := great_any v sa sc F la lc L W0 hf0 hF hl0 hL
 have cT : ∀ (w' : World), Below W0.heap.size W0 w' → Calls Tryz.prog 7 #[.slice (some ⟨w'.heap.size, 0, none⟩) 1 1] (w'.alloc (.cells (zP p.s p.ta p.tc p.la p.lc) 32)) (Gives (.bool (decide (GreatL (sps [p])))) (w'.alloc (.cells (zP p.s p.ta p.tc p.la p.lc) 32))) := fun w' hb => step.great_any (some ⟨w'.heap.size, 0, none⟩) 1 [p] (w'.alloc (.cells (zP p.s p.ta p.tc p.la p.lc) 32)) ⟨one_list p w' _, fun q hq => by rw [List.mem_singleton.1 hq]; exact ((hp0.below hb).below (newB w' _))⟩ (by unfold maxLen; simp)
 have cA := fun w' => awake_any w'
 have HIS : Hid ((Tryz.prog.info? 32).map (·.size) = some ((zP p.s p.ta p.tc p.la p.lc) : List Value).length) := hid info_st.out
 unfold Yes at cA ⊢
 unfold Gives at cG cT
 rw [← HW0.out] at cG
 rw [hg] at cG
 rw [hg2] at cT
 obtain ⟨hsm, hll⟩ := small_of h hg
 have hgl : ¬ GreatL (sps L) := by simp only [Bool.or_eq_false_iff, decide_eq_false_iff_not] at hg; exact hg.2
 have hgp : ¬ GreatL (sps [p]) := by simpa using hg2
 have h60 : L.length ≤ 60 := by have := (great_not hgl).1; rwa [sps_length] at this
 have htt : ∀ q ∈ L, q.s.t.length ≤ 1000000 := fun q hq => by have := ((great_not hgl).2 q.s (List.mem_map_of_mem hq)).1; omega
 have hpt := (great_not hgp).2 p.s (by simp [sps])
 have cV := fun (w' : World) (hb : Below W0.heap.size W0 w') => invert_any v sa sc F p.s p.ta p.tc p.la p.lc w' (hf0.below hb) ((hsm.below hw).below hb) (hp0.below hb) (by omega) hpt.2
 have cU := fun (w' : World) (hb : Below W0.heap.size W0 w') => refInvert_any v sa sc F p.s p.ta p.tc p.la p.lc w' (hf0.below hb) ((hsm.below hw).below hb) (hp0.below hb) (by omega) hpt.2
 have cB := fun (w' : World) (hb : Below W0.heap.size W0 w') => back_any v sa sc F la lc L w' (hf0.below hb) ((hsm.below hw).below hb) (hl0.below hb) h60 hll htt
 have cC := fun (w' : World) (hb : Below W0.heap.size W0 w') => refBack_any v sa sc F la lc L w' (hf0.below hb) ((hsm.below hw).below hb) (hl0.below hb) h60 hll htt
 have hbl := backs_length (v := v) (F := forms F) (L := sps L)
 rw [sps_length] at hbl
 generalize invert v (forms F) p.s = rn at cV cU
 generalize backs v (forms F) (sps L) [] = bn at cB cC hbl
 obtain ⟨r, n⟩ := rn
 obtain ⟨b, m⟩ := bn
 unfold InvertAs at cV cU
 unfold BackAs at cB cC
 simp only at hbl cV cU cB cC
 have HPL : Hid (∀ P : List St, sps P = b → P.length ≤ 60) := hid (fun P hP => by have := congrArg List.length hP; rw [sps_length] at this; omega)
 clear h hl hw hf0 hl0 hg hF hL hp hp0 hg2 hsm hll hgl hgp h60 htt hpt hbl
 go_enter Tryz.func3, Tryz.ntmps3
 go_wp2_with (first
  | (with_reducible refine wpList_load_mid rfl 32 (.tmp 4) rfl (w.heap.size + 1) 0 rfl (zP p.s p.ta p.tc p.la p.lc) _ HRS.out Tryz.underlying32 rfl HIS.out ?_)
  | (go_at_call 6; ((with_reducible refine cG.mono ?_); clear cG; rintro e w1 ⟨rfl, hb1⟩; rw [HW0.out] at hb1; obtain ⟨k0, k1, kb⟩ := HX.out _ hb1; have z0 := k0.cell 0; have z1 := k0.cell 1; have y0 := k1.cell 0; have y1 := k1.cell 1; have y2 := k1.cell 2; have y3 := k1.cell 3; have y4 := k1.cell 4; have y5 := k1.cell 5; have y6 := k1.cell 6; have y7 := k1.cell 7; have y8 := k1.cell 8; have y9 := k1.cell 9; have y10 := k1.cell 10; have y11 := k1.cell 11; have y12 := k1.cell 12; have y13 := k1.cell 13; have y14 := k1.cell 14; have y15 := k1.cell 15; clear k0 k1; skip))
  | (go_at_call 7; ((with_reducible refine (cT _ hb1).mono ?_); rintro e w2 ⟨rfl, hb2⟩; have hN1 := newB w1 (.cells (zP p.s p.ta p.tc p.la p.lc) 32); have hbb := hN1.trans (hb2.mono hN1.size); have hB2 := hb1.trans (hbb.mono hb1.size); clear y0 y1 y2 y3 y4 y5 y6 y7 y8 y9 y10 y11 y12 y13 y14 y15; obtain ⟨k0, k1, kb⟩ := HX.out _ hB2; have z0 := k0.cell 0; have z1 := k0.cell 1; have HRS := hid k1.whole; clear k0 k1; skip))
  | (go_at_call 9; ((with_reducible refine (cV _ hB2).mono ?_); rintro e w3 ⟨xa, xc, ya, yc, rfl, ho3, hb3⟩; have hN3 := newB w3 (.cells (zP r xa xc ya yc) 32); have hB3 := hB2.trans (hb3.mono hB2.size); have hB4 := hB3.trans (hN3.mono hB3.size); obtain ⟨k0, k1, kb⟩ := HX.out _ hB4; have z0 := k0.cell 0; have z1 := k0.cell 1; have HRS := hid k1.whole; clear k0 k1; have KX := hid (Block.new w3 32 (zP r xa xc ya yc)); have HLX := hid (ho3.lists.below hN3); clear ho3))
  | (go_at_call 10; ((with_reducible refine (cU _ hB4).mono ?_); rintro e w5 ⟨ua, uc, va, vc, rfl, ho5, hb5⟩; have hN5 := newB w5 (.cells (zP r ua uc va vc) 32); have hb6 := hb5.trans (hN5.mono hb5.size); have hB6 := hB4.trans (hb6.mono hB4.size); obtain ⟨k0, k1, kb⟩ := HX.out _ hB6; have z0 := k0.cell 0; have z1 := k0.cell 1; have KX6 := hid (KX.out.later hb6); have KY6 := hid (Block.new w5 32 (zP r ua uc va vc)); have HLX6 := hid (HLX.out.below hb6); have HLY6 := hid (ho5.lists.below hN5); clear ho5 k0 k1))
  | (go_at_call 11; ((with_reducible refine (cB _ hB6).mono ?_); rintro e w7 ⟨q, qc, P, rfl, hs7, hP7, hb7⟩; have hB7 := hB6.trans (hb7.mono hB6.size); obtain ⟨k0, k1, kb⟩ := HX.out _ hB7; have z0 := k0.cell 0; have z1 := k0.cell 1; have KX7 := hid (KX6.out.later hb7); have KY7 := hid (KY6.out.later hb7); have HLX7 := hid (HLX6.out.below hb7); have HLY7 := hid (HLY6.out.below hb7); have HS7 := hid hs7; have HP7 := hid hP7; clear hs7 hP7 k0 k1))
  | (go_at_call 12; ((with_reducible refine (cC _ hB7).mono ?_); rintro e w8 ⟨q2, qc2, P2, rfl, hs8, hP8, hb8⟩; have hB8 := hB7.trans (hb8.mono hB7.size); have kx := KX7.out.later hb8; have ky := KY7.out.later hb8; have HRX := hid kx.whole; have HRY := hid ky.whole; have HIX : Hid ((Tryz.prog.info? 32).map (·.size) = some ((zP r xa xc ya yc) : List Value).length) := hid info_st.out; have HIY : Hid ((Tryz.prog.info? 32).map (·.size) = some ((zP r ua uc va vc) : List Value).length) := hid info_st.out; have HLX8 := hid (HLX7.out.below hb8); have HLY8 := hid (HLY7.out.below hb8); have HS8 := hid hs8; have HP8 := hid hP8; have HP78 := hid (HP7.out.below hb8); clear hs8 hP8 kx ky))
  | (with_reducible refine wpList_load_mid rfl 32 (.tmp 7) rfl w3.heap.size 0 rfl (zP r xa xc ya yc) _ HRX.out Tryz.underlying32 rfl HIX.out ?_)
  | (with_reducible refine wpList_load_mid rfl 32 (.tmp 9) rfl w5.heap.size 0 rfl (zP r ua uc va vc) _ HRY.out Tryz.underlying32 rfl HIY.out ?_)
  | (go_at_call 13; ((with_reducible refine (step.refSame_any r xa xc ya yc r ua uc va vc _ HLX8.out HLY8.out).mono ?_); unfold Gives; rw [decide_eq_true (show r = r from rfl)]; rintro e w10 ⟨rfl, hb10⟩; have hB10 := hB8.trans (hb10.mono hB8.size)))
  | (go_at_call 14; ((with_reducible refine (step.refSameList_any q qc P q2 qc2 P2 _ (HP78.out.below hb10) (HP8.out.below hb10) (by have := HPL.out P HS7.out; unfold maxLen; omega) (by have := HPL.out P2 HS8.out; unfold maxLen; omega)).mono ?_); unfold Gives; rw [decide_eq_true (show sps P = sps P2 by rw [HS7.out, HS8.out])]; rintro e w11 ⟨rfl, hb11⟩; have hB11 := hB10.trans (hb11.mono hB10.size)))
  | (go_at_call 8; ((with_reducible refine (cA _).mono ?_); rintro e w9 ⟨rfl, hb9⟩)))
 go_ret
 exact ⟨rfl, (HX.out _ (hB11.trans (hb9.mono hB11.size))).2.2⟩
theorem walk0 (v : Int) (sa : Option Addr) (sc : Nat) (F : List Fm) (p : St) (la : Option Addr) (lc : Nat) (L : List St) (w : World) (h : FmL w sa F) (hF : F.length ≤ maxLen) (hp : Lists w p.s p.ta p.la) (hl : StL w la L) (hL : L.length ≤ maxLen) :
  Calls Tryz.prog 3 #[zS v sa F.length sc, zP p.s p.ta p.tc p.la p.lc, .slice la L.length lc] w (Yes w) := by
 cases hg : (greatB (forms F) || decide (GreatL (sps L)))
 ·cases hg2 : decide (GreatL (sps [p]))
  ·exact walk3 v sa sc F p la lc L w h hF hp hl hL hg hg2
  ·exact walk2 v sa sc F p la lc L w h hF hp hl hL hg hg2
 ·exact walk1 v sa sc F p la lc L w h hF hp hl hL hg
theorem walk (p : Sc) (t : St) (a : Option Addr) (cap : Nat) (L : List St) (w : World) (hp : p.Good w) (ht : t.Good w) (hs : step.Sts w a L) (hg : ∀ q ∈ L, q.Good w) (hl : L.length ≤ cap) (hm : cap ≤ maxLen) : Calls Tryz.prog 3 #[p.val, t.val, .slice a L.length cap] w (Yes w) :=
 walk0 p.ver p.f p.fCap p.fL t a cap L w ⟨hp.rf, fun y hy => (hp.mf y hy).ok⟩ (Nat.le_trans hp.cf hp.df) ht.lists ⟨hs, fun q hq => (hg q hq).lists⟩ (Nat.le_trans hl hm)
end Go.Proofs.YtaciegkblklokaaGreat.pairSteps
namespace Go.Proofs.YtaciegkblklokaaGreat.pairSteps
open Go.ChangeShapes Go.WideShapes Go.ChangeAt Go.RowKit Go.Proofs.YtaciegkblklokaaGreat.schema Go.Proofs.YtaciegkblklokaaGreat.step
open Go.ChangeMaps (open_string shut_string)
set_option maxRecDepth 100000 in
theorem lifted (os : Os) (started : os.Started) (H : Type) (enc : TypeId × Value → H) :
  ReturnsInHanded {} Tryz.checked os 3 .any (Rows.pairStepsSpec.pre6 enc Tryz.prog Tryz.f3 Rows.pairStepsRow.domain false) (Rows.pairStepsSpec.post enc Tryz.prog Tryz.f3 false true false false) := by
 refine returnsInHanded_of_change_sized (C := Tryz.checked) own started (by kernel_rfl) Tryz.func3
  (ChangeSpec.witness6 (enc := enc) (C := Tryz.checked) false ⟨#[], #[.agg #[.int .i64 0, .slice none 0 0], zZ, .slice none 0 0], []⟩ 8 (by kernel_rfl) (by kernel_rfl) (by kernel_rfl) (by kernel_rfl)) ?_
 intro W base args ds gs before hval0 hW hcnd hsz0 _
 have hsz : (DataW.weightsEach Tryz.prog (Tryz.f3.params.toList ++ Rows.pairStepsSpec.plain.varTypes Tryz.prog) (ds ++ gs)).all (· ≤ reachBytes) = true := hsz0
 clear hsz0
 have hval : ∀ (j : Nat) t v, Tryz.f3.params[j]? = some t → args[j]? = some v → Value.okWide Tryz.prog W .any base t v := hval0
 have hW' := hW
 obtain ⟨p, q, hA0, hV, rfl, hfz, hnd⟩ := hW
 have hA : DataW.TrodAll enc Tryz.prog W 0 (fun _ => true) true Tryz.f3.params.toList args.toList ds p := hA0
 rw [Tryz.params3] at hA hval hsz
 obtain ⟨v0, vs0, d0, ds0, p0, q0, hargs, rfl, rfl, h0, r0⟩ := trodAll_cons hA
 obtain ⟨v1, vs1, d1, ds1, p1, q1, rfl, rfl, rfl, h1, r1⟩ := trodAll_cons r0
 obtain ⟨v2, vs2, d2, ds2, p2, q2, rfl, rfl, rfl, h2, r2⟩ := trodAll_cons r1
 obtain ⟨rfl, rfl, rfl⟩ := trodAll_nil r2
 obtain rfl : args = #[v0, v1, v2] := by cases args; simp_all
 obtain ⟨rfl, rfl⟩ := trodVars_none hV
 have k0 := h0
 have lt0 : ∀ x ∈ p0, x.block < W.heap.size := by obtain ⟨m, hm⟩ := k0; exact DataW.trod_lt m _ _ _ hm
 obtain ⟨pc0, fp0, rfl⟩ := open_Sc_arg Tryz.underlying24 Go.Proofs.YtaciegkblklokaaGreat.schema.fmRow (hval 0 24 v0 rfl rfl) h0
 have k1 := h1
 have lt1 : ∀ x ∈ p1, x.block < W.heap.size := by obtain ⟨m, hm⟩ := k1; exact DataW.trod_lt m _ _ _ hm
 obtain ⟨pc1, fp1, rfl⟩ := open_St_arg Go.Proofs.YtaciegkblklokaaGreat.step.stType (hval 1 32 v1 rfl rfl) h1
 obtain ⟨a2, len2, cap2, rfl⟩ := okWide_slice Tryz.underlying33 (hval 2 33 v2 rfl rfl)
 have k2 := h2
 have lt2 : ∀ x ∈ p2, x.block < W.heap.size := by obtain ⟨m, hm⟩ := k2; exact DataW.trod_lt m _ _ _ hm
 obtain ⟨l2, rfl, ac2, fp2, lc2, cm2⟩ := open_Sts Tryz.underlying33 Go.Proofs.YtaciegkblklokaaGreat.step.stType h2
 clear hA0 hval0
 refine (walk pc0 pc1 a2 cap2 l2 W fp0 fp1 ac2 fp2 lc2 cm2).mono fun e W' ⟨he, bel⟩ => ?_
 subst he
 exact ⟨_, rfl, _, _, _, [], _, [], hW', trodAll_mk1 (shut_bool Tryz.underlying4 _), (trodAll_cons_mk (Below.trod laidOut (by kernel_rfl) (of_decide_eq_true (by kernel_rfl)) k0 bel lt0) (trodAll_cons_mk (Below.trod laidOut (by kernel_rfl) (of_decide_eq_true (by kernel_rfl)) k1 bel lt1) (trodAll_cons_mk (Below.trod laidOut (by kernel_rfl) (of_decide_eq_true (by kernel_rfl)) k2 bel lt2) trodAll_mk0))), rfl, bel.frame _, fun h => by cases h⟩
theorem holds : Rows.PairStepsSaid :=
 OpenClaim.holds_of_wide 3 Tryz.f3 rfl rfl rfl rfl rfl rfl rfl ⟨rfl, rfl, rfl, rfl, rfl⟩ rfl rfl rfl rfl rfl (by kernel_rfl) Tryz.func3 (by kernel_rfl)
  (of_decide_eq_true (by kernel_rfl)) (by unfold Func.isWrapper; first | (rw [if_pos (by decide +kernel)]; kernel_rfl) | (rw [if_neg (by decide +kernel)]; exact ⟨rfl, rfl⟩))
  (fun os started H enc _ => lifted os started H enc)
#print axioms holds
end Go.Proofs.YtaciegkblklokaaGreat.pairSteps
