/- Contracts and lemmas that the claims of this seat share: TypingRefOnT, TypingRefOn9, TypingRefOn1, TypingRefOnB. Each says its own conditions. -/
import Derived.Test.YtaciegkblklokaaGreatCmQ
import Derived.Test.YtaciegkblklokaaGreatCmS
import Derived.Test.YtaciegkblklokaaGreatCmT
import Derived.Test.YtaciegkblklokaaGreatCmU
import Derived.Test.YtaciegkblklokaaGreatCmV
set_option linter.unusedSimpArgs false
set_option linter.unusedVariables false
namespace Go.Proofs.YtaciegkblklokaaGreat.typing
open Go.RowKit Go.Proofs.YtaciegkblklokaaGreat.schema
open Go.Proofs.YtaciegkblklokaaGreat.field (Gives newB gives_from)
open Go.Proofs.YtaciegkblklokaaGreat.step (Lists boxP)
set_option maxRecDepth 20000 in
set_option maxHeartbeats 3200000 in
theorem refOn_10 (v : Int) (a : Option Addr) (cap : Nat) (F : List Fm) (s : step.Sp) (ta : Option Addr) (tc : Nat) (la : Option Addr) (lc : Nat) (w : World) (h : FmL w a F) (hF : Small w F) (hl : Lists w s ta la) (hL : s.l.length ≤ 40) (hf : Fit v (forms F) s) (h0 : names (forms F) s = 0) (hop : s.op = 10) (r : Int × List schema.Form × Nat) (hrY : Right v (formsR (forms F) s.fm []) → r = (v, formsR (forms F) s.fm [], 0)) (hrM : ¬ Right v (formsR (forms F) s.fm []) → r = (0, [], 7)) :
  Calls Tryz.prog 21 #[zS v a F.length cap, zP s ta tc la lc] w (OnR r w) := by
 obtain ⟨W3, HW3, hbw, hsz3, HX⟩ := on_boxes v a cap F s ta tc la lc w
 have hmx : F.length ≤ maxLen := by have := hF.1; unfold maxLen; omega
 have cR := refRight_any v a cap F W3 (h.below hbw) hmx
 unfold Gives at cR
 rw [← HW3.out] at cR
 have n1 : w.heap.size ≠ w.heap.size + 1 + 1 := by omega
 have n2 : w.heap.size + 1 ≠ w.heap.size + 1 + 1 := by omega
 have cS := fun (w' : World) (hb : Below W3.heap.size W3 w') => step.refRight_any s ta tc la lc w' ((hl.below hbw).below hb)
 unfold Gives at cS
 have cN := fun (w' : World) (hb : Below w.heap.size w w') => refNames_any v a cap F s ta tc la lc w' (h.below hb) hmx
 unfold Gives at cN
 have HSZ : Hid (W3.heap.size = w.heap.size + 3) := hid hsz3
 clear hsz3
 rw [decide_eq_true hf.1] at cR
 have hf1 := hf.2.1
 have hf2 := hf.2.2
 simp only [decide_eq_true hf1] at cS
 have d10 : decide (s.op > 10) = false := decide_eq_false (by omega)
 rw [h0] at cN
 have HF40 := hid hF.1
 have HFM : Hid (∀ w', Below W3.heap.size W3 w' → FmL w' a F) := hid (fun w' hb => (h.below hbw).below hb)
 have HRY := hid hrY
 have HRM := hid hrM
 have d9 : (s.op == 9) = false := by simp [hop]
 have d1 : (s.op == 1) = false := by simp [hop]
 have d10 : (s.op == 10) = true := by simp [hop]
 unfold OnR
 clear h hF hl hL hmx hbw hf h0 hf1 hf2 hrY hrM hop
 go_enter Tryz.func21, Tryz.ntmps21
 go_wp2_with (first
  | (go_at_call 43; ((with_reducible refine cR.mono ?_); rintro e w1 ⟨rfl, hb1⟩; rw [HW3.out] at hb1; obtain ⟨k0, k1, k2, kb⟩ := HX.out _ hb1; have z0 := k0.cell 0; have z1 := k0.cell 1; have y0 := k1.cell 0; have y1 := k1.cell 1; have y2 := k1.cell 2; have y3 := k1.cell 3; have y4 := k1.cell 4; have y5 := k1.cell 5; have y6 := k1.cell 6; have y7 := k1.cell 7; have y8 := k1.cell 8; have y9 := k1.cell 9; have y10 := k1.cell 10; have y11 := k1.cell 11; have y12 := k1.cell 12; have y13 := k1.cell 13; have y14 := k1.cell 14; have y15 := k1.cell 15; have x0 := k2.cell 0; have x1 := k2.cell 1; have f0 := k2.frozen 0; have f1 := k2.frozen 1; have K2 := hid k2; have KB := hid kb; clear k0 k1 k2 kb))
  | (go_at_call 18; ((with_reducible refine (cS _ hb1).mono ?_); rintro e w2 ⟨rfl, hb2⟩; have hb1 := hb1.trans (hb2.mono hb1.size); obtain ⟨k0, k1, k2, kb⟩ := HX.out _ hb1; have z0 := k0.cell 0; have z1 := k0.cell 1; have y0 := k1.cell 0; have y1 := k1.cell 1; have y2 := k1.cell 2; have y3 := k1.cell 3; have y4 := k1.cell 4; have y5 := k1.cell 5; have y6 := k1.cell 6; have y7 := k1.cell 7; have y8 := k1.cell 8; have y9 := k1.cell 9; have y10 := k1.cell 10; have y11 := k1.cell 11; have y12 := k1.cell 12; have y13 := k1.cell 13; have y14 := k1.cell 14; have y15 := k1.cell 15; have x0 := k2.cell 0; have x1 := k2.cell 1; have f0 := k2.frozen 0; have f1 := k2.frozen 1; have K2 := hid k2; have KB := hid kb; clear k0 k1 k2 kb))
  | (go_at_call 44; ((with_reducible refine (cN _ KB.out).mono ?_); rintro e w3 ⟨rfl, hb3⟩; have hb1 := hb1.trans (hb3.mono hb1.size); obtain ⟨k0, k1, k2, kb⟩ := HX.out _ hb1; have z1w := k1.cell 1; have HB3 := hid hb1; have hN := newB w3 (.cells (zS s.fm none 0 0) 58); have hb4 := hb1.trans (hN.mono hb1.size); have HS3 := hid hb1.size; clear k0 k1 k2 kb; obtain ⟨k0, k1, k2, kb⟩ := HX.out _ hb4; have HFB := hid (Fb.new s.fm w3); have z0 := k0.cell 0; have z1 := k0.cell 1; have y0 := k1.cell 0; have y1 := k1.cell 1; have y2 := k1.cell 2; have y3 := k1.cell 3; have y4 := k1.cell 4; have y5 := k1.cell 5; have y6 := k1.cell 6; have y7 := k1.cell 7; have y8 := k1.cell 8; have y9 := k1.cell 9; have y10 := k1.cell 10; have y11 := k1.cell 11; have y12 := k1.cell 12; have y13 := k1.cell 13; have y14 := k1.cell 14; have y15 := k1.cell 15; have x0 := k2.cell 0; have x1 := k2.cell 1; have f0 := k2.frozen 0; have f1 := k2.frozen 1; have K2 := hid k2; have KB := hid kb; clear k0 k1 k2 kb; have HBW := hid hb4; have HW : Hid (w.heap.size + 3 ≤ (w3.alloc (.cells (zS s.fm none 0 0) 58)).heap.size) := hid (by have := HSZ.out; have := HS3.out; have := hN.size; omega); have cT : Calls Tryz.prog 48 #[zS v a F.length cap, zS s.fm none 0 0] (w3.alloc (.cells (zS s.fm none 0 0) 58)) _ := refForms_any v a cap F s.fm none 0 [] _ (HFM.out _ hb4) HF40.out (Fb.ok HFB.out); unfold FormsAs at cT; have c0 := HFB.out.box.cell 0; have c1 := HFB.out.box.cell 1; clear hN hb4))
  | (go_at_call 48; ((with_reducible refine cT.mono ?_); rintro e w7 ⟨y, yc, G, rfl, hG, hfo, hfar, hb7⟩; have hN7 := newB w7 (.cells (zS v y G.length yc) 24); have hB7 := HBW.out.trans ((hb7.trans (hN7.mono hb7.size)).mono HBW.out.size); obtain ⟨k0, k1, k2, kb⟩ := HX.out _ hB7; have KX := hid (Block.new w7 24 (zS v y G.length yc)); have q0 := KX.out.cell 0; have q1 := KX.out.cell 1; have HG := hid (hG.below hN7); have HFO := hid hfo; have HFAR := hid hfar; have HGL : Hid (G.length ≤ maxLen) := hid (by have h8 := formsR_len (forms F) s.fm []; rw [← hfo, forms_length, forms_length] at h8; have := HF40.out; unfold maxLen; omega); have x0 := k2.cell 0; have x1 := k2.cell 1; have f0 := k2.frozen 0; have f1 := k2.frozen 1; have K2 := hid k2; have KB := hid kb; clear k0 k1 k2 kb hG hfo hfar)))
 by_cases hR : Right v (formsR (forms F) s.fm [])
 ·have HR := hid hR
  obtain rfl := HRY.out hR
  clear hR
  go_wp2_with ((go_at_call 43; ((with_reducible refine (refRight_any v y yc G _ HG.out HGL.out).mono ?_); unfold Gives; rw [decide_eq_true (show Right v (forms G) by rw [HFO.out]; exact HR.out)]; rintro e w8 ⟨rfl, hb8⟩; have hB8 := hB7.trans (hb8.mono hB7.size); obtain ⟨k0, k1, k2, kb⟩ := HX.out _ hB8; have kx8 := KX.out.later hb8; have q0 := kx8.cell 0; have q1 := kx8.cell 1; have x0 := k2.cell 0; have x1 := k2.cell 1; have f0 := k2.frozen 0; have f1 := k2.frozen 1; have K2 := hid k2; have KB := hid kb; clear k0 k1 k2 kb kx8)))
  have hB := (K2.out.setCell 0 (.int .i64 v)).setCell 1 (.slice y G.length yc)
  refine bodyPost_ret (results_cell2 (b := w.heap.size + 1 + 1) (o := 0) rfl rfl hB.whole Tryz.underlying24 rfl (sc_info2 _ _)) rfl ?_
  have hne : G ≠ [] → ∀ z, y = some z → z.block ≠ w.heap.size + 1 + 1 := fun _ z hz => by have := HFAR.out z hz; have := HW.out; omega
  exact ⟨y, yc, G, rfl, fml_set2 (fml_set2 (HG.out.below hb8) hne K2.out (by simp)) hne (K2.out.setCell 0 (.int .i64 v)) (by simp), HFO.out, (fun z hz => by have := HFAR.out z hz; have := HW.out; omega), below_setCells (below_setCells KB.out (by omega) 0 [_]) (by omega) 1 [_]⟩
 ·have HR := hid hR
  obtain rfl := HRM.out hR
  clear hR
  go_wp2_with ((go_at_call 43; ((with_reducible refine (refRight_any v y yc G _ HG.out HGL.out).mono ?_); unfold Gives; rw [decide_eq_false (show ¬ Right v (forms G) by rw [HFO.out]; exact HR.out)]; rintro e w8 ⟨rfl, hb8⟩; have hB8 := hB7.trans (hb8.mono hB7.size); obtain ⟨k0, k1, k2, kb⟩ := HX.out _ hB8; have kx8 := KX.out.later hb8; have q0 := kx8.cell 0; have q1 := kx8.cell 1; have x0 := k2.cell 0; have x1 := k2.cell 1; have f0 := k2.frozen 0; have f1 := k2.frozen 1; have K2 := hid k2; have KB := hid kb; clear k0 k1 k2 kb kx8)))
  have hB := (K2.out.setCell 0 (.int .i64 0)).setCell 1 (.slice none 0 0)
  refine bodyPost_ret (results_cell2 (b := w.heap.size + 1 + 1) (o := 0) rfl rfl hB.whole Tryz.underlying24 rfl (sc_info2 _ _)) rfl ?_
  exact ⟨none, 0, [], rfl, ⟨.inl rfl, by simp⟩, rfl, (fun z hz => by cases hz), below_setCells (below_setCells KB.out (by omega) 0 [_]) (by omega) 1 [_]⟩
end Go.Proofs.YtaciegkblklokaaGreat.typing
namespace Go.Proofs.YtaciegkblklokaaGreat.typing
open Go.RowKit Go.Proofs.YtaciegkblklokaaGreat.schema
open Go.Proofs.YtaciegkblklokaaGreat.field (Gives newB gives_from)
open Go.Proofs.YtaciegkblklokaaGreat.step (Lists boxP)
set_option maxRecDepth 20000 in
set_option maxHeartbeats 3200000 in
theorem refOn_9 (v : Int) (a : Option Addr) (cap : Nat) (F : List Fm) (s : step.Sp) (ta : Option Addr) (tc : Nat) (la : Option Addr) (lc : Nat) (w : World) (h : FmL w a F) (hF : Small w F) (hl : Lists w s ta la) (hL : s.l.length ≤ 40) (hf : Fit v (forms F) s) (h0 : names (forms F) s = 0) (hop : s.op = 9) (r : Int × List schema.Form × Nat) (hrY : Right v (formsR (forms F) s.fm s.l) → r = (v, formsR (forms F) s.fm s.l, 0)) (hrM : ¬ Right v (formsR (forms F) s.fm s.l) → r = (0, [], 7)) :
  Calls Tryz.prog 21 #[zS v a F.length cap, zP s ta tc la lc] w (OnR r w) := by
 obtain ⟨i0, hi, hz0, hz1, hz2⟩ := fd_info_parts
 obtain ⟨W3, HW3, hbw, hsz3, HX⟩ := on_boxes v a cap F s ta tc la lc w
 have hmx : F.length ≤ maxLen := by have := hF.1; unfold maxLen; omega
 have cR := refRight_any v a cap F W3 (h.below hbw) hmx
 unfold Gives at cR
 rw [← HW3.out] at cR
 have n1 : w.heap.size ≠ w.heap.size + 1 + 1 := by omega
 have n2 : w.heap.size + 1 ≠ w.heap.size + 1 + 1 := by omega
 have cS := fun (w' : World) (hb : Below W3.heap.size W3 w') => step.refRight_any s ta tc la lc w' ((hl.below hbw).below hb)
 unfold Gives at cS
 have cN := fun (w' : World) (hb : Below w.heap.size w w') => refNames_any v a cap F s ta tc la lc w' (h.below hb) hmx
 unfold Gives at cN
 have HSZ : Hid (W3.heap.size = w.heap.size + 3) := hid hsz3
 clear hsz3
 rw [decide_eq_true hf.1] at cR
 have hf1 := hf.2.1
 have hf2 := hf.2.2
 simp only [decide_eq_true hf1] at cS
 have d10 : decide (s.op > 10) = false := decide_eq_false (by omega)
 rw [h0] at cN
 have HF40 := hid hF.1
 have HFM : Hid (∀ w', Below W3.heap.size W3 w' → FmL w' a F) := hid (fun w' hb => (h.below hbw).below hb)
 have HLL : Hid (∀ w', Below W3.heap.size W3 w' → field.Fds w' la s.l) := hid (fun w' hb => ((hl.below hbw).below hb).l)
 have HM1 : Hid (0 + s.l.length ≤ maxLen) := hid (by unfold maxLen; omega)
 have HM2 : Hid ((0 + s.l.length) * 40 ≤ 140737488355328) := hid (by omega)
 have HLV : Hid ((fdV s.l).length = s.l.length * 5) := hid (fdV_length _)
 have HRY := hid hrY
 have HRM := hid hrM
 have d9 : (s.op == 9) = true := by simp [hop]
 unfold OnR
 clear h hF hl hL hmx hbw hf h0 hf1 hf2 hrY hrM hop
 go_enter Tryz.func21, Tryz.ntmps21
 go_wp2_with (first
  | (go_at_call 43; ((with_reducible refine cR.mono ?_); rintro e w1 ⟨rfl, hb1⟩; rw [HW3.out] at hb1; obtain ⟨k0, k1, k2, kb⟩ := HX.out _ hb1; have z0 := k0.cell 0; have z1 := k0.cell 1; have y0 := k1.cell 0; have y1 := k1.cell 1; have y2 := k1.cell 2; have y3 := k1.cell 3; have y4 := k1.cell 4; have y5 := k1.cell 5; have y6 := k1.cell 6; have y7 := k1.cell 7; have y8 := k1.cell 8; have y9 := k1.cell 9; have y10 := k1.cell 10; have y11 := k1.cell 11; have y12 := k1.cell 12; have y13 := k1.cell 13; have y14 := k1.cell 14; have y15 := k1.cell 15; have x0 := k2.cell 0; have x1 := k2.cell 1; have f0 := k2.frozen 0; have f1 := k2.frozen 1; have K2 := hid k2; have KB := hid kb; clear k0 k1 k2 kb))
  | (go_at_call 18; ((with_reducible refine (cS _ hb1).mono ?_); rintro e w2 ⟨rfl, hb2⟩; have hb1 := hb1.trans (hb2.mono hb1.size); obtain ⟨k0, k1, k2, kb⟩ := HX.out _ hb1; have z0 := k0.cell 0; have z1 := k0.cell 1; have y0 := k1.cell 0; have y1 := k1.cell 1; have y2 := k1.cell 2; have y3 := k1.cell 3; have y4 := k1.cell 4; have y5 := k1.cell 5; have y6 := k1.cell 6; have y7 := k1.cell 7; have y8 := k1.cell 8; have y9 := k1.cell 9; have y10 := k1.cell 10; have y11 := k1.cell 11; have y12 := k1.cell 12; have y13 := k1.cell 13; have y14 := k1.cell 14; have y15 := k1.cell 15; have x0 := k2.cell 0; have x1 := k2.cell 1; have f0 := k2.frozen 0; have f1 := k2.frozen 1; have K2 := hid k2; have KB := hid kb; clear k0 k1 k2 kb))
  | (go_at_call 44; ((with_reducible refine (cN _ KB.out).mono ?_); rintro e w3 ⟨rfl, hb3⟩; have hb1 := hb1.trans (hb3.mono hb1.size); obtain ⟨k0, k1, k2, kb⟩ := HX.out _ hb1; have z1w := k1.cell 1; have HB3 := hid hb1; have hN := newB w3 (.cells (zS s.fm none 0 0) 58); have hb4 := hb1.trans (hN.mono hb1.size); have HS3 := hid hb1.size; clear k0 k1 k2 kb; obtain ⟨k0, k1, k2, kb⟩ := HX.out _ hb4; have HFB := hid (Fb.new s.fm w3); have z0 := k0.cell 0; have z1 := k0.cell 1; have y0 := k1.cell 0; have y1 := k1.cell 1; have y2 := k1.cell 2; have y3 := k1.cell 3; have y4 := k1.cell 4; have y5 := k1.cell 5; have y6 := k1.cell 6; have y7 := k1.cell 7; have y8 := k1.cell 8; have y9 := k1.cell 9; have y10 := k1.cell 10; have y11 := k1.cell 11; have y12 := k1.cell 12; have y13 := k1.cell 13; have y14 := k1.cell 14; have y15 := k1.cell 15; have x0 := k2.cell 0; have x1 := k2.cell 1; have f0 := k2.frozen 0; have f1 := k2.frozen 1; have K2 := hid k2; have KB := hid kb; clear k0 k1 k2 kb; have HNW := hid (fds_news (HLL.out _ hb4)); have HN4 := hid hN; have HB4 := hid hb4; have HBL : Hid (w3.heap.size + 1 ≤ (w3.alloc (.cells (zS s.fm none 0 0) 58)).heap.size) := hid (by simp); clear hN hb4))
  | (at_builtin; refine wpList_append_fromN rfl _ _ 30 rfl (w3.heap.size + 1) 26 i0 _ 5 40 Tryz.underlying30 hi hz0 hz1 hz2 (by simp [Value.cells]) (by omega) (.slice none 0 0) 0 [] rfl (World.ownsRow_nil _ _ _ _) la s.l.length lc (fdV s.l) rfl HLV.out HNW.out (fdV_one _) HM1.out HM2.out HBL.out ?_))
 intro v1 w1 ho hg
 obtain ⟨fa, fc, rfl, _⟩ := ownsRow_slice ho
 have hbg : Below (w3.alloc (.cells (zS s.fm none 0 0) 58)).heap.size (w3.alloc (.cells (zS s.fm none 0 0) 58)) w1 := (Below.refl _ _).grown hg (Nat.le_refl _) (fun k hk => by cases hk)
 have HF2 := hid (HFB.out.put (l2 := s.l) (by simpa using ho) hbg)
 have hk := HFB.out.box.later hbg
 have c1 := hk.cell 1
 have g1 := hk.frozen 1
 have hsz := HSZ.out
 have hs3 := HS3.out
 have HBW : Hid (Below W3.heap.size W3 (w1.setCell ⟨w3.heap.size, 1, none⟩ (.slice fa s.l.length fc))) := hid (below_setCells (HB4.out.trans (hbg.mono HB4.out.size)) hs3 1 [_])
 have hw1 := HB4.out.trans (hbg.mono HB4.out.size)
 clear z0 z1 y0 y1 y2 y3 y4 y5 y6 y7 y8 y9 y10 y11 y12 y13 y14 y15 x0 x1 f0 f1 K2 KB cN cR cS
 have n3 : w.heap.size ≠ w3.heap.size := by omega
 have n4 : w.heap.size + 1 + 1 ≠ w3.heap.size := by omega
 replace HFB := HF2
 obtain ⟨k0, k1, k2, kb⟩ := HX.out _ hw1
 have z0 := k0.cell 0
 have z1 := k0.cell 1
 have c0 := hk.cell 0
 clear hk hbg ho hg k0 k1 k2 kb hw1
 have HW : Hid (w.heap.size + 3 ≤ (w1.setCell ⟨w3.heap.size, 1, none⟩ (.slice fa s.l.length fc)).heap.size) := hid (by have := HBW.out.size; omega)
 have cT : Calls Tryz.prog 48 #[zS v a F.length cap, zS s.fm fa s.l.length fc] (w1.setCell ⟨w3.heap.size, 1, none⟩ (.slice fa s.l.length fc)) _ := refForms_any v a cap F s.fm fa fc s.l _ (HFM.out _ HBW.out) HF40.out (Fb.ok HFB.out)
 unfold FormsAs at cT
 clear hsz hs3
 go_wp2_with (first
  | (go_at_call 48; ((with_reducible refine cT.mono ?_); rintro e w7 ⟨y, yc, G, rfl, hG, hfo, hfar, hb7⟩; have hN7 := newB w7 (.cells (zS v y G.length yc) 24); have hB7 := HBW.out.trans ((hb7.trans (hN7.mono hb7.size)).mono HBW.out.size); obtain ⟨k0, k1, k2, kb⟩ := HX.out _ hB7; have KX := hid (Block.new w7 24 (zS v y G.length yc)); have q0 := KX.out.cell 0; have q1 := KX.out.cell 1; have HG := hid (hG.below hN7); have HFO := hid hfo; have HFAR := hid hfar; have HGL : Hid (G.length ≤ maxLen) := hid (by have h8 := formsR_len (forms F) s.fm s.l; rw [← hfo, forms_length, forms_length] at h8; have := HF40.out; unfold maxLen; omega); have x0 := k2.cell 0; have x1 := k2.cell 1; have f0 := k2.frozen 0; have f1 := k2.frozen 1; have K2 := hid k2; have KB := hid kb; clear k0 k1 k2 kb hG hfo hfar)))
 by_cases hR : Right v (formsR (forms F) s.fm s.l)
 ·have HR := hid hR
  obtain rfl := HRY.out hR
  clear hR
  go_wp2_with ((go_at_call 43; ((with_reducible refine (refRight_any v y yc G _ HG.out HGL.out).mono ?_); unfold Gives; rw [decide_eq_true (show Right v (forms G) by rw [HFO.out]; exact HR.out)]; rintro e w8 ⟨rfl, hb8⟩; have hB8 := hB7.trans (hb8.mono hB7.size); obtain ⟨k0, k1, k2, kb⟩ := HX.out _ hB8; have kx8 := KX.out.later hb8; have q0 := kx8.cell 0; have q1 := kx8.cell 1; have x0 := k2.cell 0; have x1 := k2.cell 1; have f0 := k2.frozen 0; have f1 := k2.frozen 1; have K2 := hid k2; have KB := hid kb; clear k0 k1 k2 kb kx8)))
  have hB := (K2.out.setCell 0 (.int .i64 v)).setCell 1 (.slice y G.length yc)
  refine bodyPost_ret (results_cell2 (b := w.heap.size + 1 + 1) (o := 0) rfl rfl hB.whole Tryz.underlying24 rfl (sc_info2 _ _)) rfl ?_
  have hne : G ≠ [] → ∀ z, y = some z → z.block ≠ w.heap.size + 1 + 1 := fun _ z hz => by have := HFAR.out z hz; have := HW.out; omega
  exact ⟨y, yc, G, rfl, fml_set2 (fml_set2 (HG.out.below hb8) hne K2.out (by simp)) hne (K2.out.setCell 0 (.int .i64 v)) (by simp), HFO.out, (fun z hz => by have := HFAR.out z hz; have := HW.out; omega), below_setCells (below_setCells KB.out (by omega) 0 [_]) (by omega) 1 [_]⟩
 ·have HR := hid hR
  obtain rfl := HRM.out hR
  clear hR
  go_wp2_with ((go_at_call 43; ((with_reducible refine (refRight_any v y yc G _ HG.out HGL.out).mono ?_); unfold Gives; rw [decide_eq_false (show ¬ Right v (forms G) by rw [HFO.out]; exact HR.out)]; rintro e w8 ⟨rfl, hb8⟩; have hB8 := hB7.trans (hb8.mono hB7.size); obtain ⟨k0, k1, k2, kb⟩ := HX.out _ hB8; have kx8 := KX.out.later hb8; have q0 := kx8.cell 0; have q1 := kx8.cell 1; have x0 := k2.cell 0; have x1 := k2.cell 1; have f0 := k2.frozen 0; have f1 := k2.frozen 1; have K2 := hid k2; have KB := hid kb; clear k0 k1 k2 kb kx8)))
  have hB := (K2.out.setCell 0 (.int .i64 0)).setCell 1 (.slice none 0 0)
  refine bodyPost_ret (results_cell2 (b := w.heap.size + 1 + 1) (o := 0) rfl rfl hB.whole Tryz.underlying24 rfl (sc_info2 _ _)) rfl ?_
  exact ⟨none, 0, [], rfl, ⟨.inl rfl, by simp⟩, rfl, (fun z hz => by cases hz), below_setCells (below_setCells KB.out (by omega) 0 [_]) (by omega) 1 [_]⟩
end Go.Proofs.YtaciegkblklokaaGreat.typing
namespace Go.Proofs.YtaciegkblklokaaGreat.typing
open Go.RowKit Go.Proofs.YtaciegkblklokaaGreat.schema
open Go.Proofs.YtaciegkblklokaaGreat.field (Gives newB gives_from)
open Go.Proofs.YtaciegkblklokaaGreat.step (Lists boxP)
set_option maxRecDepth 20000 in
set_option maxHeartbeats 3200000 in
theorem refOn_1 (v : Int) (a : Option Addr) (cap : Nat) (F : List Fm) (s : step.Sp) (ta : Option Addr) (tc : Nat) (la : Option Addr) (lc : Nat) (w : World) (h : FmL w a F) (hF : Small w F) (hl : Lists w s ta la) (hL : s.l.length ≤ 40) (hf : Fit v (forms F) s) (h0 : names (forms F) s = 0) (hop : s.op = 1) (p9 : schema.Form) (hn9 : named (forms F) s.fm = some p9) (r : Int × List schema.Form × Nat) (hrY : Right v (formsR (forms F) s.fm (putL p9.2 s.pl.toNat s.f)) → r = (v, formsR (forms F) s.fm (putL p9.2 s.pl.toNat s.f), 0)) (hrM : ¬ Right v (formsR (forms F) s.fm (putL p9.2 s.pl.toNat s.f)) → r = (0, [], 7)) :
  Calls Tryz.prog 21 #[zS v a F.length cap, zP s ta tc la lc] w (OnR r w) := by
 obtain ⟨W3, HW3, hbw, hsz3, HX⟩ := on_boxes v a cap F s ta tc la lc w
 have hmx : F.length ≤ maxLen := by have := hF.1; unfold maxLen; omega
 have cR := refRight_any v a cap F W3 (h.below hbw) hmx
 unfold Gives at cR
 rw [← HW3.out] at cR
 have n1 : w.heap.size ≠ w.heap.size + 1 + 1 := by omega
 have n2 : w.heap.size + 1 ≠ w.heap.size + 1 + 1 := by omega
 have cS := fun (w' : World) (hb : Below W3.heap.size W3 w') => step.refRight_any s ta tc la lc w' ((hl.below hbw).below hb)
 unfold Gives at cS
 have cN := fun (w' : World) (hb : Below w.heap.size w w') => refNames_any v a cap F s ta tc la lc w' (h.below hb) hmx
 unfold Gives at cN
 have HSZ : Hid (W3.heap.size = w.heap.size + 3) := hid hsz3
 clear hsz3
 rw [decide_eq_true hf.1] at cR
 have hf1 := hf.2.1
 have hf2 := hf.2.2
 simp only [decide_eq_true hf1] at cS
 have d10 : decide (s.op > 10) = false := decide_eq_false (by omega)
 have h0' := h0
 rw [h0] at cN
 obtain ⟨p0, hn, hp1, hp7, hpf⟩ := names_zero hf h0 (by omega)
 have HF40 := hid hF.1
 have HFM : Hid (∀ w', Below W3.heap.size W3 w' → FmL w' a F) := hid (fun w' hb => (h.below hbw).below hb)
 rcases named_at (forms F) s.fm with ⟨hn', hx⟩ | ⟨p1, j, hn', hx, hj⟩
 ·rw [hn] at hn'; cases hn'
 rw [hn] at hn'
 cases hn'
 have hjl : j < F.length := by have := (List.getElem?_eq_some_iff.1 hj).1; rwa [forms_length] at this
 obtain ⟨b, off, p, ha, hbl, hp, _, _, _, hpl⟩ := form_at (h.below hbw) (Below.refl _ _) hjl
 obtain rfl : p0 = p.p := by have := forms_at hp; rw [hj] at this; exact Option.some.inj this
 have cFi := fun (w' : World) (hb : Below w.heap.size w w') => refFind_any v a cap F s.fm w' (h.below hb) hmx
 rw [fids_forms, hx] at cFi
 unfold Gives at cFi
 have hp40 : p.fL.length ≤ 40 := (hF.2 p (List.mem_of_getElem? hp)).2
 have hpc : p.fL.length ≤ p.fCap := (h.2 p (List.mem_of_getElem? hp)).cf
 have HP40 := hid hp40
 have HPC := hid hpc
 have HJ := hid hjl
 have HC0 : Hid (∀ w', Below W3.heap.size W3 w' → w'.cell? ⟨b, off + j * 2, none⟩ = some (.int .i64 p.id) ∧ w'.cell? ⟨b, off + j * 2 + 1, none⟩ = some (.slice p.f p.fL.length p.fCap) ∧ field.Fds w' p.f p.fL) := hid (fun w' hb => by
  obtain ⟨b2, off2, p2, he, _, hp2, e0, e1, e2, _⟩ := form_at (h.below hbw) hb hjl
  cases ha.symm.trans he
  rw [hp] at hp2
  cases hp2
  exact ⟨e0, e1, e2⟩)
 subst ha
 obtain rfl : p9 = p.p := by rw [hn] at hn9; exact (Option.some.inj hn9).symm
 obtain ⟨hpa, hpb⟩ := hp1 hop
 obtain ⟨kk, hkk⟩ : ∃ k : Nat, s.pl = (k : Int) := ⟨s.pl.toNat, by omega⟩
 have e9 : putL p.p.2 s.pl.toNat s.f = (putL p.fL kk s.f) := by rw [hkk]; rfl
 rw [e9] at hrY hrM
 have HRY := hid hrY
 have HRM := hid hrM
 have HKK := hid hkk
 have HKL : Hid (kk ≤ p.fL.length) := hid (by have : s.pl ≤ (p.fL.length : Int) := hpb; omega)
 have d9 : (s.op == 9) = false := by simp [hop]
 have d1 : (s.op == 1) = true := by simp [hop]
 unfold OnR
 clear h hF hl hL hmx hbw hf h0 h0' hf1 hf2 hx hj hn hp hpl hbl hjl hp40 hpc hpf hp1 hp7 hop hrY hrM e9 hkk hpa hpb hn9
 go_enter Tryz.func21, Tryz.ntmps21
 go_wp2_with (first
  | (go_at_call 43; ((with_reducible refine cR.mono ?_); rintro e w1 ⟨rfl, hb1⟩; rw [HW3.out] at hb1; obtain ⟨k0, k1, k2, kb⟩ := HX.out _ hb1; have z0 := k0.cell 0; have z1 := k0.cell 1; have y0 := k1.cell 0; have y1 := k1.cell 1; have y2 := k1.cell 2; have y3 := k1.cell 3; have y4 := k1.cell 4; have y5 := k1.cell 5; have y6 := k1.cell 6; have y7 := k1.cell 7; have y8 := k1.cell 8; have y9 := k1.cell 9; have y10 := k1.cell 10; have y11 := k1.cell 11; have y12 := k1.cell 12; have y13 := k1.cell 13; have y14 := k1.cell 14; have y15 := k1.cell 15; have x0 := k2.cell 0; have x1 := k2.cell 1; have f0 := k2.frozen 0; have f1 := k2.frozen 1; have K2 := hid k2; have KB := hid kb; clear k0 k1 k2 kb))
  | (go_at_call 18; ((with_reducible refine (cS _ hb1).mono ?_); rintro e w2 ⟨rfl, hb2⟩; have hb1 := hb1.trans (hb2.mono hb1.size); obtain ⟨k0, k1, k2, kb⟩ := HX.out _ hb1; have z0 := k0.cell 0; have z1 := k0.cell 1; have y0 := k1.cell 0; have y1 := k1.cell 1; have y2 := k1.cell 2; have y3 := k1.cell 3; have y4 := k1.cell 4; have y5 := k1.cell 5; have y6 := k1.cell 6; have y7 := k1.cell 7; have y8 := k1.cell 8; have y9 := k1.cell 9; have y10 := k1.cell 10; have y11 := k1.cell 11; have y12 := k1.cell 12; have y13 := k1.cell 13; have y14 := k1.cell 14; have y15 := k1.cell 15; have x0 := k2.cell 0; have x1 := k2.cell 1; have f0 := k2.frozen 0; have f1 := k2.frozen 1; have K2 := hid k2; have KB := hid kb; clear k0 k1 k2 kb))
  | (go_at_call 44; ((with_reducible refine (cN _ KB.out).mono ?_); rintro e w3 ⟨rfl, hb3⟩; have hb1 := hb1.trans (hb3.mono hb1.size); obtain ⟨k0, k1, k2, kb⟩ := HX.out _ hb1; have z1w := k1.cell 1; have HB3 := hid hb1; have hN := newB w3 (.cells (zS s.fm none 0 0) 58); have hb4 := hb1.trans (hN.mono hb1.size); have HS3 := hid hb1.size; clear k0 k1 k2 kb; obtain ⟨k0, k1, k2, kb⟩ := HX.out _ hb4; have HFB := hid (Fb.new s.fm w3); have z0 := k0.cell 0; have z1 := k0.cell 1; have y0 := k1.cell 0; have y1 := k1.cell 1; have y2 := k1.cell 2; have y3 := k1.cell 3; have y4 := k1.cell 4; have y5 := k1.cell 5; have y6 := k1.cell 6; have y7 := k1.cell 7; have y8 := k1.cell 8; have y9 := k1.cell 9; have y10 := k1.cell 10; have y11 := k1.cell 11; have y12 := k1.cell 12; have y13 := k1.cell 13; have y14 := k1.cell 14; have y15 := k1.cell 15; have x0 := k2.cell 0; have x1 := k2.cell 1; have f0 := k2.frozen 0; have f1 := k2.frozen 1; have K2 := hid k2; have KB := hid kb; clear k0 k1 k2 kb; have HN4 := hid hN; have HB4 := hid hb4; clear hN hb4)))
 obtain ⟨W4, hW4⟩ : ∃ x, Hid (w3.alloc (.cells (zS s.fm none 0 0) 58) = x) := ⟨_, hid rfl⟩
 rw [hW4.out] at HN4 HB4 HFB ⊢
 obtain ⟨fb, hfb⟩ : ∃ x, Hid (w3.heap.size = x) := ⟨_, hid rfl⟩
 have HNF : Hid (w.heap.size + 3 ≤ fb) := hid (by have := HS3.out; have := HSZ.out; have := hfb.out; omega)
 have HB3' := HB3
 have HC : Hid (∀ w', Below fb w3 w' → (Block w' w.heap.size 24 (zS v (some ⟨b, off, none⟩) F.length cap) ∧ Block w' (w.heap.size + 1) 32 (zP s ta tc la lc) ∧ Block w' (w.heap.size + 1 + 1) 24 [.int .i64 0, .slice none 0 0] ∧ Below w.heap.size w w') ∧ w'.cell? ⟨b, off + j * 2 + 1, none⟩ = some (.slice p.f p.fL.length p.fCap) ∧ field.Fds w' p.f p.fL ∧ FmL w' (some ⟨b, off, none⟩) F) := hid (fun w' hb => by
  rw [← hfb.out] at hb
  have h3 := HB3'.out.trans (hb.mono HB3'.out.size)
  exact ⟨HX.out _ h3, (HC0.out _ h3).2.1, (HC0.out _ h3).2.2, HFM.out _ h3⟩)
 have HB3f : Hid (∀ w', Below fb w3 w' → Below W3.heap.size W3 w') := hid (fun w' hb => by rw [← hfb.out] at hb; exact HB3'.out.trans (hb.mono HB3'.out.size))
 rw [hfb.out] at HFB
 rw [hfb.out]
 clear z0 z1 z1w y0 y1 y2 y3 y4 y5 y6 y7 y8 y9 y10 y11 y12 y13 y14 y15 x0 x1 f0 f1 K2 KB cN cR cS HB3 HB3' hW4 hb1 hb3 HN4 HB4
 have hS : Below fb w3 W4.drew := below_drewN HFB.out.below 1
 have hT : Below W4.heap.size W4 W4.drew := below_drewN (Below.refl _ _) 1
 have HLT := HFB.out.box.lt
 refine plan.regionS (S := fun w' => Below fb w3 w') ?_
 generalize W4.drew = wd at *
 refine plan.firstS 0 _ (.pointer (some ⟨w.heap.size, 1, none⟩)) rfl (fun w' hS' => (by kernel_rfl)) hS ?_
 refine plan.firstS 1 _ (.slice (some ⟨b, off, none⟩) F.length cap) rfl (fun w' hS' => exec_cell_slice (ad := ⟨w.heap.size, 1, none⟩) rfl ((HC.out _ hS').1.1.cell 1) Tryz.isAgg22) hS ?_
 refine plan.firstS 2 _ (zS v (some ⟨b, off, none⟩) F.length cap) rfl (fun w' hS' => exec_load_at (b := w.heap.size) (off := 0) rfl (HC.out _ hS').1.1.whole Tryz.underlying24 rfl info_sc.out) hS ?_
 refine plan.firstS 3 _ (.pointer (some ⟨w.heap.size + 1, 1, none⟩)) rfl (fun w' hS' => (by kernel_rfl)) hS ?_
 refine plan.firstS 4 _ (.int .i64 s.fm) rfl (fun w' hS' => exec_cell_int (ad := ⟨w.heap.size + 1, 1, none⟩) rfl (by kernel_rfl) ((HC.out _ hS').1.2.1.cell 1) Tryz.isAgg3) hS ?_
 refine plan.firstS 9 _ (.pointer (some ⟨w.heap.size + 1, 3, none⟩)) rfl (fun w' hS' => (by kernel_rfl)) hS ?_
 refine plan.firstS 10 _ (.int .i64 s.pl) rfl (fun w' hS' => exec_cell_int (ad := ⟨w.heap.size + 1, 3, none⟩) rfl (by kernel_rfl) ((HC.out _ hS').1.2.1.cell 3) Tryz.isAgg3) hS ?_
 refine plan.firstS 11 _ (.pointer (some ⟨w.heap.size + 1, 7, none⟩)) rfl (fun w' hS' => (by kernel_rfl)) hS ?_
 refine plan.firstS 12 _ (zF s.f) rfl (fun w' hS' => exec_load_at (b := w.heap.size + 1) (off := 7) rfl (range5 ((HC.out _ hS').1.2.1.cell 7) ((HC.out _ hS').1.2.1.cell 8) ((HC.out _ hS').1.2.1.cell 9) ((HC.out _ hS').1.2.1.cell 10) ((HC.out _ hS').1.2.1.cell 11)) Tryz.underlying26 rfl info_fd.out) hS ?_
 refine plan.callS 5 _ 22 #[zS v (some ⟨b, off, none⟩) F.length cap, .int .i64 s.fm] rfl ((cFi _ (HC.out _ hS).1.2.2.2).mono ?_)
 rintro e w5 ⟨rfl, hb5⟩
 have hS5 : Below fb w3 w5 := hS.trans (hb5.mono (by have := hT.size; omega))
 have hT5 : Below W4.heap.size W4 w5 := hT.trans (hb5.mono hT.size)
 refine ⟨_, rfl, hS5, ?_⟩
 clear hS hT hb5
 refine plan.firstS 6 _ (.pointer (some ⟨b, off + j * 2, none⟩)) rfl (fun w' hS' => exec_indexM' (b := b) (off := off) (len := F.length) (cap := cap) (i := j) rfl HJ.out) hS5 ?_
 refine plan.firstS 7 _ (.pointer (some ⟨b, off + j * 2 + 1, none⟩)) rfl (fun w' hS' => (by kernel_rfl)) hS5 ?_
 refine plan.firstS 8 _ (.slice p.f p.fL.length p.fCap) rfl (fun w' hS' => exec_cell_slice (ad := ⟨b, off + j * 2 + 1, none⟩) rfl ((HC.out _ hS').2.1) Tryz.isAgg30) hS5 ?_
 have cP : Calls Tryz.prog 45 #[.slice p.f p.fL.length p.fCap, .int .i64 s.pl, zF s.f] w5 (OwnsF (putL p.fL kk s.f) w5) := by
  rw [HKK.out]
  exact refPut_any p.f p.fCap p.fL kk s.f w5 (HC.out _ hS5).2.2.1 HKL.out HPC.out (by have := HP40.out; omega)
 refine plan.callS 13 _ 45 #[.slice p.f p.fL.length p.fCap, .int .i64 s.pl, zF s.f] rfl (cP.mono ?_)
 rintro e w7 ⟨q, rfl, ho7, hb7⟩
 obtain ⟨fa, fc, rfl, _⟩ := ownsRow_slice ho7
 have hS7 : Below fb w3 w7 := hS5.trans (hb7.mono (by have := hT5.size; omega))
 have hF5 := HFB.out.later hT5
 have hk := hF5.box.later hb7
 refine ⟨_, rfl, hS7, ?_⟩
 have hF8 := hF5.put (l2 := (putL p.fL kk s.f)) ho7 hb7
 have hS8 : Below fb w3 (w7.setCell ⟨fb, 1, none⟩ (.slice fa (putL p.fL kk s.f).length fc)) := below_setCells hS7 (Nat.le_refl _) 1 [_]
 refine plan.oneS (w1 := w7) 14 _ (.pointer (some ⟨fb, 1, none⟩)) rfl rfl hS7 ?_
 refine plan.lastS (w1 := w7.setCell ⟨fb, 1, none⟩ (.slice fa (putL p.fL kk s.f).length fc)) 15 _ rfl rfl rfl (exec_put_fd rfl (hk.cell 1) (hk.frozen 1)) hS8 ?_
 generalize w7.setCell ⟨fb, 1, none⟩ (.slice fa (putL p.fL kk s.f).length fc) = w8 at *
 clear hS5 hT5 hS7 hF5 hk ho7 hb7 cP cFi
 replace HFB := hid hF8
 have HBW := hid (HB3f.out _ hS8)
 clear hF8 hS8
 obtain ⟨k0, k1, k2, kb⟩ := HX.out _ HBW.out
 have z0 := k0.cell 0
 have z1 := k0.cell 1
 have x0 := k2.cell 0
 have x1 := k2.cell 1
 have f0 := k2.frozen 0
 have f1 := k2.frozen 1
 have K2 := hid k2
 have KB := hid kb
 clear k0 k1 k2 kb
 have HW : Hid (w.heap.size + 3 ≤ w8.heap.size) := hid (by have := HBW.out.size; have := HSZ.out; omega)
 have cT : Calls Tryz.prog 48 #[zS v (some ⟨b, off, none⟩) F.length cap, .agg #[.int .i64 s.fm, .slice fa ((putL p.fL kk s.f)).length fc]] w8 _ := refForms_any v (some ⟨b, off, none⟩) cap F s.fm fa fc ((putL p.fL kk s.f)) w8 (HFM.out _ HBW.out) HF40.out (Fb.ok HFB.out)
 unfold FormsAs at cT
 have c0 := HFB.out.box.cell 0
 have c1 := HFB.out.box.cell 1
 walk_nrm
 go_wp2_with (first
  | (go_at_call 48; ((with_reducible refine cT.mono ?_); rintro e w7 ⟨y, yc, G, rfl, hG, hfo, hfar, hb7⟩; have hN7 := newB w7 (.cells (zS v y G.length yc) 24); have hB7 := HBW.out.trans ((hb7.trans (hN7.mono hb7.size)).mono HBW.out.size); obtain ⟨k0, k1, k2, kb⟩ := HX.out _ hB7; have KX := hid (Block.new w7 24 (zS v y G.length yc)); have q0 := KX.out.cell 0; have q1 := KX.out.cell 1; have HG := hid (hG.below hN7); have HFO := hid hfo; have HFAR := hid hfar; have HGL : Hid (G.length ≤ maxLen) := hid (by have h8 := formsR_len (forms F) s.fm (putL p.fL kk s.f); rw [← hfo, forms_length, forms_length] at h8; have := HF40.out; unfold maxLen; omega); have x0 := k2.cell 0; have x1 := k2.cell 1; have f0 := k2.frozen 0; have f1 := k2.frozen 1; have K2 := hid k2; have KB := hid kb; clear k0 k1 k2 kb hG hfo hfar)))
 by_cases hR : Right v (formsR (forms F) s.fm (putL p.fL kk s.f))
 ·have HR := hid hR
  obtain rfl := HRY.out hR
  clear hR
  go_wp2_with ((go_at_call 43; ((with_reducible refine (refRight_any v y yc G _ HG.out HGL.out).mono ?_); unfold Gives; rw [decide_eq_true (show Right v (forms G) by rw [HFO.out]; exact HR.out)]; rintro e w8 ⟨rfl, hb8⟩; have hB8 := hB7.trans (hb8.mono hB7.size); obtain ⟨k0, k1, k2, kb⟩ := HX.out _ hB8; have kx8 := KX.out.later hb8; have q0 := kx8.cell 0; have q1 := kx8.cell 1; have x0 := k2.cell 0; have x1 := k2.cell 1; have f0 := k2.frozen 0; have f1 := k2.frozen 1; have K2 := hid k2; have KB := hid kb; clear k0 k1 k2 kb kx8)))
  have hB := (K2.out.setCell 0 (.int .i64 v)).setCell 1 (.slice y G.length yc)
  refine bodyPost_ret (results_cell2 (b := w.heap.size + 1 + 1) (o := 0) rfl rfl hB.whole Tryz.underlying24 rfl (sc_info2 _ _)) rfl ?_
  have hne : G ≠ [] → ∀ z, y = some z → z.block ≠ w.heap.size + 1 + 1 := fun _ z hz => by have := HFAR.out z hz; have := HW.out; omega
  exact ⟨y, yc, G, rfl, fml_set2 (fml_set2 (HG.out.below hb8) hne K2.out (by simp)) hne (K2.out.setCell 0 (.int .i64 v)) (by simp), HFO.out, (fun z hz => by have := HFAR.out z hz; have := HW.out; omega), below_setCells (below_setCells KB.out (by omega) 0 [_]) (by omega) 1 [_]⟩
 ·have HR := hid hR
  obtain rfl := HRM.out hR
  clear hR
  go_wp2_with ((go_at_call 43; ((with_reducible refine (refRight_any v y yc G _ HG.out HGL.out).mono ?_); unfold Gives; rw [decide_eq_false (show ¬ Right v (forms G) by rw [HFO.out]; exact HR.out)]; rintro e w8 ⟨rfl, hb8⟩; have hB8 := hB7.trans (hb8.mono hB7.size); obtain ⟨k0, k1, k2, kb⟩ := HX.out _ hB8; have kx8 := KX.out.later hb8; have q0 := kx8.cell 0; have q1 := kx8.cell 1; have x0 := k2.cell 0; have x1 := k2.cell 1; have f0 := k2.frozen 0; have f1 := k2.frozen 1; have K2 := hid k2; have KB := hid kb; clear k0 k1 k2 kb kx8)))
  have hB := (K2.out.setCell 0 (.int .i64 0)).setCell 1 (.slice none 0 0)
  refine bodyPost_ret (results_cell2 (b := w.heap.size + 1 + 1) (o := 0) rfl rfl hB.whole Tryz.underlying24 rfl (sc_info2 _ _)) rfl ?_
  exact ⟨none, 0, [], rfl, ⟨.inl rfl, by simp⟩, rfl, (fun z hz => by cases hz), below_setCells (below_setCells KB.out (by omega) 0 [_]) (by omega) 1 [_]⟩
end Go.Proofs.YtaciegkblklokaaGreat.typing
namespace Go.Proofs.YtaciegkblklokaaGreat.typing
open Go.RowKit Go.Proofs.YtaciegkblklokaaGreat.schema
open Go.Proofs.YtaciegkblklokaaGreat.field (Gives newB gives_from)
open Go.Proofs.YtaciegkblklokaaGreat.step (Lists boxP)
set_option maxRecDepth 20000 in
set_option maxHeartbeats 3200000 in
theorem refOn_bad (v : Int) (a : Option Addr) (cap : Nat) (F : List Fm) (s : step.Sp) (ta : Option Addr) (tc : Nat) (la : Option Addr) (lc : Nat) (w : World) (h : FmL w a F) (hF : Small w F) (hl : Lists w s ta la) (hL : s.l.length ≤ 40) (hf : Fit v (forms F) s) (h0 : names (forms F) s = 0) (h9 : ¬ s.op = 9) (h1 : ¬ s.op = 1) (h10 : ¬ s.op = 10) (p9 : schema.Form) (hn9 : named (forms F) s.fm = some p9) (ML : List field.Fd) (hT : types (oldAt p9.2 (firstAt (ids p9.2) s.fd)) s = (ML, false)) (FIN : List field.Fd) (hFIN : puts (cutL p9.2 (firstAt (ids p9.2) s.fd).toNat) (if s.op = 7 then s.pl.toNat else (firstAt (ids p9.2) s.fd).toNat) ML = FIN) :
  Calls Tryz.prog 21 #[zS v a F.length cap, zP s ta tc la lc] w (OnR (0, [], 17) w) := by
 obtain ⟨W3, HW3, hbw, hsz3, HX⟩ := on_boxes v a cap F s ta tc la lc w
 have hmx : F.length ≤ maxLen := by have := hF.1; unfold maxLen; omega
 have cR := refRight_any v a cap F W3 (h.below hbw) hmx
 unfold Gives at cR
 rw [← HW3.out] at cR
 have n1 : w.heap.size ≠ w.heap.size + 1 + 1 := by omega
 have n2 : w.heap.size + 1 ≠ w.heap.size + 1 + 1 := by omega
 have cS := fun (w' : World) (hb : Below W3.heap.size W3 w') => step.refRight_any s ta tc la lc w' ((hl.below hbw).below hb)
 unfold Gives at cS
 have cN := fun (w' : World) (hb : Below w.heap.size w w') => refNames_any v a cap F s ta tc la lc w' (h.below hb) hmx
 unfold Gives at cN
 have HSZ : Hid (W3.heap.size = w.heap.size + 3) := hid hsz3
 clear hsz3
 rw [decide_eq_true hf.1] at cR
 have hf1 := hf.2.1
 have hf2 := hf.2.2
 simp only [decide_eq_true hf1] at cS
 have d10 : decide (s.op > 10) = false := decide_eq_false (by omega)
 have h0' := h0
 rw [h0] at cN
 obtain ⟨p0, hn, hp1, hp7, hpf⟩ := names_zero hf h0 h9
 have HF40 := hid hF.1
 have HFM : Hid (∀ w', Below W3.heap.size W3 w' → FmL w' a F) := hid (fun w' hb => (h.below hbw).below hb)
 rcases named_at (forms F) s.fm with ⟨hn', hx⟩ | ⟨p1, j, hn', hx, hj⟩
 ·rw [hn] at hn'; cases hn'
 rw [hn] at hn'
 cases hn'
 have hjl : j < F.length := by have := (List.getElem?_eq_some_iff.1 hj).1; rwa [forms_length] at this
 obtain ⟨b, off, p, ha, hbl, hp, _, _, _, hpl⟩ := form_at (h.below hbw) (Below.refl _ _) hjl
 obtain rfl : p0 = p.p := by have := forms_at hp; rw [hj] at this; exact Option.some.inj this
 have cFi := fun (w' : World) (hb : Below w.heap.size w w') => refFind_any v a cap F s.fm w' (h.below hb) hmx
 rw [fids_forms, hx] at cFi
 unfold Gives at cFi
 have hp40 : p.fL.length ≤ 40 := (hF.2 p (List.mem_of_getElem? hp)).2
 have hpc : p.fL.length ≤ p.fCap := (h.2 p (List.mem_of_getElem? hp)).cf
 have HP40 := hid hp40
 have HPC := hid hpc
 have HJ := hid hjl
 have HC0 : Hid (∀ w', Below W3.heap.size W3 w' → w'.cell? ⟨b, off + j * 2, none⟩ = some (.int .i64 p.id) ∧ w'.cell? ⟨b, off + j * 2 + 1, none⟩ = some (.slice p.f p.fL.length p.fCap) ∧ field.Fds w' p.f p.fL) := hid (fun w' hb => by
  obtain ⟨b2, off2, p2, he, _, hp2, e0, e1, e2, _⟩ := form_at (h.below hbw) hb hjl
  cases ha.symm.trans he
  rw [hp] at hp2
  cases hp2
  exact ⟨e0, e1, e2⟩)
 subst ha
 obtain rfl : p9 = p.p := by rw [hn] at hn9; exact (Option.some.inj hn9).symm
 have hk0 := hpf (by unfold nf; simp [h1, h9, h10])
 obtain ⟨hi, hor⟩ := old_right hf.1 hn hk0
 obtain ⟨i, hi0⟩ : ∃ i : Nat, firstAt (ids p.p.2) s.fd = (i : Int) := ⟨(firstAt (ids p.p.2) s.fd).toNat, by omega⟩
 rw [hi0] at hi hor hT hFIN
 simp only [Int.toNat_natCast] at hi hFIN
 change i < p.fL.length at hi
 obtain ⟨f, hof⟩ : ∃ f, oldAt p.p.2 (i : Int) = f := ⟨_, rfl⟩
 have hfi : p.fL[i]? = some f := by
  rw [← hof]; unfold oldAt; rw [if_pos (by omega), Int.toNat_natCast]
  change p.fL[i]? = some (p.fL.getD i step.fd0)
  rw [List.getD_eq_getElem?_getD, List.getElem?_eq_getElem hi]; rfl
 rw [hof] at hT hor
 have hbq := types_bd hf hor
 have HBQ := hid hbq
 have HI := hid hi
 have hml2 : ML.length ≤ 2 := by have := types_len f s; rw [hT] at this; exact this
 obtain ⟨bf, of, f2, hpf2, _, hg2, _⟩ := field_at (HC0.out _ (Below.refl _ _)).2.2 (Below.refl _ _) hi
 have HPF := hid hpf2
 have HOF0 : Hid (∀ w', Below W3.heap.size W3 w' → w'.rangeAt bf (of + i * 5) (zF f)) := hid (fun w' hb => by
  obtain ⟨b5, o5, f5, e5, _, g5, c0, c1, c2, c3, c4⟩ := field_at (HC0.out _ hb).2.2 (Below.refl _ _) hi
  rw [hpf2] at e5
  cases e5
  rw [hfi] at g5
  cases g5
  exact range5 c0 c1 c2 c3 c4)
 have HTY := hid hT
 have HML := hid hml2
 have HI0 := hid hi0
 have HPL := hid hpl
 have HOFX := HOF0
 have d9 : (s.op == 9) = false := by simpa using h9
 have d1 : (s.op == 1) = false := by simpa using h1
 have d10' : (s.op == 10) = false := by simpa using h10
 unfold OnR
 clear h hF hl hL hmx hbw hf h0 h0' hf1 hf2 hx hj hn hp hpl hbl hjl hp40 hpc hpf hp1 hp7 h1 h9 h10 hn9 hk0 hor hi0 hof hfi hT hbq hi hml2 hpf2 hg2 hFIN
 go_enter Tryz.func21, Tryz.ntmps21
 go_wp2_with (first
  | (go_at_call 43; ((with_reducible refine cR.mono ?_); rintro e w1 ⟨rfl, hb1⟩; rw [HW3.out] at hb1; obtain ⟨k0, k1, k2, kb⟩ := HX.out _ hb1; have z0 := k0.cell 0; have z1 := k0.cell 1; have y0 := k1.cell 0; have y1 := k1.cell 1; have y2 := k1.cell 2; have y3 := k1.cell 3; have y4 := k1.cell 4; have y5 := k1.cell 5; have y6 := k1.cell 6; have y7 := k1.cell 7; have y8 := k1.cell 8; have y9 := k1.cell 9; have y10 := k1.cell 10; have y11 := k1.cell 11; have y12 := k1.cell 12; have y13 := k1.cell 13; have y14 := k1.cell 14; have y15 := k1.cell 15; have x0 := k2.cell 0; have x1 := k2.cell 1; have f0 := k2.frozen 0; have f1 := k2.frozen 1; have K2 := hid k2; have KB := hid kb; clear k0 k1 k2 kb))
  | (go_at_call 18; ((with_reducible refine (cS _ hb1).mono ?_); rintro e w2 ⟨rfl, hb2⟩; have hb1 := hb1.trans (hb2.mono hb1.size); obtain ⟨k0, k1, k2, kb⟩ := HX.out _ hb1; have z0 := k0.cell 0; have z1 := k0.cell 1; have y0 := k1.cell 0; have y1 := k1.cell 1; have y2 := k1.cell 2; have y3 := k1.cell 3; have y4 := k1.cell 4; have y5 := k1.cell 5; have y6 := k1.cell 6; have y7 := k1.cell 7; have y8 := k1.cell 8; have y9 := k1.cell 9; have y10 := k1.cell 10; have y11 := k1.cell 11; have y12 := k1.cell 12; have y13 := k1.cell 13; have y14 := k1.cell 14; have y15 := k1.cell 15; have x0 := k2.cell 0; have x1 := k2.cell 1; have f0 := k2.frozen 0; have f1 := k2.frozen 1; have K2 := hid k2; have KB := hid kb; clear k0 k1 k2 kb))
  | (go_at_call 44; ((with_reducible refine (cN _ KB.out).mono ?_); rintro e w3 ⟨rfl, hb3⟩; have hb1 := hb1.trans (hb3.mono hb1.size); obtain ⟨k0, k1, k2, kb⟩ := HX.out _ hb1; have z1w := k1.cell 1; have HB3 := hid hb1; have hN := newB w3 (.cells (zS s.fm none 0 0) 58); have hb4 := hb1.trans (hN.mono hb1.size); have HS3 := hid hb1.size; clear k0 k1 k2 kb; obtain ⟨k0, k1, k2, kb⟩ := HX.out _ hb4; have HFB := hid (Fb.new s.fm w3); have z0 := k0.cell 0; have z1 := k0.cell 1; have y0 := k1.cell 0; have y1 := k1.cell 1; have y2 := k1.cell 2; have y3 := k1.cell 3; have y4 := k1.cell 4; have y5 := k1.cell 5; have y6 := k1.cell 6; have y7 := k1.cell 7; have y8 := k1.cell 8; have y9 := k1.cell 9; have y10 := k1.cell 10; have y11 := k1.cell 11; have y12 := k1.cell 12; have y13 := k1.cell 13; have y14 := k1.cell 14; have y15 := k1.cell 15; have x0 := k2.cell 0; have x1 := k2.cell 1; have f0 := k2.frozen 0; have f1 := k2.frozen 1; have K2 := hid k2; have KB := hid kb; clear k0 k1 k2 kb; have HN4 := hid hN; have HB4 := hid hb4; clear hN hb4)))
 obtain ⟨W4, hW4⟩ : ∃ x, Hid (w3.alloc (.cells (zS s.fm none 0 0) 58) = x) := ⟨_, hid rfl⟩
 rw [hW4.out] at HN4 HB4 HFB ⊢
 obtain ⟨fb, hfb⟩ : ∃ x, Hid (w3.heap.size = x) := ⟨_, hid rfl⟩
 have HNF : Hid (w.heap.size + 3 ≤ fb) := hid (by have := HS3.out; have := HSZ.out; have := hfb.out; omega)
 have HB3' := HB3
 have HC : Hid (∀ w', Below fb w3 w' → (Block w' w.heap.size 24 (zS v (some ⟨b, off, none⟩) F.length cap) ∧ Block w' (w.heap.size + 1) 32 (zP s ta tc la lc) ∧ Block w' (w.heap.size + 1 + 1) 24 [.int .i64 0, .slice none 0 0] ∧ Below w.heap.size w w') ∧ w'.cell? ⟨b, off + j * 2 + 1, none⟩ = some (.slice p.f p.fL.length p.fCap) ∧ field.Fds w' p.f p.fL ∧ FmL w' (some ⟨b, off, none⟩) F) := hid (fun w' hb => by
  rw [← hfb.out] at hb
  have h3 := HB3'.out.trans (hb.mono HB3'.out.size)
  exact ⟨HX.out _ h3, (HC0.out _ h3).2.1, (HC0.out _ h3).2.2, HFM.out _ h3⟩)
 have HB3f : Hid (∀ w', Below fb w3 w' → Below W3.heap.size W3 w') := hid (fun w' hb => by rw [← hfb.out] at hb; exact HB3'.out.trans (hb.mono HB3'.out.size))
 rw [hfb.out] at HFB
 rw [hfb.out]
 have HOF : Hid (∀ w', Below fb w3 w' → w'.rangeAt bf (of + i * 5) (zF f)) := hid (fun w' hb => HOFX.out _ (HB3f.out _ hb))
 clear z0 z1 z1w y0 y1 y2 y3 y4 y5 y6 y7 y8 y9 y10 y11 y12 y13 y14 y15 x0 x1 f0 f1 K2 KB cN cR cS HB3 HB3' hW4 hb1 hb3 HN4 HB4
 have hS : Below fb w3 W4.drew := below_drewN HFB.out.below 1
 have hT : Below W4.heap.size W4 W4.drew := below_drewN (Below.refl _ _) 1
 have HLT := HFB.out.box.lt
 refine plan.regionS (S := fun w' => Below fb w3 w') ?_
 generalize W4.drew = wd at *
 refine plan.firstS 0 _ (.pointer (some ⟨w.heap.size, 1, none⟩)) rfl (fun w' hS' => (by kernel_rfl)) hS ?_
 refine plan.firstS 1 _ (.slice (some ⟨b, off, none⟩) F.length cap) rfl (fun w' hS' => exec_cell_slice (ad := ⟨w.heap.size, 1, none⟩) rfl ((HC.out _ hS').1.1.cell 1) Tryz.isAgg22) hS ?_
 refine plan.firstS 2 _ (zS v (some ⟨b, off, none⟩) F.length cap) rfl (fun w' hS' => exec_load_at (b := w.heap.size) (off := 0) rfl (HC.out _ hS').1.1.whole Tryz.underlying24 rfl info_sc.out) hS ?_
 refine plan.firstS 3 _ (.pointer (some ⟨w.heap.size + 1, 1, none⟩)) rfl (fun w' hS' => (by kernel_rfl)) hS ?_
 refine plan.firstS 4 _ (.int .i64 s.fm) rfl (fun w' hS' => exec_cell_int (ad := ⟨w.heap.size + 1, 1, none⟩) rfl (by kernel_rfl) ((HC.out _ hS').1.2.1.cell 1) Tryz.isAgg3) hS ?_
 refine plan.callS 5 _ 22 #[zS v (some ⟨b, off, none⟩) F.length cap, .int .i64 s.fm] rfl ((cFi _ (HC.out _ hS).1.2.2.2).mono ?_)
 rintro e w5 ⟨rfl, hb5⟩
 have hS5 : Below fb w3 w5 := hS.trans (hb5.mono (by have := hT.size; omega))
 have hT5 : Below W4.heap.size W4 w5 := hT.trans (hb5.mono hT.size)
 refine ⟨_, rfl, hS5, ?_⟩
 clear hS hT hb5
 refine plan.firstS 6 _ (.pointer (some ⟨b, off + j * 2, none⟩)) rfl (fun w' hS' => exec_indexM' (b := b) (off := off) (len := F.length) (cap := cap) (i := j) rfl HJ.out) hS5 ?_
 refine plan.firstS 7 _ (.pointer (some ⟨b, off + j * 2 + 1, none⟩)) rfl (fun w' hS' => (by kernel_rfl)) hS5 ?_
 refine plan.firstS 8 _ (.slice p.f p.fL.length p.fCap) rfl (fun w' hS' => exec_cell_slice (ad := ⟨b, off + j * 2 + 1, none⟩) rfl ((HC.out _ hS').2.1) Tryz.isAgg30) hS5 ?_
 refine plan.oneS (w1 := w5) 9 _ (.slice p.f p.fL.length p.fCap) rfl rfl hS5 ?_
 refine plan.doneS ?_
 have K5 := HC.out _ hS5
 have y2 := K5.1.2.1.cell 2
 have cA : Calls Tryz.prog 23 #[.agg #[.int .i64 0, .slice p.f p.fL.length p.fCap], .int .i64 s.fd] w5 (Gives (.int .i64 (i : Int)) w5) := by
  have := refAt_any 0 p.f p.fCap p.fL s.fd w5 K5.2.2.1 HPL.out
  rw [show firstAt (ids p.fL) s.fd = (i : Int) from HI0.out] at this
  exact this
 unfold Gives at cA
 clear K5
 walk_nrm
 go_wp2_with (go_at_call 23; ((with_reducible refine cA.mono ?_); rintro e w6 ⟨rfl, hb6⟩))
 have hS6 : Below fb w3 w6.drew := below_drewN (hS5.trans (hb6.mono (by have := hT5.size; omega))) 1
 have hT6 : Below W4.heap.size W4 w6.drew := below_drewN (hT5.trans (hb6.mono hT5.size)) 1
 clear cA y2 hb6 hS5 hT5 cFi
 refine plan.regionS (S := fun w' => Below fb w3 w') ?_
 generalize w6.drew = wd at *
 refine plan.firstS 0 _ (.slice p.f p.fL.length p.fCap) rfl (fun w' hS' => (by kernel_rfl)) hS6 ?_
 refine plan.firstS 1 _ (.int .i64 (i : Int)) rfl (fun w' hS' => (by kernel_rfl)) hS6 ?_
 refine plan.firstS 2 _ (.pointer (some ⟨bf, of + i * 5, none⟩)) rfl (fun w' hS' => exec_indexF (b := bf) (off := of) (len := p.fL.length) (cap := p.fCap) (i := i) rfl (hx := (Eq.trans (b := .slice p.f p.fL.length p.fCap) (by kernel_rfl) (by rw [HPF.out]))) HI.out) hS6 ?_
 refine plan.firstS 3 _ (zF f) rfl (fun w' hS' => exec_load_at (b := bf) (off := of + i * 5) rfl (HOF.out _ hS') Tryz.underlying26 rfl info_fd.out) hS6 ?_
 refine plan.firstS 4 _ (zP s ta tc la lc) rfl (fun w' hS' => exec_load_at (b := w.heap.size + 1) (off := 0) rfl (HC.out _ hS').1.2.1.whole Tryz.underlying32 rfl st_info) hS6 ?_
 have cTy := refTypes_any f s ta tc la lc wd HBQ.out.1 HBQ.out.2
 rw [HTY.out] at cTy
 unfold TypesAs at cTy
 refine plan.callS 5 _ 46 #[zF f, zP s ta tc la lc] rfl (cTy.mono ?_)
 rintro e w7 ⟨hb7, g, rfl, hg7⟩
 have hS8 : Below fb w3 w7 := hS6.trans (hb7.mono (by have := hT6.size; omega))
 have hT8 : Below W4.heap.size W4 w7 := hT6.trans (hb7.mono hT6.size)
 refine ⟨_, rfl, hS8, ?_⟩
 have HGG : Hid (ML ≠ [] → ∃ bg, fb < bg ∧ g = some ⟨bg, 0, none⟩ ∧ Block w7 bg 26 (fdV ML)) := hid (fun hne => by
  rcases hg7 with ⟨h, _⟩ | ⟨bg, h2, h3, h4⟩
  ·exact absurd h hne
  ·exact ⟨bg, by have := hT6.size; omega, h3, h4⟩)
 clear hg7 hb7 hS6 hT6 cTy
 refine plan.firstS 6 _ (.tuple #[.slice g ML.length ML.length, .bool false]) rfl (fun w' hS' => (by kernel_rfl)) hS8 ?_
 refine plan.firstS 7 _ (.slice g ML.length ML.length) rfl (fun w' hS' => (by kernel_rfl)) hS8 ?_
 refine plan.firstS 8 _ (.bool false) rfl (fun w' hS' => (by kernel_rfl)) hS8 ?_
 refine plan.oneS (w1 := w7) 9 _ (.slice g ML.length ML.length) rfl rfl hS8 ?_
 refine plan.oneS (w1 := w7) 10 _ (.bool false) rfl rfl hS8 ?_
 refine plan.doneS ?_
 walk_nrm
 obtain ⟨⟨k0, k1, k2, kb⟩, _, kf7, _⟩ := HC.out _ hS8
 have z0 := k0.cell 0
 have z1 := k0.cell 1
 have x0 := k2.cell 0
 have x1 := k2.cell 1
 have f0 := k2.frozen 0
 have f1 := k2.frozen 1
 have K2 := hid k2
 have KB := hid kb
 clear k0 k1 k2 kb
 go_wp2
 have hB := (K2.out.setCell 0 (.int .i64 0)).setCell 1 (.slice none 0 0)
 refine bodyPost_ret (results_cell2 (b := w.heap.size + 1 + 1) (o := 0) rfl rfl hB.whole Tryz.underlying24 rfl (sc_info2 _ _)) rfl ?_
 exact ⟨none, 0, [], rfl, ⟨.inl rfl, by simp⟩, rfl, (fun z hz => by cases hz), below_setCells (below_setCells KB.out (by omega) 0 [_]) (by omega) 1 [_]⟩
end Go.Proofs.YtaciegkblklokaaGreat.typing
