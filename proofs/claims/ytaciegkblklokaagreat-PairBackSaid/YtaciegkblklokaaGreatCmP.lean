/- Contracts and lemmas that the claims of this seat share: TypingOn, TypingOnAny, PairInverse, PairInvert. Each says its own conditions. -/
import Derived.Test.YtaciegkblklokaaGreatCmO
import Derived.Test.YtaciegkblklokaaGreatCmF
import Derived.Test.YtaciegkblklokaaGreatCmM
set_option linter.unusedVariables false
namespace Go.Proofs.YtaciegkblklokaaGreat.typing
open Go.RowKit Go.Proofs.YtaciegkblklokaaGreat.schema
open Go.Proofs.YtaciegkblklokaaGreat.field (Gives newB gives_from)
open Go.Proofs.YtaciegkblklokaaGreat.step (Lists boxP)
set_option maxRecDepth 20000 in
set_option maxHeartbeats 3200000 in
theorem on_err (v : Int) (a : Option Addr) (cc : Nat) (F : List Fm) (c : Ch) (hc : c = begin_ (forms F) c.s) (ta : Option Addr) (tc : Nat) (la : Option Addr) (lc : Nat) (w : World) (h : FmL w a F) (hF : Small w F) (hl : Lists w c.s ta la) (hL : c.s.l.length ≤ 40) (hf : Fit v (forms F) c.s) (h0 : err c ≠ 0) :
  Calls Tryz.prog 19 #[zS v a F.length cc, zP c.s ta tc la lc] w (OnAs (0, [], err c) w) := by
 have hbw : Below w.heap.size w ((((w.alloc (.cells (zS v a F.length cc) 24))).alloc (.cells (zP c.s ta tc la lc) 32)).alloc (.cells #[.int .i64 0, .slice none 0 0] 24)) := by
  have h1 := newB w (.cells (zS v a F.length cc) 24)
  have h2 := h1.alloc h1.size (.cells (zP c.s ta tc la lc) 32)
  exact h2.alloc h2.size _
 have HX : Hid (∀ w', Below (((((w.alloc (.cells (zS v a F.length cc) 24))).alloc (.cells (zP c.s ta tc la lc) 32)).alloc (.cells #[.int .i64 0, .slice none 0 0] 24))).heap.size ((((w.alloc (.cells (zS v a F.length cc) 24))).alloc (.cells (zP c.s ta tc la lc) 32)).alloc (.cells #[.int .i64 0, .slice none 0 0] 24)) w' → Block w' w.heap.size 24 (zS v a F.length cc) ∧ Block w' (w.heap.size + 1) 32 (zP c.s ta tc la lc) ∧ Block w' (w.heap.size + 1 + 1) 24 [.int .i64 0, .slice none 0 0] ∧ Below w.heap.size w w') := hid (fun w' hb => by
  refine ⟨(((Block.new w _ _).alloc _).alloc _).later hb, Block.later (w := ((((w.alloc (.cells (zS v a F.length cc) 24))).alloc (.cells (zP c.s ta tc la lc) 32)).alloc (.cells #[.int .i64 0, .slice none 0 0] 24))) ?_ hb, Block.later (w := ((((w.alloc (.cells (zS v a F.length cc) 24))).alloc (.cells (zP c.s ta tc la lc) 32)).alloc (.cells #[.int .i64 0, .slice none 0 0] 24))) ?_ hb, hbw.trans (hb.mono (by simp; omega))⟩
  ·have := (Block.new ((w.alloc (.cells (zS v a F.length cc) 24))) 32 (zP c.s ta tc la lc)).alloc (.cells #[.int .i64 0, .slice none 0 0] 24)
   simpa using this
  ·have := Block.new (((w.alloc (.cells (zS v a F.length cc) 24))).alloc (.cells (zP c.s ta tc la lc) 32)) 24 [.int .i64 0, .slice none 0 0]
   simpa using this)
 have hmx : F.length ≤ maxLen := by have := hF.1; unfold maxLen; omega
 have cR := right_any v a cc F ((((w.alloc (.cells (zS v a F.length cc) 24))).alloc (.cells (zP c.s ta tc la lc) 32)).alloc (.cells #[.int .i64 0, .slice none 0 0] 24)) (h.below hbw) hmx
 unfold Gives at cR
 have n1 : w.heap.size ≠ w.heap.size + 1 + 1 := by omega
 have n2 : w.heap.size + 1 ≠ w.heap.size + 1 + 1 := by omega
 have cF := fun (w' : World) (hb : Below (((((w.alloc (.cells (zS v a F.length cc) 24))).alloc (.cells (zP c.s ta tc la lc) 32)).alloc (.cells #[.int .i64 0, .slice none 0 0] 24))).heap.size ((((w.alloc (.cells (zS v a F.length cc) 24))).alloc (.cells (zP c.s ta tc la lc) 32)).alloc (.cells #[.int .i64 0, .slice none 0 0] 24)) w') => forward_any c.s ta tc la lc w' ((hl.below hbw).below hb)
 unfold Gives at cF
 have hf' := (fit_iff _ _ _).1 hf
 rw [decide_eq_true hf'.1] at cR
 rw [decide_eq_true hf'.2] at cF
 have hcl : c.L.length ≤ 40 := by have := begin_len hF c.s; rwa [← hc] at this
 obtain ⟨hb4, hb6⟩ := fit_bd hf hc
 have cB := fun (w' : World) (hb : Below w.heap.size w w') => begin_any v a cc F c hc ta tc la lc w' (h.below hb) (hF.below hb)
 have cK := fun (fa : Option Addr) (fc : Nat) (w' : World) (hfa : field.Fds w' fa c.L) => check_any c ta tc la lc fa fc w' hfa hcl hb4
 unfold Gives at cK
 have HIS : Hid ((Tryz.prog.info? 32).map (·.size) = some ((zP c.s ta tc la lc) : List Value).length) := hid st_info
 have HIF : Hid (∀ (fa : Option Addr) (fc : Nat), (Tryz.prog.info? 77).map (·.size) = some ((zH c ta tc la lc fa fc) : List Value).length) := hid (fun _ _ => ch_info)
 have HIG : Hid (∀ (fa : Option Addr) (fc : Nat), (Tryz.prog.info? 77).map (·.size) = some ((zH c ta tc la lc fa fc) : Array Value).size) := hid (fun _ _ => ch_info)
 have HON : Hid (∀ (fa : Option Addr) (fc : Nat), ((zH c ta tc la lc fa fc) : Array Value).all (·.oneCell') = true) := hid (fun fa fc => all_oneCell_toArray (by repeat (first | exact one_nil | refine one_cons rfl ?_)))
 have HTH : Hid (∀ (fa : Option Addr) (fc : Nat) (W : World), (W.alloc (.cells zY 77)).there W.heap.size 0 ((zH c ta tc la lc fa fc) : Array Value).size) := hid (fun fa fc W => (Block.new W 77 zY).there 0 25 (by simp))
 obtain ⟨E, hE⟩ : ∃ E, Hid (err c = E) := ⟨_, rfl⟩
 rw [hE.out] at h0 cK ⊢
 have dE : (((E : Nat) : Int) != 0) = true := by simpa using h0
 unfold OnAs
 clear hb4 hb6 hcl h hF hl hL hmx hbw hc hf hf' h0
 go_enter Tryz.func19, Tryz.ntmps19
 go_wp2_with (first
  | (go_at_call 35; ((with_reducible refine cR.mono ?_); rintro e w1 ⟨rfl, hb1⟩; obtain ⟨k0, k1, k2, kb⟩ := HX.out _ hb1; have z0 := k0.cell 0; have z1 := k0.cell 1; have y0 := k1.cell 0; have y1 := k1.cell 1; have y2 := k1.cell 2; have y3 := k1.cell 3; have y4 := k1.cell 4; have y5 := k1.cell 5; have y6 := k1.cell 6; have y7 := k1.cell 7; have y8 := k1.cell 8; have y9 := k1.cell 9; have y10 := k1.cell 10; have y11 := k1.cell 11; have y12 := k1.cell 12; have y13 := k1.cell 13; have y14 := k1.cell 14; have y15 := k1.cell 15; have x0 := k2.cell 0; have x1 := k2.cell 1; have f0 := k2.frozen 0; have f1 := k2.frozen 1; have K2 := hid k2; have KB := hid kb; clear k0 k1 k2 kb))
  | (go_at_call 36; ((with_reducible refine (cF _ hb1).mono ?_); rintro e w2 ⟨rfl, hb2⟩; have hb1 := hb1.trans (hb2.mono hb1.size); obtain ⟨k0, k1, k2, kb⟩ := HX.out _ hb1; have z0 := k0.cell 0; have z1 := k0.cell 1; have y0 := k1.cell 0; have y1 := k1.cell 1; have y2 := k1.cell 2; have y3 := k1.cell 3; have y4 := k1.cell 4; have y5 := k1.cell 5; have y6 := k1.cell 6; have y7 := k1.cell 7; have y8 := k1.cell 8; have y9 := k1.cell 9; have y10 := k1.cell 10; have y11 := k1.cell 11; have y12 := k1.cell 12; have y13 := k1.cell 13; have y14 := k1.cell 14; have y15 := k1.cell 15; have x0 := k2.cell 0; have x1 := k2.cell 1; have f0 := k2.frozen 0; have f1 := k2.frozen 1; have K2 := hid k2; have KB := hid kb; clear k0 k1 k2 kb))
  | (go_at_call 37; ((with_reducible refine (cB _ KB.out).mono ?_); rintro e w3 ⟨fa, fc, rfl, hfa3, hb3⟩))
  | (with_reducible refine wpList_store_named rfl 77 (.tmp 6) (.tmp 20) rfl w3.heap.size 0 (zH c ta tc la lc fa fc) rfl rfl (HTH.out _ _ _) (HIG.out _ _) (HON.out _ _) ?_))
 intro w4 hw4
 have k6 : Block w4 w3.heap.size 77 (zH c ta tc la lc fa fc) := by
  have := (Block.new w3 77 zY).setCells (vs := (zH c ta tc la lc fa fc)) (o := 0)
  rw [put_all _ _ (by simp)] at this
  rw [← hw4.out]
  exact this
 have hb34 : Below w3.heap.size w3 w4 := by rw [← hw4.out]; exact below_setCells (newB w3 _) (Nat.le_refl _) _ _
 have hb4' := hb1.trans ((hb3.trans (hb34.mono hb3.size)).mono hb1.size)
 have hfa4 := hfa3.below hb34
 have HB4 := hid hb4'
 have HRG6 : Hid (∀ w', Below w4.heap.size w4 w' → w'.rangeAt w3.heap.size 0 (zH c ta tc la lc fa fc)) := hid (fun w' hb => (k6.later hb).whole)
 have HR4 := hid (HRG6.out w4 (Below.refl _ _))
 have HFA := hid hfa4
 have cK4 := cK fa fc w4 hfa4
 clear hb1 hb3 hb34 hb4' hfa3 hfa4 k6 hw4 z0 z1 y0 y1 y2 y3 y4 y5 y6 y7 y8 y9 y10 y11 y12 y13 y14 y15 x0 x1 f0 f1 K2 KB cK cB cF cR
 go_wp2_with (first
  | (with_reducible refine wpList_load_mid rfl 77 (.tmp 6) rfl w3.heap.size 0 rfl (zH c ta tc la lc fa fc) _ HR4.out Tryz.underlying77 rfl (HIF.out _ _) ?_)
  | (go_at_call 38; ((with_reducible refine cK4.mono ?_); rintro e w5 ⟨rfl, hbK⟩; have hb5 := HB4.out.trans (hbK.mono HB4.out.size); obtain ⟨k0, k1, k2, kb⟩ := HX.out _ hb5; have z0 := k0.cell 0; have z1 := k0.cell 1; have x0 := k2.cell 0; have x1 := k2.cell 1; have f0 := k2.frozen 0; have f1 := k2.frozen 1; have K2 := hid k2; have KB := hid kb; have HR5 := hid (HRG6.out _ hbK); have HB5 := hid hb5; have HFA5 := hid (HFA.out.below hbK); have HLT := hid k2.lt; clear k0 k1 k2 kb hb5 hbK)))
 have hB := (K2.out.setCell 0 (.int .i64 0)).setCell 1 (.slice none 0 0)
 refine bodyPost_ret (results_cell2 (b := w.heap.size + 1 + 1) (o := 0) rfl rfl hB.whole Tryz.underlying24 rfl (sc_info2 _ _)) rfl ?_
 exact ⟨none, 0, [], rfl, ⟨.inl rfl, by simp⟩, rfl, far_nil _, below_setCells (below_setCells KB.out (by omega) 0 [_]) (by omega) 1 [_]⟩
theorem fml_own {B n : Nat} {w : World} {x : Option Addr} {xc : Nat} {G : List Fm} (h : w.ownsRow B 58 2 (.slice x n xc) n (fmV G)) (he : ∀ p ∈ G, OwnM B w p) : FmL w x G := ⟨(own_fms h).1, fun p hp => (he p hp).ok⟩
set_option maxRecDepth 20000 in
set_option maxHeartbeats 3200000 in
theorem on_many (v : Int) (a : Option Addr) (cc : Nat) (F : List Fm) (c : Ch) (hc : c = begin_ (forms F) c.s) (ta : Option Addr) (tc : Nat) (la : Option Addr) (lc : Nat) (w : World) (h : FmL w a F) (hF : Small w F) (hl : Lists w c.s ta la) (hL : c.s.l.length ≤ 40) (hf : Fit v (forms F) c.s) (h0 : err c = 0) (h1 : ¬ Right v (applied (forms F) c)) :
  Calls Tryz.prog 19 #[zS v a F.length cc, zP c.s ta tc la lc] w (OnAs (0, [], 7) w) := by
 have hbw : Below w.heap.size w ((((w.alloc (.cells (zS v a F.length cc) 24))).alloc (.cells (zP c.s ta tc la lc) 32)).alloc (.cells #[.int .i64 0, .slice none 0 0] 24)) := by
  have h1 := newB w (.cells (zS v a F.length cc) 24)
  have h2 := h1.alloc h1.size (.cells (zP c.s ta tc la lc) 32)
  exact h2.alloc h2.size _
 have HX : Hid (∀ w', Below (((((w.alloc (.cells (zS v a F.length cc) 24))).alloc (.cells (zP c.s ta tc la lc) 32)).alloc (.cells #[.int .i64 0, .slice none 0 0] 24))).heap.size ((((w.alloc (.cells (zS v a F.length cc) 24))).alloc (.cells (zP c.s ta tc la lc) 32)).alloc (.cells #[.int .i64 0, .slice none 0 0] 24)) w' → Block w' w.heap.size 24 (zS v a F.length cc) ∧ Block w' (w.heap.size + 1) 32 (zP c.s ta tc la lc) ∧ Block w' (w.heap.size + 1 + 1) 24 [.int .i64 0, .slice none 0 0] ∧ Below w.heap.size w w') := hid (fun w' hb => by
  refine ⟨(((Block.new w _ _).alloc _).alloc _).later hb, Block.later (w := ((((w.alloc (.cells (zS v a F.length cc) 24))).alloc (.cells (zP c.s ta tc la lc) 32)).alloc (.cells #[.int .i64 0, .slice none 0 0] 24))) ?_ hb, Block.later (w := ((((w.alloc (.cells (zS v a F.length cc) 24))).alloc (.cells (zP c.s ta tc la lc) 32)).alloc (.cells #[.int .i64 0, .slice none 0 0] 24))) ?_ hb, hbw.trans (hb.mono (by simp; omega))⟩
  ·have := (Block.new ((w.alloc (.cells (zS v a F.length cc) 24))) 32 (zP c.s ta tc la lc)).alloc (.cells #[.int .i64 0, .slice none 0 0] 24)
   simpa using this
  ·have := Block.new (((w.alloc (.cells (zS v a F.length cc) 24))).alloc (.cells (zP c.s ta tc la lc) 32)) 24 [.int .i64 0, .slice none 0 0]
   simpa using this)
 have hmx : F.length ≤ maxLen := by have := hF.1; unfold maxLen; omega
 have cR := right_any v a cc F ((((w.alloc (.cells (zS v a F.length cc) 24))).alloc (.cells (zP c.s ta tc la lc) 32)).alloc (.cells #[.int .i64 0, .slice none 0 0] 24)) (h.below hbw) hmx
 unfold Gives at cR
 have n1 : w.heap.size ≠ w.heap.size + 1 + 1 := by omega
 have n2 : w.heap.size + 1 ≠ w.heap.size + 1 + 1 := by omega
 have cF := fun (w' : World) (hb : Below (((((w.alloc (.cells (zS v a F.length cc) 24))).alloc (.cells (zP c.s ta tc la lc) 32)).alloc (.cells #[.int .i64 0, .slice none 0 0] 24))).heap.size ((((w.alloc (.cells (zS v a F.length cc) 24))).alloc (.cells (zP c.s ta tc la lc) 32)).alloc (.cells #[.int .i64 0, .slice none 0 0] 24)) w') => forward_any c.s ta tc la lc w' ((hl.below hbw).below hb)
 unfold Gives at cF
 have hf' := (fit_iff _ _ _).1 hf
 rw [decide_eq_true hf'.1] at cR
 rw [decide_eq_true hf'.2] at cF
 have hcl : c.L.length ≤ 40 := by have := begin_len hF c.s; rwa [← hc] at this
 obtain ⟨hb4, hb6⟩ := fit_bd hf hc
 have cB := fun (w' : World) (hb : Below w.heap.size w w') => begin_any v a cc F c hc ta tc la lc w' (h.below hb) (hF.below hb)
 have cK := fun (fa : Option Addr) (fc : Nat) (w' : World) (hfa : field.Fds w' fa c.L) => check_any c ta tc la lc fa fc w' hfa hcl hb4
 unfold Gives at cK
 have HIS : Hid ((Tryz.prog.info? 32).map (·.size) = some ((zP c.s ta tc la lc) : List Value).length) := hid st_info
 have HIF : Hid (∀ (fa : Option Addr) (fc : Nat), (Tryz.prog.info? 77).map (·.size) = some ((zH c ta tc la lc fa fc) : List Value).length) := hid (fun _ _ => ch_info)
 have HIG : Hid (∀ (fa : Option Addr) (fc : Nat), (Tryz.prog.info? 77).map (·.size) = some ((zH c ta tc la lc fa fc) : Array Value).size) := hid (fun _ _ => ch_info)
 have HON : Hid (∀ (fa : Option Addr) (fc : Nat), ((zH c ta tc la lc fa fc) : Array Value).all (·.oneCell') = true) := hid (fun fa fc => all_oneCell_toArray (by repeat (first | exact one_nil | refine one_cons rfl ?_)))
 have HTH : Hid (∀ (fa : Option Addr) (fc : Nat) (W : World), (W.alloc (.cells zY 77)).there W.heap.size 0 ((zH c ta tc la lc fa fc) : Array Value).size) := hid (fun fa fc W => (Block.new W 77 zY).there 0 25 (by simp))
 have cA := fun (fa : Option Addr) (fc : Nat) (w' : World) (hb : Below w.heap.size w w') (hfa : field.Fds w' fa c.L) => applied_any v a cc F c hc ta tc la lc fa fc w' (h.1.below hb) (hF.below hb) hf h0 (hl.l.below hb) hL hfa hcl
 unfold ClonedAs at cA
 rw [h0] at cK
 have dE : (((0 : Nat) : Int) != 0) = false := by decide
 have HH1 := hid h1
 have HF40 := hid hF.1
 have HLN : Hid (∀ G : List Fm, forms G = applied (forms F) c → G.length ≤ maxLen) := hid (fun G hG => by
  have h2 := congrArg List.length hG
  rw [forms_length] at h2
  have h3 : (applied (forms F) c).length ≤ F.length + 1 := by
   have := forms_length F
   have hps := pos_le (forms F) c.s.fm
   unfold applied setF
   split
   ·simp only [List.length_append, List.length_take, List.length_drop, List.length_cons, List.length_nil]; omega
   ·split
    ·simp only [List.length_append, List.length_take, List.length_drop]; omega
    ·split <;> simp <;> omega
  have := hF.1
  unfold maxLen
  omega)
 unfold OnAs
 clear hb4 hb6 hcl h hF hl hL hmx hbw hc hf hf' h0 h1
 go_enter Tryz.func19, Tryz.ntmps19
 go_wp2_with (first
  | (go_at_call 35; ((with_reducible refine cR.mono ?_); rintro e w1 ⟨rfl, hb1⟩; obtain ⟨k0, k1, k2, kb⟩ := HX.out _ hb1; have z0 := k0.cell 0; have z1 := k0.cell 1; have y0 := k1.cell 0; have y1 := k1.cell 1; have y2 := k1.cell 2; have y3 := k1.cell 3; have y4 := k1.cell 4; have y5 := k1.cell 5; have y6 := k1.cell 6; have y7 := k1.cell 7; have y8 := k1.cell 8; have y9 := k1.cell 9; have y10 := k1.cell 10; have y11 := k1.cell 11; have y12 := k1.cell 12; have y13 := k1.cell 13; have y14 := k1.cell 14; have y15 := k1.cell 15; have x0 := k2.cell 0; have x1 := k2.cell 1; have f0 := k2.frozen 0; have f1 := k2.frozen 1; have K2 := hid k2; have KB := hid kb; clear k0 k1 k2 kb))
  | (go_at_call 36; ((with_reducible refine (cF _ hb1).mono ?_); rintro e w2 ⟨rfl, hb2⟩; have hb1 := hb1.trans (hb2.mono hb1.size); obtain ⟨k0, k1, k2, kb⟩ := HX.out _ hb1; have z0 := k0.cell 0; have z1 := k0.cell 1; have y0 := k1.cell 0; have y1 := k1.cell 1; have y2 := k1.cell 2; have y3 := k1.cell 3; have y4 := k1.cell 4; have y5 := k1.cell 5; have y6 := k1.cell 6; have y7 := k1.cell 7; have y8 := k1.cell 8; have y9 := k1.cell 9; have y10 := k1.cell 10; have y11 := k1.cell 11; have y12 := k1.cell 12; have y13 := k1.cell 13; have y14 := k1.cell 14; have y15 := k1.cell 15; have x0 := k2.cell 0; have x1 := k2.cell 1; have f0 := k2.frozen 0; have f1 := k2.frozen 1; have K2 := hid k2; have KB := hid kb; clear k0 k1 k2 kb))
  | (go_at_call 37; ((with_reducible refine (cB _ KB.out).mono ?_); rintro e w3 ⟨fa, fc, rfl, hfa3, hb3⟩))
  | (with_reducible refine wpList_store_named rfl 77 (.tmp 6) (.tmp 20) rfl w3.heap.size 0 (zH c ta tc la lc fa fc) rfl rfl (HTH.out _ _ _) (HIG.out _ _) (HON.out _ _) ?_))
 intro w4 hw4
 have k6 : Block w4 w3.heap.size 77 (zH c ta tc la lc fa fc) := by
  have := (Block.new w3 77 zY).setCells (vs := (zH c ta tc la lc fa fc)) (o := 0)
  rw [put_all _ _ (by simp)] at this
  rw [← hw4.out]
  exact this
 have hb34 : Below w3.heap.size w3 w4 := by rw [← hw4.out]; exact below_setCells (newB w3 _) (Nat.le_refl _) _ _
 have hb4' := hb1.trans ((hb3.trans (hb34.mono hb3.size)).mono hb1.size)
 have hfa4 := hfa3.below hb34
 have HB4 := hid hb4'
 have HRG6 : Hid (∀ w', Below w4.heap.size w4 w' → w'.rangeAt w3.heap.size 0 (zH c ta tc la lc fa fc)) := hid (fun w' hb => (k6.later hb).whole)
 have HR4 := hid (HRG6.out w4 (Below.refl _ _))
 have HFA := hid hfa4
 have cK4 := cK fa fc w4 hfa4
 clear hb1 hb3 hb34 hb4' hfa3 hfa4 k6 hw4 z0 z1 y0 y1 y2 y3 y4 y5 y6 y7 y8 y9 y10 y11 y12 y13 y14 y15 x0 x1 f0 f1 K2 KB cK cB cF cR
 go_wp2_with (first
  | (with_reducible refine wpList_load_mid rfl 77 (.tmp 6) rfl w3.heap.size 0 rfl (zH c ta tc la lc fa fc) _ HR4.out Tryz.underlying77 rfl (HIF.out _ _) ?_)
  | (go_at_call 38; ((with_reducible refine cK4.mono ?_); rintro e w5 ⟨rfl, hbK⟩; have hb5 := HB4.out.trans (hbK.mono HB4.out.size); obtain ⟨k0, k1, k2, kb⟩ := HX.out _ hb5; have z0 := k0.cell 0; have z1 := k0.cell 1; have x0 := k2.cell 0; have x1 := k2.cell 1; have f0 := k2.frozen 0; have f1 := k2.frozen 1; have K2 := hid k2; have KB := hid kb; have HR5 := hid (HRG6.out _ hbK); have HB5 := hid hb5; have HFA5 := hid (HFA.out.below hbK); have HLT := hid k2.lt; clear k0 k1 k2 kb hb5 hbK))
  | (with_reducible refine wpList_load_mid rfl 77 (.tmp 6) rfl w3.heap.size 0 rfl (zH c ta tc la lc fa fc) _ HR5.out Tryz.underlying77 rfl (HIF.out _ _) ?_)
  | (go_at_call 39; ((with_reducible refine (cA fa fc _ KB.out HFA5.out).mono ?_); rintro e w6 ⟨u, G, rfl, hou, heach, heq, hb6⟩; obtain ⟨x, xc, rfl, hxc⟩ := ownsRow_slice hou; have HL6 := hid (fml_own hou heach); have HOU := hid hou; have HEA := hid heach; have HEQ := hid heq; have HB6 := hid hb6; clear hou heach heq hb6))
  | (go_at_call 35; (have cR2 := right_any v x xc G (w6.alloc (.cells (zS v x G.length xc) 24)) (HL6.out.below (newB w6 _)) (HLN.out G HEQ.out)); unfold Gives at cR2; rw [HEQ.out, decide_eq_false HH1.out] at cR2; ((with_reducible refine cR2.mono ?_); rintro e w7 ⟨rfl, hb7⟩; have hb67 := (newB w6 (.cells (zS v x G.length xc) 24)).trans (hb7.mono (newB w6 (.cells (zS v x G.length xc) 24)).size); have hb57 := HB6.out.trans (hb67.mono HB6.out.size); have hb := HB5.out.trans (hb57.mono HB5.out.size); obtain ⟨k0, k1, k2, kb⟩ := HX.out _ hb; have x0 := k2.cell 0; have x1 := k2.cell 1; have f0 := k2.frozen 0; have f1 := k2.frozen 1; have K2 := hid k2; have KB := hid kb; have k8 := (Block.new w6 24 (zS v x G.length xc)).later hb7; have v0 := k8.cell 0; have v1 := k8.cell 1; have HOU7 := hid (ownsRow_later HOU.out hb67); have HEA7 := hid (fun p hp => ownsRow_later (HEA.out p hp) hb67); clear hb67 hb57 hb hb7 k0 k1 k2 kb k8)))
 have hB := (K2.out.setCell 0 (.int .i64 0)).setCell 1 (.slice none 0 0)
 refine bodyPost_ret (results_cell2 (b := w.heap.size + 1 + 1) (o := 0) rfl rfl hB.whole Tryz.underlying24 rfl (sc_info2 _ _)) rfl ?_
 exact ⟨none, 0, [], rfl, ⟨.inl rfl, by simp⟩, rfl, far_nil _, below_setCells (below_setCells KB.out (by omega) 0 [_]) (by omega) 1 [_]⟩
set_option maxRecDepth 20000 in
set_option maxHeartbeats 3200000 in
theorem on_yes (v : Int) (a : Option Addr) (cc : Nat) (F : List Fm) (c : Ch) (hc : c = begin_ (forms F) c.s) (ta : Option Addr) (tc : Nat) (la : Option Addr) (lc : Nat) (w : World) (h : FmL w a F) (hF : Small w F) (hl : Lists w c.s ta la) (hL : c.s.l.length ≤ 40) (hf : Fit v (forms F) c.s) (h0 : err c = 0) (h1 : Right v (applied (forms F) c)) :
  Calls Tryz.prog 19 #[zS v a F.length cc, zP c.s ta tc la lc] w (OnAs (v, applied (forms F) c, 0) w) := by
 have hbw : Below w.heap.size w ((((w.alloc (.cells (zS v a F.length cc) 24))).alloc (.cells (zP c.s ta tc la lc) 32)).alloc (.cells #[.int .i64 0, .slice none 0 0] 24)) := by
  have h1 := newB w (.cells (zS v a F.length cc) 24)
  have h2 := h1.alloc h1.size (.cells (zP c.s ta tc la lc) 32)
  exact h2.alloc h2.size _
 have HX : Hid (∀ w', Below (((((w.alloc (.cells (zS v a F.length cc) 24))).alloc (.cells (zP c.s ta tc la lc) 32)).alloc (.cells #[.int .i64 0, .slice none 0 0] 24))).heap.size ((((w.alloc (.cells (zS v a F.length cc) 24))).alloc (.cells (zP c.s ta tc la lc) 32)).alloc (.cells #[.int .i64 0, .slice none 0 0] 24)) w' → Block w' w.heap.size 24 (zS v a F.length cc) ∧ Block w' (w.heap.size + 1) 32 (zP c.s ta tc la lc) ∧ Block w' (w.heap.size + 1 + 1) 24 [.int .i64 0, .slice none 0 0] ∧ Below w.heap.size w w') := hid (fun w' hb => by
  refine ⟨(((Block.new w _ _).alloc _).alloc _).later hb, Block.later (w := ((((w.alloc (.cells (zS v a F.length cc) 24))).alloc (.cells (zP c.s ta tc la lc) 32)).alloc (.cells #[.int .i64 0, .slice none 0 0] 24))) ?_ hb, Block.later (w := ((((w.alloc (.cells (zS v a F.length cc) 24))).alloc (.cells (zP c.s ta tc la lc) 32)).alloc (.cells #[.int .i64 0, .slice none 0 0] 24))) ?_ hb, hbw.trans (hb.mono (by simp; omega))⟩
  ·have := (Block.new ((w.alloc (.cells (zS v a F.length cc) 24))) 32 (zP c.s ta tc la lc)).alloc (.cells #[.int .i64 0, .slice none 0 0] 24)
   simpa using this
  ·have := Block.new (((w.alloc (.cells (zS v a F.length cc) 24))).alloc (.cells (zP c.s ta tc la lc) 32)) 24 [.int .i64 0, .slice none 0 0]
   simpa using this)
 have hmx : F.length ≤ maxLen := by have := hF.1; unfold maxLen; omega
 have cR := right_any v a cc F ((((w.alloc (.cells (zS v a F.length cc) 24))).alloc (.cells (zP c.s ta tc la lc) 32)).alloc (.cells #[.int .i64 0, .slice none 0 0] 24)) (h.below hbw) hmx
 unfold Gives at cR
 have n1 : w.heap.size ≠ w.heap.size + 1 + 1 := by omega
 have n2 : w.heap.size + 1 ≠ w.heap.size + 1 + 1 := by omega
 have cF := fun (w' : World) (hb : Below (((((w.alloc (.cells (zS v a F.length cc) 24))).alloc (.cells (zP c.s ta tc la lc) 32)).alloc (.cells #[.int .i64 0, .slice none 0 0] 24))).heap.size ((((w.alloc (.cells (zS v a F.length cc) 24))).alloc (.cells (zP c.s ta tc la lc) 32)).alloc (.cells #[.int .i64 0, .slice none 0 0] 24)) w') => forward_any c.s ta tc la lc w' ((hl.below hbw).below hb)
 unfold Gives at cF
 have hf' := (fit_iff _ _ _).1 hf
 rw [decide_eq_true hf'.1] at cR
 rw [decide_eq_true hf'.2] at cF
 have hcl : c.L.length ≤ 40 := by have := begin_len hF c.s; rwa [← hc] at this
 obtain ⟨hb4, hb6⟩ := fit_bd hf hc
 have cB := fun (w' : World) (hb : Below w.heap.size w w') => begin_any v a cc F c hc ta tc la lc w' (h.below hb) (hF.below hb)
 have cK := fun (fa : Option Addr) (fc : Nat) (w' : World) (hfa : field.Fds w' fa c.L) => check_any c ta tc la lc fa fc w' hfa hcl hb4
 unfold Gives at cK
 have HIS : Hid ((Tryz.prog.info? 32).map (·.size) = some ((zP c.s ta tc la lc) : List Value).length) := hid st_info
 have HIF : Hid (∀ (fa : Option Addr) (fc : Nat), (Tryz.prog.info? 77).map (·.size) = some ((zH c ta tc la lc fa fc) : List Value).length) := hid (fun _ _ => ch_info)
 have HIG : Hid (∀ (fa : Option Addr) (fc : Nat), (Tryz.prog.info? 77).map (·.size) = some ((zH c ta tc la lc fa fc) : Array Value).size) := hid (fun _ _ => ch_info)
 have HON : Hid (∀ (fa : Option Addr) (fc : Nat), ((zH c ta tc la lc fa fc) : Array Value).all (·.oneCell') = true) := hid (fun fa fc => all_oneCell_toArray (by repeat (first | exact one_nil | refine one_cons rfl ?_)))
 have HTH : Hid (∀ (fa : Option Addr) (fc : Nat) (W : World), (W.alloc (.cells zY 77)).there W.heap.size 0 ((zH c ta tc la lc fa fc) : Array Value).size) := hid (fun fa fc W => (Block.new W 77 zY).there 0 25 (by simp))
 have cA := fun (fa : Option Addr) (fc : Nat) (w' : World) (hb : Below w.heap.size w w') (hfa : field.Fds w' fa c.L) => applied_any v a cc F c hc ta tc la lc fa fc w' (h.1.below hb) (hF.below hb) hf h0 (hl.l.below hb) hL hfa hcl
 unfold ClonedAs at cA
 rw [h0] at cK
 have dE : (((0 : Nat) : Int) != 0) = false := by decide
 have HH1 := hid h1
 have HF40 := hid hF.1
 have HLN : Hid (∀ G : List Fm, forms G = applied (forms F) c → G.length ≤ maxLen) := hid (fun G hG => by
  have h2 := congrArg List.length hG
  rw [forms_length] at h2
  have h3 : (applied (forms F) c).length ≤ F.length + 1 := by
   have := forms_length F
   have hps := pos_le (forms F) c.s.fm
   unfold applied setF
   split
   ·simp only [List.length_append, List.length_take, List.length_drop, List.length_cons, List.length_nil]; omega
   ·split
    ·simp only [List.length_append, List.length_take, List.length_drop]; omega
    ·split <;> simp <;> omega
  have := hF.1
  unfold maxLen
  omega)
 unfold OnAs
 clear hb4 hb6 hcl h hF hl hL hmx hbw hc hf hf' h0 h1
 go_enter Tryz.func19, Tryz.ntmps19
 go_wp2_with (first
  | (go_at_call 35; ((with_reducible refine cR.mono ?_); rintro e w1 ⟨rfl, hb1⟩; obtain ⟨k0, k1, k2, kb⟩ := HX.out _ hb1; have z0 := k0.cell 0; have z1 := k0.cell 1; have y0 := k1.cell 0; have y1 := k1.cell 1; have y2 := k1.cell 2; have y3 := k1.cell 3; have y4 := k1.cell 4; have y5 := k1.cell 5; have y6 := k1.cell 6; have y7 := k1.cell 7; have y8 := k1.cell 8; have y9 := k1.cell 9; have y10 := k1.cell 10; have y11 := k1.cell 11; have y12 := k1.cell 12; have y13 := k1.cell 13; have y14 := k1.cell 14; have y15 := k1.cell 15; have x0 := k2.cell 0; have x1 := k2.cell 1; have f0 := k2.frozen 0; have f1 := k2.frozen 1; have K2 := hid k2; have KB := hid kb; clear k0 k1 k2 kb))
  | (go_at_call 36; ((with_reducible refine (cF _ hb1).mono ?_); rintro e w2 ⟨rfl, hb2⟩; have hb1 := hb1.trans (hb2.mono hb1.size); obtain ⟨k0, k1, k2, kb⟩ := HX.out _ hb1; have z0 := k0.cell 0; have z1 := k0.cell 1; have y0 := k1.cell 0; have y1 := k1.cell 1; have y2 := k1.cell 2; have y3 := k1.cell 3; have y4 := k1.cell 4; have y5 := k1.cell 5; have y6 := k1.cell 6; have y7 := k1.cell 7; have y8 := k1.cell 8; have y9 := k1.cell 9; have y10 := k1.cell 10; have y11 := k1.cell 11; have y12 := k1.cell 12; have y13 := k1.cell 13; have y14 := k1.cell 14; have y15 := k1.cell 15; have x0 := k2.cell 0; have x1 := k2.cell 1; have f0 := k2.frozen 0; have f1 := k2.frozen 1; have K2 := hid k2; have KB := hid kb; clear k0 k1 k2 kb))
  | (go_at_call 37; ((with_reducible refine (cB _ KB.out).mono ?_); rintro e w3 ⟨fa, fc, rfl, hfa3, hb3⟩))
  | (with_reducible refine wpList_store_named rfl 77 (.tmp 6) (.tmp 20) rfl w3.heap.size 0 (zH c ta tc la lc fa fc) rfl rfl (HTH.out _ _ _) (HIG.out _ _) (HON.out _ _) ?_))
 intro w4 hw4
 have k6 : Block w4 w3.heap.size 77 (zH c ta tc la lc fa fc) := by
  have := (Block.new w3 77 zY).setCells (vs := (zH c ta tc la lc fa fc)) (o := 0)
  rw [put_all _ _ (by simp)] at this
  rw [← hw4.out]
  exact this
 have hb34 : Below w3.heap.size w3 w4 := by rw [← hw4.out]; exact below_setCells (newB w3 _) (Nat.le_refl _) _ _
 have hb4' := hb1.trans ((hb3.trans (hb34.mono hb3.size)).mono hb1.size)
 have hfa4 := hfa3.below hb34
 have HB4 := hid hb4'
 have HRG6 : Hid (∀ w', Below w4.heap.size w4 w' → w'.rangeAt w3.heap.size 0 (zH c ta tc la lc fa fc)) := hid (fun w' hb => (k6.later hb).whole)
 have HR4 := hid (HRG6.out w4 (Below.refl _ _))
 have HFA := hid hfa4
 have cK4 := cK fa fc w4 hfa4
 clear hb1 hb3 hb34 hb4' hfa3 hfa4 k6 hw4 z0 z1 y0 y1 y2 y3 y4 y5 y6 y7 y8 y9 y10 y11 y12 y13 y14 y15 x0 x1 f0 f1 K2 KB cK cB cF cR
 go_wp2_with (first
  | (with_reducible refine wpList_load_mid rfl 77 (.tmp 6) rfl w3.heap.size 0 rfl (zH c ta tc la lc fa fc) _ HR4.out Tryz.underlying77 rfl (HIF.out _ _) ?_)
  | (go_at_call 38; ((with_reducible refine cK4.mono ?_); rintro e w5 ⟨rfl, hbK⟩; have hb5 := HB4.out.trans (hbK.mono HB4.out.size); obtain ⟨k0, k1, k2, kb⟩ := HX.out _ hb5; have z0 := k0.cell 0; have z1 := k0.cell 1; have x0 := k2.cell 0; have x1 := k2.cell 1; have f0 := k2.frozen 0; have f1 := k2.frozen 1; have K2 := hid k2; have KB := hid kb; have HR5 := hid (HRG6.out _ hbK); have HB5 := hid hb5; have HFA5 := hid (HFA.out.below hbK); have HLT := hid k2.lt; clear k0 k1 k2 kb hb5 hbK))
  | (with_reducible refine wpList_load_mid rfl 77 (.tmp 6) rfl w3.heap.size 0 rfl (zH c ta tc la lc fa fc) _ HR5.out Tryz.underlying77 rfl (HIF.out _ _) ?_)
  | (go_at_call 39; ((with_reducible refine (cA fa fc _ KB.out HFA5.out).mono ?_); rintro e w6 ⟨u, G, rfl, hou, heach, heq, hb6⟩; obtain ⟨x, xc, rfl, hxc⟩ := ownsRow_slice hou; have HL6 := hid (fml_own hou heach); have HOU := hid hou; have HEA := hid heach; have HEQ := hid heq; have HB6 := hid hb6; clear hou heach heq hb6))
  | (go_at_call 35; (have cR2 := right_any v x xc G (w6.alloc (.cells (zS v x G.length xc) 24)) (HL6.out.below (newB w6 _)) (HLN.out G HEQ.out)); unfold Gives at cR2; rw [HEQ.out, decide_eq_true HH1.out] at cR2; ((with_reducible refine cR2.mono ?_); rintro e w7 ⟨rfl, hb7⟩; have hb67 := (newB w6 (.cells (zS v x G.length xc) 24)).trans (hb7.mono (newB w6 (.cells (zS v x G.length xc) 24)).size); have hb57 := HB6.out.trans (hb67.mono HB6.out.size); have hb := HB5.out.trans (hb57.mono HB5.out.size); obtain ⟨k0, k1, k2, kb⟩ := HX.out _ hb; have x0 := k2.cell 0; have x1 := k2.cell 1; have f0 := k2.frozen 0; have f1 := k2.frozen 1; have K2 := hid k2; have KB := hid kb; have k8 := (Block.new w6 24 (zS v x G.length xc)).later hb7; have v0 := k8.cell 0; have v1 := k8.cell 1; have HOU7 := hid (ownsRow_later HOU.out hb67); have HEA7 := hid (fun p hp => ownsRow_later (HEA.out p hp) hb67); clear hb67 hb57 hb hb7 k0 k1 k2 kb k8)))
 have hB := (K2.out.setCell 0 (.int .i64 v)).setCell 1 (.slice x G.length xc)
 refine bodyPost_ret (results_cell2 (b := w.heap.size + 1 + 1) (o := 0) rfl rfl hB.whole Tryz.underlying24 rfl (sc_info2 _ _)) rfl ?_
 exact ⟨x, xc, G, rfl, fml_own (own_past' (own_past' HOU7.out HLT.out) HLT.out) (fun p hp => own_past' (own_past' (HEA7.out p hp) HLT.out) HLT.out), HEQ.out, ⟨fun y hy => by have := far_row HOU7.out y hy; have := HLT.out; omega, fun p hp y hy => by have := far_row (HEA7.out p hp) y hy; have := HLT.out; omega⟩, below_setCells (below_setCells KB.out (by omega) 0 [_]) (by omega) 1 [_]⟩
end Go.Proofs.YtaciegkblklokaaGreat.typing
namespace Go.Proofs.YtaciegkblklokaaGreat.typing
open Go.RowKit Go.Proofs.YtaciegkblklokaaGreat.schema
open Go.Proofs.YtaciegkblklokaaGreat.field (Gives newB gives_from)
open Go.Proofs.YtaciegkblklokaaGreat.step (Lists)
theorem on_any (v : Int) (a : Option Addr) (cc : Nat) (F : List Fm) (s : step.Sp) (ta : Option Addr) (tc : Nat) (la : Option Addr) (lc : Nat) (w : World) (h : FmL w a F) (hF : Small w F) (hl : Lists w s ta la) (hL : s.l.length ≤ 40) :
  Calls Tryz.prog 19 #[zS v a F.length cc, zP s ta tc la lc] w (OnAs (on v (forms F) s) w) := by
 obtain ⟨c, hc⟩ : ∃ c, c = begin_ (forms F) s := ⟨_, rfl⟩
 have hs : s = c.s := by rw [hc, begin_s]
 subst hs
 unfold on
 rw [← hc]
 by_cases hf : Fit v (forms F) c.s
 ·rw [if_pos hf]
  by_cases h0 : err c = 0
  ·rw [if_pos h0]
   by_cases h1 : Right v (applied (forms F) c)
   ·rw [if_pos h1]
    exact on_yes v a cc F c hc ta tc la lc w h hF hl hL hf h0 h1
   ·rw [if_neg h1]
    exact on_many v a cc F c hc ta tc la lc w h hF hl hL hf h0 h1
  ·rw [if_neg h0]
   exact on_err v a cc F c hc ta tc la lc w h hF hl hL hf h0
 ·rw [if_neg hf]
  exact on_no v a cc F c hc ta tc la lc w h hF hl hL hf
end Go.Proofs.YtaciegkblklokaaGreat.typing
namespace Go.Proofs.YtaciegkblklokaaGreat.pair
open Go.RowKit Go.Proofs.YtaciegkblklokaaGreat.schema Go.Proofs.YtaciegkblklokaaGreat.typing
open Go.Proofs.YtaciegkblklokaaGreat.field (newB)
open Go.Proofs.YtaciegkblklokaaGreat.step (Sp St Lists OwnS intV Z16 st_fd st_int spC)
theorem begin_L (F : List schema.Form) (s : Sp) : fieldsAt F s.fm = (begin_ F s).L := by
 unfold fieldsAt begin_
 cases named F s.fm <;> rfl
theorem inv_begin {F : List schema.Form} {s : Sp} {c : Ch} (hc : c = begin_ F s) : firstAt (ids (fieldsAt F s.fm)) s.fd = c.at_ ∧ oldAt (fieldsAt F s.fm) (firstAt (ids (fieldsAt F s.fm)) s.fd) = c.old ∧ fieldsAt F s.fm = c.L := by
 have h1 := (begin_at F s).1
 have h2 := (begin_at F s).2
 rw [← hc] at h1 h2
 have h3 := begin_L F s
 rw [← hc] at h3
 rw [h3]
 exact ⟨h1.symm, by rw [h2, h1], rfl⟩
theorem inverse_any (v : Int) (a : Option Addr) (cc : Nat) (F : List Fm) (s : Sp) (ta : Option Addr) (tc : Nat) (la : Option Addr) (lc : Nat) (w : World) (h : FmL w a F) (hF : Small w F) (hl : Lists w s ta la) (ht : s.t.length ≤ 1000000) (h0 : (on v (forms F) s).2.2 = 0) :
  Calls Tryz.prog 20 #[zS v a F.length cc, zP s ta tc la lc] w (InvAs (inv (forms F) s) w) := by
 have hf := (on_ok h0).1
 obtain ⟨e1, e2, e3, e4⟩ := err_zero (on_err0 h0)
 have hop := fit_op hf
 obtain ⟨c, hc⟩ : ∃ c, c = begin_ (forms F) s := ⟨_, rfl⟩
 obtain ⟨i1, i2, i3⟩ := inv_begin hc
 have hcs : c.s = s := by rw [hc, begin_s]
 rw [← hc] at e1 e2
 have hk : s.op ≠ 9 → s.op ≠ 1 → s.op ≠ 10 → 0 ≤ c.at_ := fun h9 h1 h10 => by
  unfold found at e1
  rw [hcs] at e1
  simpa [h9, h1, h10] using e1
 have hcase : s.op = 1 ∨ s.op = 2 ∨ s.op = 3 ∨ s.op = 4 ∨ s.op = 5 ∨ s.op = 6 ∨ s.op = 7 ∨ s.op = 8 ∨ s.op = 9 ∨ s.op = 10 := by omega
 have h9 : s.op = 9 → ¬ 0 ≤ c.at_ := fun e => by
  have hkn : c.kn = false := by
   unfold twice at e2
   rw [hcs, if_pos e] at e2
   simpa using e2
  cases hn : named (forms F) s.fm with
  | none =>
   have : c = ⟨s, 0, [], false, -1, step.fd0⟩ := by rw [hc]; unfold begin_; rw [hn]
   rw [this]
   show ¬ (0 : Int) ≤ -1
   omega
  | some p =>
   have : c = ⟨s, s.fm, p.2, true, firstAt (ids p.2) s.fd, oldAt p.2 (firstAt (ids p.2) s.fd)⟩ := by rw [hc]; unfold begin_; rw [hn]
   rw [this] at hkn
   cases hkn
 by_cases ha : 0 ≤ c.at_
 ·have h9' : s.op ≠ 9 := fun e => h9 e ha
  refine inv_yes v a cc F s (inv (forms F) s) c hc ta tc la lc w h hF hl ht ha (by omega) (fun e => ?_) (fun e => ?_) (fun e => ?_) (fun e => ?_) (fun e => ?_) (fun e => ?_) (fun e => ?_) (fun e => ?_) (fun e => ?_) <;> (unfold inv; rw [i2, i1, i3]; rw [e]; rfl)
 ·refine inv_no v a cc F s (inv (forms F) s) c hc ta tc la lc w h hF hl ht ha (Decidable.byContradiction fun hh => ha (hk (fun e => hh (.inr (.inl e))) (fun e => hh (.inl e)) (fun e => hh (.inr (.inr e))))) (fun e => ?_) (fun e => ?_) (fun e => ?_) <;> (unfold inv; rw [i2, i1, i3]; rw [e]; rfl)
end Go.Proofs.YtaciegkblklokaaGreat.pair
namespace Go.Proofs.YtaciegkblklokaaGreat.pair
open Go.RowKit Go.Proofs.YtaciegkblklokaaGreat.schema Go.Proofs.YtaciegkblklokaaGreat.typing
open Go.Proofs.YtaciegkblklokaaGreat.field (newB)
open Go.Proofs.YtaciegkblklokaaGreat.step (Sp St Lists OwnS intV Z16 st_fd st_int spC)
def InvertAs (r : Sp × Nat) (w : World) (e : Ending) (w' : World) : Prop := ∃ xa xc ya yc, e = .returned (.tuple #[zP r.1 xa xc ya yc, .int .i64 (r.2 : Nat)]) ∧ OwnS w.heap.size w' ⟨r.1, xa, xc, ya, yc⟩ ∧ Below w.heap.size w w'
set_option maxRecDepth 20000 in
set_option maxHeartbeats 3200000 in
theorem invert_any (v : Int) (a : Option Addr) (cc : Nat) (F : List Fm) (s : Sp) (ta : Option Addr) (tc : Nat) (la : Option Addr) (lc : Nat) (w : World) (h : FmL w a F) (hF : Small w F) (hl : Lists w s ta la) (ht : s.t.length ≤ 1000000) (hL : s.l.length ≤ 40) :
  Calls Tryz.prog 9 #[zS v a F.length cc, zP s ta tc la lc] w (InvertAs (invert v (forms F) s) w) := by
 obtain ⟨W3, HW3, hbw, hsz3, HX⟩ := inv_boxes v a cc F s ta tc la lc w
 have cO := on_any v a cc F s ta tc la lc W3 (h.below hbw) (hF.below hbw) (hl.below hbw) hL
 have cI := fun (w' : World) (hb : Below w.heap.size w w') (h0 : (on v (forms F) s).2.2 = 0) => inverse_any v a cc F s ta tc la lc w' (h.below hb) (hF.below hb) (hl.below hb) ht h0
 unfold invert
 rw [← HW3.out] at cO
 generalize on v (forms F) s = r at *
 generalize inv (forms F) s = q at *
 obtain ⟨v2, P, n⟩ := r
 simp only at cI ⊢
 unfold OnAs at cO
 unfold InvAs at cI
 unfold InvertAs
 have HSZ := hid hsz3
 have HIG : Hid ((Tryz.prog.info? 32).map (·.size) = some (zZ : Array Value).size) := hid info_st.out
 have HON : Hid ((zZ : Array Value).all (·.oneCell') = true) := hid (one_16 Sp.zero _ _ rfl rfl)
 clear h hF hl ht hL hbw hsz3
 by_cases h0 : n = 0
 ·rw [if_pos h0]
  subst h0
  replace cI := fun w' hb => cI w' hb rfl
  go_enter Tryz.func9, Tryz.ntmps9
  go_wp2_with (first
   | (go_at_call 19; ((with_reducible refine cO.mono ?_); rintro e w5 ⟨x, xc, G, rfl, hG, hfo, hfar, hb5⟩; rw [HW3.out] at hb5; have hN := newB w5 (.cells (zS v2 x G.length xc) 24); have hb6 := hb5.trans (hN.mono hb5.size); obtain ⟨k0, k1, k2, kb⟩ := HX.out _ hb6; have z0 := k0.cell 0; have z1 := k0.cell 1; have y0 := k1.cell 0; have y1 := k1.cell 1; have y2 := k1.cell 2; have y3 := k1.cell 3; have y4 := k1.cell 4; have y5 := k1.cell 5; have y6 := k1.cell 6; have y7 := k1.cell 7; have y8 := k1.cell 8; have y9 := k1.cell 9; have y10 := k1.cell 10; have y11 := k1.cell 11; have y12 := k1.cell 12; have y13 := k1.cell 13; have y14 := k1.cell 14; have y15 := k1.cell 15; have cJ := cI _ kb; have K2 := hid k2; have KB := hid kb; have HB6 := hid hb6; clear k0 k1 k2 kb hN hb5 hb6 hG hfo hfar cI cO))
   | (go_at_call 20; ((with_reducible refine cJ.mono ?_); rintro e w7 ⟨xa, xc2, ya, yc, rfl, ho7, hb7⟩; have K7 := hid (K2.out.later hb7); have HB7 : Hid (Below w.heap.size w w7) := hid (KB.out.trans (hb7.mono KB.out.size)); have HO7 : Hid (OwnS w.heap.size w7 ⟨q, xa, xc2, ya, yc⟩) := hid (ho7.low KB.out.size); have HTH : Hid (w7.there (w.heap.size + 1 + 1) 0 ((zP q xa xc2 ya yc) : Array Value).size) := hid (K7.out.there 0 16 (by simp)); have HIH : Hid ((Tryz.prog.info? 32).map (·.size) = some ((zP q xa xc2 ya yc) : Array Value).size) := hid info_st.out; have HOH : Hid (((zP q xa xc2 ya yc) : Array Value).all (·.oneCell') = true) := hid (one_16 q _ _ rfl rfl); clear ho7 hb7))
   | (with_reducible refine wpList_store_named rfl 32 (.tmp 4) (.tmp 20) rfl (w.heap.size + 1 + 1) 0 (zP q xa xc2 ya yc) rfl rfl HTH.out HIH.out HOH.out ?_))
  intro w8 hw8
  have hB : Block w8 (w.heap.size + 1 + 1) 32 (zP q xa xc2 ya yc) := by
   have := K7.out.setCells (vs := (zP q xa xc2 ya yc)) (o := 0)
   rw [put_all _ _ (by rfl)] at this
   rw [← hw8.out]
   exact this
  have hO8 : OwnS w.heap.size w8 ⟨q, xa, xc2, ya, yc⟩ := by rw [← hw8.out]; exact HO7.out.stay (stay_cells _ K7.out st_int _ _) (stay_cells _ K7.out st_fd _ _)
  have hb8 : Below w.heap.size w w8 := by rw [← hw8.out]; exact below_setCells HB7.out (by omega) _ _
  go_wp2
  refine bodyPost_ret (results_cell2 (b := w.heap.size + 1 + 1) (o := 0) rfl rfl hB.whole Tryz.underlying32 rfl info_st.out) rfl ?_
  exact ⟨_, _, _, _, rfl, hO8, hb8⟩
 ·rw [if_neg h0]
  have hne : (((n : Nat) : Int) != 0) = true := by simpa using h0
  clear h0 cI
  go_enter Tryz.func9, Tryz.ntmps9
  go_wp2_with (first
   | (go_at_call 19; ((with_reducible refine cO.mono ?_); rintro e w5 ⟨x, xc, G, rfl, hG, hfo, hfar, hb5⟩; rw [HW3.out] at hb5; have hN := newB w5 (.cells (zS v2 x G.length xc) 24); have hb6 := hb5.trans (hN.mono hb5.size); obtain ⟨k0, k1, k2, kb⟩ := HX.out _ hb6; have K2 := hid k2; have KB := hid kb; have HTH : Hid ((w5.alloc (.cells (zS v2 x G.length xc) 24)).there (w.heap.size + 1 + 1) 0 (zZ : Array Value).size) := hid (k2.there 0 16 (by simp)); clear k0 k1 k2 kb hN hb5 hb6 hG hfo hfar cO))
   | (with_reducible refine wpList_store_named rfl 32 (.tmp 4) (.tmp 16) rfl (w.heap.size + 1 + 1) 0 zZ rfl rfl HTH.out HIG.out HON.out ?_))
  intro w8 hw8
  have hB : Block w8 (w.heap.size + 1 + 1) 32 Z16 := by
   have := K2.out.setCells (vs := Z16) (o := 0)
   rw [put_all _ _ (by rfl)] at this
   rw [← hw8.out]
   exact this
  have hb8 : Below w.heap.size w w8 := by rw [← hw8.out]; exact below_setCells KB.out (by omega) _ _
  go_wp2
  refine bodyPost_ret (results_cell2 (b := w.heap.size + 1 + 1) (o := 0) rfl rfl hB.whole Tryz.underlying32 rfl info_st.out) rfl ?_
  exact ⟨none, 0, none, 0, rfl, OwnS.nil _ _ _ rfl rfl, hb8⟩
end Go.Proofs.YtaciegkblklokaaGreat.pair
