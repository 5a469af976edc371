/- Contracts and lemmas that the claims of this seat share: TypingRefOn, TypingRefOnT, TypingRefOn9. Each says its own conditions. -/
import Derived.Test.YtiajpjkkopdmgaaCmS
import Derived.Test.YtiajpjkkopdmgaaCmT
import Derived.Test.YtiajpjkkopdmgaaCmU
import Derived.Test.YtiajpjkkopdmgaaCmV
import Derived.Test.YtiajpjkkopdmgaaCmW
import Derived.Test.YtiajpjkkopdmgaaCmX

namespace Go.Proofs.Ytiajpjkkopdmgaa.typing
open Go.RowKit Go.Proofs.Ytiajpjkkopdmgaa.schema
open Go.Proofs.Ytiajpjkkopdmgaa.field (Gives newB gives_from)
open Go.Proofs.Ytiajpjkkopdmgaa.step (Lists boxP)
set_option linter.unusedVariables false
set_option linter.unusedSimpArgs false

set_option maxRecDepth 20000 in
set_option maxHeartbeats 3200000 in
theorem refOn_no (v : Int) (a : Option Addr) (cap : Nat) (F : List Fm) (s : step.Sp) (ta : Option Addr) (tc : Nat) (la : Option Addr) (lc : Nat) (w : World) (h : FmL w a F) (hF : Small w F) (hl : Lists w s ta la) (hL : s.l.length ≤ 40) (hf : ¬ Fit v (forms F) s) :
    Calls Try.prog 9 #[.agg #[.int .i64 v, .slice a F.length cap], .agg #[.int .i64 s.op, .int .i64 s.fm, .int .i64 s.fd, .int .i64 s.pl, .int .i64 s.tt, .int .i64 s.a, .int .i64 s.b, .int .i64 s.f.id, .int .i64 s.f.kind, .int .i64 s.f.lo, .int .i64 s.f.hi, .int .i64 s.f.most, .int .i64 s.v.n, .string s.v.s, .slice ta s.t.length tc, .slice la s.l.length lc]] w (OnR (0, [], 2) w) := by
  obtain ⟨W3, HW3, hbw, hsz3, HX⟩ := on_boxes v a cap F s ta tc la lc w
  have hmx : F.length ≤ maxLen := by have := hF.1; unfold maxLen; omega
  have cR := refRight_any v a cap F W3 (h.below hbw) hmx
  unfold Gives at cR
  rw [← HW3.out] at cR
  have n1 : w.heap.size ≠ w.heap.size + 1 + 1 := by omega
  have n2 : w.heap.size + 1 ≠ w.heap.size + 1 + 1 := by omega
  have cS := fun (w' : World) (hb : Below W3.heap.size W3 w') => step.refRight_any s ta tc la lc w' ((hl.below hbw).below hb)
  unfold Gives at cS
  have cN := fun (w' : World) (hb : Below w.heap.size w w') => refNames_any v a cap F s ta tc la lc w' (h.below hb) hmx
  unfold Gives at cN
  have HSZ : Hid (W3.heap.size = w.heap.size + 3) := hid hsz3
  clear hsz3
  unfold OnR
  by_cases hr : Right v (forms F)
  · rw [decide_eq_true hr] at cR
    by_cases hs : s.Right
    · rw [decide_eq_true hs] at cS
      have d10 : decide (s.op > 10) = true := decide_eq_true (Int.not_le.1 (fun h10 => hf ⟨hr, hs, h10⟩))
      clear h hF hl hL hmx hbw hf hr hs cN
      go_enter Try.func9, Try.ntmps9
      go_wp2_with (first
        | (go_at_call 14; ((with_reducible refine cR.mono ?_); rintro e w1 ⟨rfl, hb1⟩; rw [HW3.out] at hb1; obtain ⟨k0, k1, k2, kb⟩ := HX.out _ hb1; have z0 := k0.cell 0; have z1 := k0.cell 1; have y0 := k1.cell 0; have y1 := k1.cell 1; have y2 := k1.cell 2; have y3 := k1.cell 3; have y4 := k1.cell 4; have y5 := k1.cell 5; have y6 := k1.cell 6; have y7 := k1.cell 7; have y8 := k1.cell 8; have y9 := k1.cell 9; have y10 := k1.cell 10; have y11 := k1.cell 11; have y12 := k1.cell 12; have y13 := k1.cell 13; have y14 := k1.cell 14; have y15 := k1.cell 15; have x0 := k2.cell 0; have x1 := k2.cell 1; have f0 := k2.frozen 0; have f1 := k2.frozen 1; have K2 := hid k2; have KB := hid kb; clear k0 k1 k2 kb))
        | (go_at_call 23; ((with_reducible refine (cS _ hb1).mono ?_); rintro e w2 ⟨rfl, hb2⟩; have hb1 := hb1.trans (hb2.mono hb1.size); obtain ⟨k0, k1, k2, kb⟩ := HX.out _ hb1; have z0 := k0.cell 0; have z1 := k0.cell 1; have y0 := k1.cell 0; have y1 := k1.cell 1; have y2 := k1.cell 2; have y3 := k1.cell 3; have y4 := k1.cell 4; have y5 := k1.cell 5; have y6 := k1.cell 6; have y7 := k1.cell 7; have y8 := k1.cell 8; have y9 := k1.cell 9; have y10 := k1.cell 10; have y11 := k1.cell 11; have y12 := k1.cell 12; have y13 := k1.cell 13; have y14 := k1.cell 14; have y15 := k1.cell 15; have x0 := k2.cell 0; have x1 := k2.cell 1; have f0 := k2.frozen 0; have f1 := k2.frozen 1; have K2 := hid k2; have KB := hid kb; clear k0 k1 k2 kb)))
      have hB := (K2.out.setCell 0 (.int .i64 0)).setCell 1 (.slice none 0 0)
      refine bodyPost_ret (results_cell2 (b := w.heap.size + 1 + 1) (o := 0) rfl rfl hB.whole Try.underlying24 rfl (sc_info2 _ _)) rfl ?_
      exact ⟨none, 0, [], rfl, ⟨.inl rfl, by simp⟩, rfl, (fun z hz => by cases hz), below_setCells (below_setCells KB.out (by omega) 0 [_]) (by omega) 1 [_]⟩
    · rw [decide_eq_false hs] at cS
      clear h hF hl hL hmx hbw hf hr hs cN
      go_enter Try.func9, Try.ntmps9
      go_wp2_with (first
        | (go_at_call 14; ((with_reducible refine cR.mono ?_); rintro e w1 ⟨rfl, hb1⟩; rw [HW3.out] at hb1; obtain ⟨k0, k1, k2, kb⟩ := HX.out _ hb1; have z0 := k0.cell 0; have z1 := k0.cell 1; have y0 := k1.cell 0; have y1 := k1.cell 1; have y2 := k1.cell 2; have y3 := k1.cell 3; have y4 := k1.cell 4; have y5 := k1.cell 5; have y6 := k1.cell 6; have y7 := k1.cell 7; have y8 := k1.cell 8; have y9 := k1.cell 9; have y10 := k1.cell 10; have y11 := k1.cell 11; have y12 := k1.cell 12; have y13 := k1.cell 13; have y14 := k1.cell 14; have y15 := k1.cell 15; have x0 := k2.cell 0; have x1 := k2.cell 1; have f0 := k2.frozen 0; have f1 := k2.frozen 1; have K2 := hid k2; have KB := hid kb; clear k0 k1 k2 kb))
        | (go_at_call 23; ((with_reducible refine (cS _ hb1).mono ?_); rintro e w2 ⟨rfl, hb2⟩; have hb1 := hb1.trans (hb2.mono hb1.size); obtain ⟨k0, k1, k2, kb⟩ := HX.out _ hb1; have z0 := k0.cell 0; have z1 := k0.cell 1; have y0 := k1.cell 0; have y1 := k1.cell 1; have y2 := k1.cell 2; have y3 := k1.cell 3; have y4 := k1.cell 4; have y5 := k1.cell 5; have y6 := k1.cell 6; have y7 := k1.cell 7; have y8 := k1.cell 8; have y9 := k1.cell 9; have y10 := k1.cell 10; have y11 := k1.cell 11; have y12 := k1.cell 12; have y13 := k1.cell 13; have y14 := k1.cell 14; have y15 := k1.cell 15; have x0 := k2.cell 0; have x1 := k2.cell 1; have f0 := k2.frozen 0; have f1 := k2.frozen 1; have K2 := hid k2; have KB := hid kb; clear k0 k1 k2 kb)))
      have hB := (K2.out.setCell 0 (.int .i64 0)).setCell 1 (.slice none 0 0)
      refine bodyPost_ret (results_cell2 (b := w.heap.size + 1 + 1) (o := 0) rfl rfl hB.whole Try.underlying24 rfl (sc_info2 _ _)) rfl ?_
      exact ⟨none, 0, [], rfl, ⟨.inl rfl, by simp⟩, rfl, (fun z hz => by cases hz), below_setCells (below_setCells KB.out (by omega) 0 [_]) (by omega) 1 [_]⟩
  · rw [decide_eq_false hr] at cR
    clear h hF hl hL hmx hbw hf hr cN cS
    go_enter Try.func9, Try.ntmps9
    go_wp2_with ((go_at_call 14; ((with_reducible refine cR.mono ?_); rintro e w1 ⟨rfl, hb1⟩; rw [HW3.out] at hb1; obtain ⟨k0, k1, k2, kb⟩ := HX.out _ hb1; have z0 := k0.cell 0; have z1 := k0.cell 1; have y0 := k1.cell 0; have y1 := k1.cell 1; have y2 := k1.cell 2; have y3 := k1.cell 3; have y4 := k1.cell 4; have y5 := k1.cell 5; have y6 := k1.cell 6; have y7 := k1.cell 7; have y8 := k1.cell 8; have y9 := k1.cell 9; have y10 := k1.cell 10; have y11 := k1.cell 11; have y12 := k1.cell 12; have y13 := k1.cell 13; have y14 := k1.cell 14; have y15 := k1.cell 15; have x0 := k2.cell 0; have x1 := k2.cell 1; have f0 := k2.frozen 0; have f1 := k2.frozen 1; have K2 := hid k2; have KB := hid kb; clear k0 k1 k2 kb)))
    have hB := (K2.out.setCell 0 (.int .i64 0)).setCell 1 (.slice none 0 0)
    refine bodyPost_ret (results_cell2 (b := w.heap.size + 1 + 1) (o := 0) rfl rfl hB.whole Try.underlying24 rfl (sc_info2 _ _)) rfl ?_
    exact ⟨none, 0, [], rfl, ⟨.inl rfl, by simp⟩, rfl, (fun z hz => by cases hz), below_setCells (below_setCells KB.out (by omega) 0 [_]) (by omega) 1 [_]⟩
set_option maxRecDepth 20000 in
set_option maxHeartbeats 3200000 in
theorem refOn_names (v : Int) (a : Option Addr) (cap : Nat) (F : List Fm) (s : step.Sp) (ta : Option Addr) (tc : Nat) (la : Option Addr) (lc : Nat) (w : World) (h : FmL w a F) (hF : Small w F) (hl : Lists w s ta la) (hL : s.l.length ≤ 40) (hf : Fit v (forms F) s) (h0 : names (forms F) s ≠ 0) :
    Calls Try.prog 9 #[.agg #[.int .i64 v, .slice a F.length cap], .agg #[.int .i64 s.op, .int .i64 s.fm, .int .i64 s.fd, .int .i64 s.pl, .int .i64 s.tt, .int .i64 s.a, .int .i64 s.b, .int .i64 s.f.id, .int .i64 s.f.kind, .int .i64 s.f.lo, .int .i64 s.f.hi, .int .i64 s.f.most, .int .i64 s.v.n, .string s.v.s, .slice ta s.t.length tc, .slice la s.l.length lc]] w (OnR (0, [], names (forms F) s) w) := by
  obtain ⟨W3, HW3, hbw, hsz3, HX⟩ := on_boxes v a cap F s ta tc la lc w
  have hmx : F.length ≤ maxLen := by have := hF.1; unfold maxLen; omega
  have cR := refRight_any v a cap F W3 (h.below hbw) hmx
  unfold Gives at cR
  rw [← HW3.out] at cR
  have n1 : w.heap.size ≠ w.heap.size + 1 + 1 := by omega
  have n2 : w.heap.size + 1 ≠ w.heap.size + 1 + 1 := by omega
  have cS := fun (w' : World) (hb : Below W3.heap.size W3 w') => step.refRight_any s ta tc la lc w' ((hl.below hbw).below hb)
  unfold Gives at cS
  have cN := fun (w' : World) (hb : Below w.heap.size w w') => refNames_any v a cap F s ta tc la lc w' (h.below hb) hmx
  unfold Gives at cN
  have HSZ : Hid (W3.heap.size = w.heap.size + 3) := hid hsz3
  clear hsz3
  rw [decide_eq_true hf.1] at cR
  have hf1 := hf.2.1
  have hf2 := hf.2.2
  simp only [decide_eq_true hf1] at cS
  have d10 : decide (s.op > 10) = false := decide_eq_false (by omega)
  generalize names (forms F) s = N at *
  have dN : (((N : Nat) : Int) != 0) = true := by simpa using h0
  unfold OnR
  clear h hF hl hL hmx hbw hf h0 hf1 hf2
  go_enter Try.func9, Try.ntmps9
  go_wp2_with (first
    | (go_at_call 14; ((with_reducible refine cR.mono ?_); rintro e w1 ⟨rfl, hb1⟩; rw [HW3.out] at hb1; obtain ⟨k0, k1, k2, kb⟩ := HX.out _ hb1; have z0 := k0.cell 0; have z1 := k0.cell 1; have y0 := k1.cell 0; have y1 := k1.cell 1; have y2 := k1.cell 2; have y3 := k1.cell 3; have y4 := k1.cell 4; have y5 := k1.cell 5; have y6 := k1.cell 6; have y7 := k1.cell 7; have y8 := k1.cell 8; have y9 := k1.cell 9; have y10 := k1.cell 10; have y11 := k1.cell 11; have y12 := k1.cell 12; have y13 := k1.cell 13; have y14 := k1.cell 14; have y15 := k1.cell 15; have x0 := k2.cell 0; have x1 := k2.cell 1; have f0 := k2.frozen 0; have f1 := k2.frozen 1; have K2 := hid k2; have KB := hid kb; clear k0 k1 k2 kb))
    | (go_at_call 23; ((with_reducible refine (cS _ hb1).mono ?_); rintro e w2 ⟨rfl, hb2⟩; have hb1 := hb1.trans (hb2.mono hb1.size); obtain ⟨k0, k1, k2, kb⟩ := HX.out _ hb1; have z0 := k0.cell 0; have z1 := k0.cell 1; have y0 := k1.cell 0; have y1 := k1.cell 1; have y2 := k1.cell 2; have y3 := k1.cell 3; have y4 := k1.cell 4; have y5 := k1.cell 5; have y6 := k1.cell 6; have y7 := k1.cell 7; have y8 := k1.cell 8; have y9 := k1.cell 9; have y10 := k1.cell 10; have y11 := k1.cell 11; have y12 := k1.cell 12; have y13 := k1.cell 13; have y14 := k1.cell 14; have y15 := k1.cell 15; have x0 := k2.cell 0; have x1 := k2.cell 1; have f0 := k2.frozen 0; have f1 := k2.frozen 1; have K2 := hid k2; have KB := hid kb; clear k0 k1 k2 kb))
    | (go_at_call 24; ((with_reducible refine (cN _ KB.out).mono ?_); rintro e w3 ⟨rfl, hb3⟩; have hb1 := hb1.trans (hb3.mono hb1.size); obtain ⟨k0, k1, k2, kb⟩ := HX.out _ hb1; have z0 := k0.cell 0; have z1 := k0.cell 1; have y0 := k1.cell 0; have y1 := k1.cell 1; have y2 := k1.cell 2; have y3 := k1.cell 3; have y4 := k1.cell 4; have y5 := k1.cell 5; have y6 := k1.cell 6; have y7 := k1.cell 7; have y8 := k1.cell 8; have y9 := k1.cell 9; have y10 := k1.cell 10; have y11 := k1.cell 11; have y12 := k1.cell 12; have y13 := k1.cell 13; have y14 := k1.cell 14; have y15 := k1.cell 15; have x0 := k2.cell 0; have x1 := k2.cell 1; have f0 := k2.frozen 0; have f1 := k2.frozen 1; have K2 := hid k2; have KB := hid kb; clear k0 k1 k2 kb)))
  have hB := (K2.out.setCell 0 (.int .i64 0)).setCell 1 (.slice none 0 0)
  refine bodyPost_ret (results_cell2 (b := w.heap.size + 1 + 1) (o := 0) rfl rfl hB.whole Try.underlying24 rfl (sc_info2 _ _)) rfl ?_
  exact ⟨none, 0, [], rfl, ⟨.inl rfl, by simp⟩, rfl, (fun z hz => by cases hz), below_setCells (below_setCells KB.out (by omega) 0 [_]) (by omega) 1 [_]⟩
end Go.Proofs.Ytiajpjkkopdmgaa.typing

namespace Go.Proofs.Ytiajpjkkopdmgaa.typing
open Go.RowKit Go.Proofs.Ytiajpjkkopdmgaa.schema
open Go.Proofs.Ytiajpjkkopdmgaa.field (Gives newB gives_from)
open Go.Proofs.Ytiajpjkkopdmgaa.step (Lists boxP)
set_option linter.unusedVariables false
set_option linter.unusedSimpArgs false

set_option maxRecDepth 20000 in
set_option maxHeartbeats 3200000 in
theorem refOn_10 (v : Int) (a : Option Addr) (cap : Nat) (F : List Fm) (s : step.Sp) (ta : Option Addr) (tc : Nat) (la : Option Addr) (lc : Nat) (w : World) (h : FmL w a F) (hF : Small w F) (hl : Lists w s ta la) (hL : s.l.length ≤ 40) (hf : Fit v (forms F) s) (h0 : names (forms F) s = 0) (hop : s.op = 10) (r : Int × List schema.Form × Nat) (hrY : Right v (formsR (forms F) s.fm []) → r = (v, formsR (forms F) s.fm [], 0)) (hrM : ¬ Right v (formsR (forms F) s.fm []) → r = (0, [], 7)) :
    Calls Try.prog 9 #[.agg #[.int .i64 v, .slice a F.length cap], .agg #[.int .i64 s.op, .int .i64 s.fm, .int .i64 s.fd, .int .i64 s.pl, .int .i64 s.tt, .int .i64 s.a, .int .i64 s.b, .int .i64 s.f.id, .int .i64 s.f.kind, .int .i64 s.f.lo, .int .i64 s.f.hi, .int .i64 s.f.most, .int .i64 s.v.n, .string s.v.s, .slice ta s.t.length tc, .slice la s.l.length lc]] w (OnR r w) := by
  obtain ⟨W3, HW3, hbw, hsz3, HX⟩ := on_boxes v a cap F s ta tc la lc w
  have hmx : F.length ≤ maxLen := by have := hF.1; unfold maxLen; omega
  have cR := refRight_any v a cap F W3 (h.below hbw) hmx
  unfold Gives at cR
  rw [← HW3.out] at cR
  have n1 : w.heap.size ≠ w.heap.size + 1 + 1 := by omega
  have n2 : w.heap.size + 1 ≠ w.heap.size + 1 + 1 := by omega
  have cS := fun (w' : World) (hb : Below W3.heap.size W3 w') => step.refRight_any s ta tc la lc w' ((hl.below hbw).below hb)
  unfold Gives at cS
  have cN := fun (w' : World) (hb : Below w.heap.size w w') => refNames_any v a cap F s ta tc la lc w' (h.below hb) hmx
  unfold Gives at cN
  have HSZ : Hid (W3.heap.size = w.heap.size + 3) := hid hsz3
  clear hsz3
  rw [decide_eq_true hf.1] at cR
  have hf1 := hf.2.1
  have hf2 := hf.2.2
  simp only [decide_eq_true hf1] at cS
  have d10 : decide (s.op > 10) = false := decide_eq_false (by omega)
  rw [h0] at cN
  have HF40 := hid hF.1
  have HFM : Hid (∀ w', Below W3.heap.size W3 w' → FmL w' a F) := hid (fun w' hb => (h.below hbw).below hb)
  have HRY := hid hrY
  have HRM := hid hrM
  have d9 : (s.op == 9) = false := by simp [hop]
  have d1 : (s.op == 1) = false := by simp [hop]
  have d10 : (s.op == 10) = true := by simp [hop]
  unfold OnR
  clear h hF hl hL hmx hbw hf h0 hf1 hf2 hrY hrM hop
  go_enter Try.func9, Try.ntmps9
  go_wp2_with (first
    | (go_at_call 14; ((with_reducible refine cR.mono ?_); rintro e w1 ⟨rfl, hb1⟩; rw [HW3.out] at hb1; obtain ⟨k0, k1, k2, kb⟩ := HX.out _ hb1; have z0 := k0.cell 0; have z1 := k0.cell 1; have y0 := k1.cell 0; have y1 := k1.cell 1; have y2 := k1.cell 2; have y3 := k1.cell 3; have y4 := k1.cell 4; have y5 := k1.cell 5; have y6 := k1.cell 6; have y7 := k1.cell 7; have y8 := k1.cell 8; have y9 := k1.cell 9; have y10 := k1.cell 10; have y11 := k1.cell 11; have y12 := k1.cell 12; have y13 := k1.cell 13; have y14 := k1.cell 14; have y15 := k1.cell 15; have x0 := k2.cell 0; have x1 := k2.cell 1; have f0 := k2.frozen 0; have f1 := k2.frozen 1; have K2 := hid k2; have KB := hid kb; clear k0 k1 k2 kb))
    | (go_at_call 23; ((with_reducible refine (cS _ hb1).mono ?_); rintro e w2 ⟨rfl, hb2⟩; have hb1 := hb1.trans (hb2.mono hb1.size); obtain ⟨k0, k1, k2, kb⟩ := HX.out _ hb1; have z0 := k0.cell 0; have z1 := k0.cell 1; have y0 := k1.cell 0; have y1 := k1.cell 1; have y2 := k1.cell 2; have y3 := k1.cell 3; have y4 := k1.cell 4; have y5 := k1.cell 5; have y6 := k1.cell 6; have y7 := k1.cell 7; have y8 := k1.cell 8; have y9 := k1.cell 9; have y10 := k1.cell 10; have y11 := k1.cell 11; have y12 := k1.cell 12; have y13 := k1.cell 13; have y14 := k1.cell 14; have y15 := k1.cell 15; have x0 := k2.cell 0; have x1 := k2.cell 1; have f0 := k2.frozen 0; have f1 := k2.frozen 1; have K2 := hid k2; have KB := hid kb; clear k0 k1 k2 kb))
    | (go_at_call 24; ((with_reducible refine (cN _ KB.out).mono ?_); rintro e w3 ⟨rfl, hb3⟩; have hb1 := hb1.trans (hb3.mono hb1.size); obtain ⟨k0, k1, k2, kb⟩ := HX.out _ hb1; have z1w := k1.cell 1; have HB3 := hid hb1; have hN := newB w3 (.cells #[.int .i64 s.fm, .slice none 0 0] 52); have hb4 := hb1.trans (hN.mono hb1.size); have HS3 := hid hb1.size; clear k0 k1 k2 kb; obtain ⟨k0, k1, k2, kb⟩ := HX.out _ hb4; have HFB := hid (Fb.new s.fm w3); have z0 := k0.cell 0; have z1 := k0.cell 1; have y0 := k1.cell 0; have y1 := k1.cell 1; have y2 := k1.cell 2; have y3 := k1.cell 3; have y4 := k1.cell 4; have y5 := k1.cell 5; have y6 := k1.cell 6; have y7 := k1.cell 7; have y8 := k1.cell 8; have y9 := k1.cell 9; have y10 := k1.cell 10; have y11 := k1.cell 11; have y12 := k1.cell 12; have y13 := k1.cell 13; have y14 := k1.cell 14; have y15 := k1.cell 15; have x0 := k2.cell 0; have x1 := k2.cell 1; have f0 := k2.frozen 0; have f1 := k2.frozen 1; have K2 := hid k2; have KB := hid kb; clear k0 k1 k2 kb; have HBW := hid hb4; have HW : Hid (w.heap.size + 3 ≤ (w3.alloc (.cells #[.int .i64 s.fm, .slice none 0 0] 52)).heap.size) := hid (by have := HSZ.out; have := HS3.out; have := hN.size; omega); have cT : Calls Try.prog 29 #[.agg #[.int .i64 v, .slice a F.length cap], .agg #[.int .i64 s.fm, .slice none 0 0]] (w3.alloc (.cells #[.int .i64 s.fm, .slice none 0 0] 52)) _ := refForms_any v a cap F s.fm none 0 [] _ (HFM.out _ hb4) HF40.out (Fb.ok HFB.out); unfold FormsAs at cT; have c0 := HFB.out.box.cell 0; have c1 := HFB.out.box.cell 1; clear hN hb4))
    | (go_at_call 29; ((with_reducible refine cT.mono ?_); rintro e w7 ⟨y, yc, G, rfl, hG, hfo, hfar, hb7⟩; have hN7 := newB w7 (.cells #[.int .i64 v, .slice y G.length yc] 24); have hB7 := HBW.out.trans ((hb7.trans (hN7.mono hb7.size)).mono HBW.out.size); obtain ⟨k0, k1, k2, kb⟩ := HX.out _ hB7; have KX := hid (Block.new w7 24 [.int .i64 v, .slice y G.length yc]); have q0 := KX.out.cell 0; have q1 := KX.out.cell 1; have HG := hid (hG.below hN7); have HFO := hid hfo; have HFAR := hid hfar; have HGL : Hid (G.length ≤ maxLen) := hid (by have h8 := formsR_len (forms F) s.fm []; rw [← hfo, forms_length, forms_length] at h8; have := HF40.out; unfold maxLen; omega); have x0 := k2.cell 0; have x1 := k2.cell 1; have f0 := k2.frozen 0; have f1 := k2.frozen 1; have K2 := hid k2; have KB := hid kb; clear k0 k1 k2 kb hG hfo hfar)))
  by_cases hR : Right v (formsR (forms F) s.fm [])
  · have HR := hid hR
    obtain rfl := HRY.out hR
    clear hR
    go_wp2_with ((go_at_call 14; ((with_reducible refine (refRight_any v y yc G _ HG.out HGL.out).mono ?_); unfold Gives; rw [decide_eq_true (show Right v (forms G) by rw [HFO.out]; exact HR.out)]; rintro e w8 ⟨rfl, hb8⟩; have hB8 := hB7.trans (hb8.mono hB7.size); obtain ⟨k0, k1, k2, kb⟩ := HX.out _ hB8; have kx8 := KX.out.later hb8; have q0 := kx8.cell 0; have q1 := kx8.cell 1; have x0 := k2.cell 0; have x1 := k2.cell 1; have f0 := k2.frozen 0; have f1 := k2.frozen 1; have K2 := hid k2; have KB := hid kb; clear k0 k1 k2 kb kx8)))
    have hB := (K2.out.setCell 0 (.int .i64 v)).setCell 1 (.slice y G.length yc)
    refine bodyPost_ret (results_cell2 (b := w.heap.size + 1 + 1) (o := 0) rfl rfl hB.whole Try.underlying24 rfl (sc_info2 _ _)) rfl ?_
    have hne : G ≠ [] → ∀ z, y = some z → z.block ≠ w.heap.size + 1 + 1 := fun _ z hz => by have := HFAR.out z hz; have := HW.out; omega
    exact ⟨y, yc, G, rfl, fml_set2 (fml_set2 (HG.out.below hb8) hne K2.out (by simp)) hne (K2.out.setCell 0 (.int .i64 v)) (by simp), HFO.out, (fun z hz => by have := HFAR.out z hz; have := HW.out; omega), below_setCells (below_setCells KB.out (by omega) 0 [_]) (by omega) 1 [_]⟩
  · have HR := hid hR
    obtain rfl := HRM.out hR
    clear hR
    go_wp2_with ((go_at_call 14; ((with_reducible refine (refRight_any v y yc G _ HG.out HGL.out).mono ?_); unfold Gives; rw [decide_eq_false (show ¬ Right v (forms G) by rw [HFO.out]; exact HR.out)]; rintro e w8 ⟨rfl, hb8⟩; have hB8 := hB7.trans (hb8.mono hB7.size); obtain ⟨k0, k1, k2, kb⟩ := HX.out _ hB8; have kx8 := KX.out.later hb8; have q0 := kx8.cell 0; have q1 := kx8.cell 1; have x0 := k2.cell 0; have x1 := k2.cell 1; have f0 := k2.frozen 0; have f1 := k2.frozen 1; have K2 := hid k2; have KB := hid kb; clear k0 k1 k2 kb kx8)))
    have hB := (K2.out.setCell 0 (.int .i64 0)).setCell 1 (.slice none 0 0)
    refine bodyPost_ret (results_cell2 (b := w.heap.size + 1 + 1) (o := 0) rfl rfl hB.whole Try.underlying24 rfl (sc_info2 _ _)) rfl ?_
    exact ⟨none, 0, [], rfl, ⟨.inl rfl, by simp⟩, rfl, (fun z hz => by cases hz), below_setCells (below_setCells KB.out (by omega) 0 [_]) (by omega) 1 [_]⟩
end Go.Proofs.Ytiajpjkkopdmgaa.typing

namespace Go.Proofs.Ytiajpjkkopdmgaa.typing
open Go.RowKit Go.Proofs.Ytiajpjkkopdmgaa.schema
open Go.Proofs.Ytiajpjkkopdmgaa.field (Gives newB gives_from)
open Go.Proofs.Ytiajpjkkopdmgaa.step (Lists boxP)
set_option linter.unusedVariables false
set_option linter.unusedSimpArgs false

set_option maxRecDepth 20000 in
set_option maxHeartbeats 3200000 in
theorem refOn_9 (v : Int) (a : Option Addr) (cap : Nat) (F : List Fm) (s : step.Sp) (ta : Option Addr) (tc : Nat) (la : Option Addr) (lc : Nat) (w : World) (h : FmL w a F) (hF : Small w F) (hl : Lists w s ta la) (hL : s.l.length ≤ 40) (hf : Fit v (forms F) s) (h0 : names (forms F) s = 0) (hop : s.op = 9) (r : Int × List schema.Form × Nat) (hrY : Right v (formsR (forms F) s.fm s.l) → r = (v, formsR (forms F) s.fm s.l, 0)) (hrM : ¬ Right v (formsR (forms F) s.fm s.l) → r = (0, [], 7)) :
    Calls Try.prog 9 #[.agg #[.int .i64 v, .slice a F.length cap], .agg #[.int .i64 s.op, .int .i64 s.fm, .int .i64 s.fd, .int .i64 s.pl, .int .i64 s.tt, .int .i64 s.a, .int .i64 s.b, .int .i64 s.f.id, .int .i64 s.f.kind, .int .i64 s.f.lo, .int .i64 s.f.hi, .int .i64 s.f.most, .int .i64 s.v.n, .string s.v.s, .slice ta s.t.length tc, .slice la s.l.length lc]] w (OnR r w) := by
  obtain ⟨i0, hi, hz0, hz1, hz2⟩ := fd_info_parts
  obtain ⟨W3, HW3, hbw, hsz3, HX⟩ := on_boxes v a cap F s ta tc la lc w
  have hmx : F.length ≤ maxLen := by have := hF.1; unfold maxLen; omega
  have cR := refRight_any v a cap F W3 (h.below hbw) hmx
  unfold Gives at cR
  rw [← HW3.out] at cR
  have n1 : w.heap.size ≠ w.heap.size + 1 + 1 := by omega
  have n2 : w.heap.size + 1 ≠ w.heap.size + 1 + 1 := by omega
  have cS := fun (w' : World) (hb : Below W3.heap.size W3 w') => step.refRight_any s ta tc la lc w' ((hl.below hbw).below hb)
  unfold Gives at cS
  have cN := fun (w' : World) (hb : Below w.heap.size w w') => refNames_any v a cap F s ta tc la lc w' (h.below hb) hmx
  unfold Gives at cN
  have HSZ : Hid (W3.heap.size = w.heap.size + 3) := hid hsz3
  clear hsz3
  rw [decide_eq_true hf.1] at cR
  have hf1 := hf.2.1
  have hf2 := hf.2.2
  simp only [decide_eq_true hf1] at cS
  have d10 : decide (s.op > 10) = false := decide_eq_false (by omega)
  rw [h0] at cN
  have HF40 := hid hF.1
  have HFM : Hid (∀ w', Below W3.heap.size W3 w' → FmL w' a F) := hid (fun w' hb => (h.below hbw).below hb)
  have HLL : Hid (∀ w', Below W3.heap.size W3 w' → field.Fds w' la s.l) := hid (fun w' hb => ((hl.below hbw).below hb).l)
  have HM1 : Hid (0 + s.l.length ≤ maxLen) := hid (by unfold maxLen; omega)
  have HM2 : Hid ((0 + s.l.length) * 40 ≤ 140737488355328) := hid (by omega)
  have HLV : Hid ((fdV s.l).length = s.l.length * 5) := hid (fdV_length _)
  have HRY := hid hrY
  have HRM := hid hrM
  have d9 : (s.op == 9) = true := by simp [hop]
  unfold OnR
  clear h hF hl hL hmx hbw hf h0 hf1 hf2 hrY hrM hop
  go_enter Try.func9, Try.ntmps9
  go_wp2_with (first
    | (go_at_call 14; ((with_reducible refine cR.mono ?_); rintro e w1 ⟨rfl, hb1⟩; rw [HW3.out] at hb1; obtain ⟨k0, k1, k2, kb⟩ := HX.out _ hb1; have z0 := k0.cell 0; have z1 := k0.cell 1; have y0 := k1.cell 0; have y1 := k1.cell 1; have y2 := k1.cell 2; have y3 := k1.cell 3; have y4 := k1.cell 4; have y5 := k1.cell 5; have y6 := k1.cell 6; have y7 := k1.cell 7; have y8 := k1.cell 8; have y9 := k1.cell 9; have y10 := k1.cell 10; have y11 := k1.cell 11; have y12 := k1.cell 12; have y13 := k1.cell 13; have y14 := k1.cell 14; have y15 := k1.cell 15; have x0 := k2.cell 0; have x1 := k2.cell 1; have f0 := k2.frozen 0; have f1 := k2.frozen 1; have K2 := hid k2; have KB := hid kb; clear k0 k1 k2 kb))
    | (go_at_call 23; ((with_reducible refine (cS _ hb1).mono ?_); rintro e w2 ⟨rfl, hb2⟩; have hb1 := hb1.trans (hb2.mono hb1.size); obtain ⟨k0, k1, k2, kb⟩ := HX.out _ hb1; have z0 := k0.cell 0; have z1 := k0.cell 1; have y0 := k1.cell 0; have y1 := k1.cell 1; have y2 := k1.cell 2; have y3 := k1.cell 3; have y4 := k1.cell 4; have y5 := k1.cell 5; have y6 := k1.cell 6; have y7 := k1.cell 7; have y8 := k1.cell 8; have y9 := k1.cell 9; have y10 := k1.cell 10; have y11 := k1.cell 11; have y12 := k1.cell 12; have y13 := k1.cell 13; have y14 := k1.cell 14; have y15 := k1.cell 15; have x0 := k2.cell 0; have x1 := k2.cell 1; have f0 := k2.frozen 0; have f1 := k2.frozen 1; have K2 := hid k2; have KB := hid kb; clear k0 k1 k2 kb))
    | (go_at_call 24; ((with_reducible refine (cN _ KB.out).mono ?_); rintro e w3 ⟨rfl, hb3⟩; have hb1 := hb1.trans (hb3.mono hb1.size); obtain ⟨k0, k1, k2, kb⟩ := HX.out _ hb1; have z1w := k1.cell 1; have HB3 := hid hb1; have hN := newB w3 (.cells #[.int .i64 s.fm, .slice none 0 0] 52); have hb4 := hb1.trans (hN.mono hb1.size); have HS3 := hid hb1.size; clear k0 k1 k2 kb; obtain ⟨k0, k1, k2, kb⟩ := HX.out _ hb4; have HFB := hid (Fb.new s.fm w3); have z0 := k0.cell 0; have z1 := k0.cell 1; have y0 := k1.cell 0; have y1 := k1.cell 1; have y2 := k1.cell 2; have y3 := k1.cell 3; have y4 := k1.cell 4; have y5 := k1.cell 5; have y6 := k1.cell 6; have y7 := k1.cell 7; have y8 := k1.cell 8; have y9 := k1.cell 9; have y10 := k1.cell 10; have y11 := k1.cell 11; have y12 := k1.cell 12; have y13 := k1.cell 13; have y14 := k1.cell 14; have y15 := k1.cell 15; have x0 := k2.cell 0; have x1 := k2.cell 1; have f0 := k2.frozen 0; have f1 := k2.frozen 1; have K2 := hid k2; have KB := hid kb; clear k0 k1 k2 kb; have HNW := hid (fds_news (HLL.out _ hb4)); have HN4 := hid hN; have HB4 := hid hb4; have HBL : Hid (w3.heap.size + 1 ≤ (w3.alloc (.cells #[.int .i64 s.fm, .slice none 0 0] 52)).heap.size) := hid (by simp); clear hN hb4))
    | (at_builtin; refine wpList_append_fromN rfl _ _ 30 rfl (w3.heap.size + 1) 26 i0 _ 5 40 Try.underlying30 hi hz0 hz1 hz2 (by simp [Value.cells]) (by omega) (.slice none 0 0) 0 [] rfl (World.ownsRow_nil _ _ _ _) la s.l.length lc (fdV s.l) rfl HLV.out HNW.out (fdV_one _) HM1.out HM2.out HBL.out ?_))
  intro v1 w1 ho hg
  obtain ⟨fa, fc, rfl, _⟩ := ownsRow_slice ho
  have hbg : Below (w3.alloc (.cells #[.int .i64 s.fm, .slice none 0 0] 52)).heap.size (w3.alloc (.cells #[.int .i64 s.fm, .slice none 0 0] 52)) w1 := (Below.refl _ _).grown hg (Nat.le_refl _) (fun k hk => by cases hk)
  have HF2 := hid (HFB.out.put (l2 := s.l) (by simpa using ho) hbg)
  have hk := HFB.out.box.later hbg
  have c1 := hk.cell 1
  have g1 := hk.frozen 1
  have hsz := HSZ.out
  have hs3 := HS3.out
  have HBW : Hid (Below W3.heap.size W3 (w1.setCell ⟨w3.heap.size, 1, none⟩ (.slice fa s.l.length fc))) := hid (below_setCells (HB4.out.trans (hbg.mono HB4.out.size)) hs3 1 [_])
  have hw1 := HB4.out.trans (hbg.mono HB4.out.size)
  clear z0 z1 y0 y1 y2 y3 y4 y5 y6 y7 y8 y9 y10 y11 y12 y13 y14 y15 x0 x1 f0 f1 K2 KB cN cR cS
  have n3 : w.heap.size ≠ w3.heap.size := by omega
  have n4 : w.heap.size + 1 + 1 ≠ w3.heap.size := by omega
  replace HFB := HF2
  obtain ⟨k0, k1, k2, kb⟩ := HX.out _ hw1
  have z0 := k0.cell 0
  have z1 := k0.cell 1
  have c0 := hk.cell 0
  clear hk hbg ho hg k0 k1 k2 kb hw1
  have HW : Hid (w.heap.size + 3 ≤ (w1.setCell ⟨w3.heap.size, 1, none⟩ (.slice fa s.l.length fc)).heap.size) := hid (by have := HBW.out.size; omega)
  have cT : Calls Try.prog 29 #[.agg #[.int .i64 v, .slice a F.length cap], .agg #[.int .i64 s.fm, .slice fa s.l.length fc]] (w1.setCell ⟨w3.heap.size, 1, none⟩ (.slice fa s.l.length fc)) _ := refForms_any v a cap F s.fm fa fc s.l _ (HFM.out _ HBW.out) HF40.out (Fb.ok HFB.out)
  unfold FormsAs at cT
  clear hsz hs3
  go_wp2_with (first
    | (go_at_call 29; ((with_reducible refine cT.mono ?_); rintro e w7 ⟨y, yc, G, rfl, hG, hfo, hfar, hb7⟩; have hN7 := newB w7 (.cells #[.int .i64 v, .slice y G.length yc] 24); have hB7 := HBW.out.trans ((hb7.trans (hN7.mono hb7.size)).mono HBW.out.size); obtain ⟨k0, k1, k2, kb⟩ := HX.out _ hB7; have KX := hid (Block.new w7 24 [.int .i64 v, .slice y G.length yc]); have q0 := KX.out.cell 0; have q1 := KX.out.cell 1; have HG := hid (hG.below hN7); have HFO := hid hfo; have HFAR := hid hfar; have HGL : Hid (G.length ≤ maxLen) := hid (by have h8 := formsR_len (forms F) s.fm s.l; rw [← hfo, forms_length, forms_length] at h8; have := HF40.out; unfold maxLen; omega); have x0 := k2.cell 0; have x1 := k2.cell 1; have f0 := k2.frozen 0; have f1 := k2.frozen 1; have K2 := hid k2; have KB := hid kb; clear k0 k1 k2 kb hG hfo hfar)))
  by_cases hR : Right v (formsR (forms F) s.fm s.l)
  · have HR := hid hR
    obtain rfl := HRY.out hR
    clear hR
    go_wp2_with ((go_at_call 14; ((with_reducible refine (refRight_any v y yc G _ HG.out HGL.out).mono ?_); unfold Gives; rw [decide_eq_true (show Right v (forms G) by rw [HFO.out]; exact HR.out)]; rintro e w8 ⟨rfl, hb8⟩; have hB8 := hB7.trans (hb8.mono hB7.size); obtain ⟨k0, k1, k2, kb⟩ := HX.out _ hB8; have kx8 := KX.out.later hb8; have q0 := kx8.cell 0; have q1 := kx8.cell 1; have x0 := k2.cell 0; have x1 := k2.cell 1; have f0 := k2.frozen 0; have f1 := k2.frozen 1; have K2 := hid k2; have KB := hid kb; clear k0 k1 k2 kb kx8)))
    have hB := (K2.out.setCell 0 (.int .i64 v)).setCell 1 (.slice y G.length yc)
    refine bodyPost_ret (results_cell2 (b := w.heap.size + 1 + 1) (o := 0) rfl rfl hB.whole Try.underlying24 rfl (sc_info2 _ _)) rfl ?_
    have hne : G ≠ [] → ∀ z, y = some z → z.block ≠ w.heap.size + 1 + 1 := fun _ z hz => by have := HFAR.out z hz; have := HW.out; omega
    exact ⟨y, yc, G, rfl, fml_set2 (fml_set2 (HG.out.below hb8) hne K2.out (by simp)) hne (K2.out.setCell 0 (.int .i64 v)) (by simp), HFO.out, (fun z hz => by have := HFAR.out z hz; have := HW.out; omega), below_setCells (below_setCells KB.out (by omega) 0 [_]) (by omega) 1 [_]⟩
  · have HR := hid hR
    obtain rfl := HRM.out hR
    clear hR
    go_wp2_with ((go_at_call 14; ((with_reducible refine (refRight_any v y yc G _ HG.out HGL.out).mono ?_); unfold Gives; rw [decide_eq_false (show ¬ Right v (forms G) by rw [HFO.out]; exact HR.out)]; rintro e w8 ⟨rfl, hb8⟩; have hB8 := hB7.trans (hb8.mono hB7.size); obtain ⟨k0, k1, k2, kb⟩ := HX.out _ hB8; have kx8 := KX.out.later hb8; have q0 := kx8.cell 0; have q1 := kx8.cell 1; have x0 := k2.cell 0; have x1 := k2.cell 1; have f0 := k2.frozen 0; have f1 := k2.frozen 1; have K2 := hid k2; have KB := hid kb; clear k0 k1 k2 kb kx8)))
    have hB := (K2.out.setCell 0 (.int .i64 0)).setCell 1 (.slice none 0 0)
    refine bodyPost_ret (results_cell2 (b := w.heap.size + 1 + 1) (o := 0) rfl rfl hB.whole Try.underlying24 rfl (sc_info2 _ _)) rfl ?_
    exact ⟨none, 0, [], rfl, ⟨.inl rfl, by simp⟩, rfl, (fun z hz => by cases hz), below_setCells (below_setCells KB.out (by omega) 0 [_]) (by omega) 1 [_]⟩
end Go.Proofs.Ytiajpjkkopdmgaa.typing
