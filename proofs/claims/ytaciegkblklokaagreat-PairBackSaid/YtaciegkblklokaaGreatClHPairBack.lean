
import Derived.Test.YtaciegkblklokaaGreatCmK
import Derived.Test.YtaciegkblklokaaGreatCmAC
import Derived.Test.YtaciegkblklokaaGreatCmAB
import Derived.Test.YtaciegkblklokaaGreatCmV
import Derived.Conc.WalkWords
import Derived.Test.YtaciegkblklokaaGreatCmA
set_option linter.unusedVariables false
namespace Go.Proofs.YtaciegkblklokaaGreat.pair
open Go.RowKit Go.Proofs.YtaciegkblklokaaGreat.schema Go.Proofs.YtaciegkblklokaaGreat.step Go.Proofs.YtaciegkblklokaaGreat.typing
theorem backs_app : ∀ (v : Int) (F : List schema.Form) (L A : List Sp), (backs v F L A).2 = 0 → (backs v F L A).1 = (backs v F L []).1 ++ A
 | _, _, [], A, _ => rfl
 | v, F, s :: r, A, h => by
  unfold backs at h ⊢
  by_cases h0 : (on v F s).2.2 = 0
  ·rw [if_pos h0] at h ⊢
   rw [if_pos h0, backs_app _ _ r _ h]
   have h2 : (backs (on v F s).1 (on v F s).2.1 r [inv F s]).2 = 0 := by rw [backs_err 0] at h ⊢; exact h
   rw [backs_app _ _ r [inv F s] h2]
   simp
  ·rw [if_neg h0] at h
   exact absurd h h0
theorem backs_each : ∀ (v : Int) (F : List schema.Form) (L : List Sp), (backs v F L []).2 = 0 → ∀ (i j : Nat) (x y : Sp), j + i + 1 = L.length → (backs v F L []).1[i]? = some x → L[j]? = some y → x.Right ∧ x.op = y.op + 20
 | _, _, [], _, i, j, x, y, hij, _, _ => by simp at hij
 | v, F, s :: r, h, i, j, x, y, hij, hx, hy => by
  unfold backs at h hx
  by_cases h0 : (on v F s).2.2 = 0
  ·rw [if_pos h0] at h hx
   have h2 : (backs (on v F s).1 (on v F s).2.1 r []).2 = 0 := by rw [backs_err 0] at h ⊢; exact h
   have hl : (backs (on v F s).1 (on v F s).2.1 r []).1.length = r.length := by rw [backs_len _ _ r [] h2]; simp
   rw [backs_app _ _ r _ h] at hx
   simp only [List.length_cons] at hij
   cases j with
   | zero =>
    have hi : i = r.length := by omega
    rw [List.getElem?_append_right (by omega), hl, hi, Nat.sub_self] at hx
    simp at hx hy
    subst hx hy
    exact inv_right h0
   | succ j =>
    rw [List.getElem?_append_left (by omega)] at hx
    exact backs_each _ _ r h2 i j x y (by omega) hx (by simpa using hy)
  ·rw [if_neg h0] at h
   exact absurd h h0
end Go.Proofs.YtaciegkblklokaaGreat.pair
namespace Go.Proofs.YtaciegkblklokaaGreat.pairBack
open Go.RowKit Go.Proofs.YtaciegkblklokaaGreat.schema Go.Proofs.YtaciegkblklokaaGreat.typing Go.Proofs.YtaciegkblklokaaGreat.pair
open Go.Proofs.YtaciegkblklokaaGreat.field (Gives newB gives_from)
open Go.Proofs.YtaciegkblklokaaGreat.step (Lists Sp St StL sps sps_length sps_at step_range GreatL great_not OwnS)
theorem boxes (v : Int) (sa : Option Addr) (sc : Nat) (F : List Fm) (w : World) : ∃ W0, Hid ((w.alloc (.cells (zS v sa F.length sc) 24)) = W0) ∧ Below w.heap.size w W0 ∧ Hid (∀ w', Below W0.heap.size W0 w' → Block w' w.heap.size 24 (zS v sa F.length sc) ∧ Below w.heap.size w w') := by
 have hw : Below w.heap.size w (w.alloc (.cells (zS v sa F.length sc) 24)) := newB w (.cells (zS v sa F.length sc) 24)
 exact ⟨_, hid rfl, hw, hid (fun w' hb => ⟨(Block.new w _ _).later hb, hw.trans (hb.mono hw.size)⟩)⟩
set_option maxRecDepth 20000 in
set_option maxHeartbeats 3200000 in
theorem walk1 (v : Int) (sa : Option Addr) (sc : Nat) (F : List Fm) (la : Option Addr) (lc : Nat) (L : List St) (ba : Option Addr) (bc : Nat) (M : List St) (w : World) (h : FmL w sa F) (hF : F.length ≤ maxLen) (hl : StL w la L) (hL : L.length ≤ maxLen) (hm : StL w ba M) (hM : M.length ≤ maxLen) (hg : (greatB (forms F) || decide (GreatL (sps L))) = true) :
  Calls Tryz.prog 5 #[zS v sa F.length sc, .slice la L.length lc, .slice ba M.length bc] w (Yes w) := by
 obtain ⟨W0, HW0, hw, HX⟩ := boxes v sa sc F w
 have hf0 := h.below hw
 have hl0 := hl.below hw
 have hm0 := hm.below hw
 have cG := great_any v sa sc F la lc L W0 hf0 hF hl0 hL
 have cT := fun (w' : World) (hb : Below W0.heap.size W0 w') => step.great_any ba bc M w' (hm0.below hb) hM
 have cA := fun w' => awake_any w'
 unfold Yes at cA ⊢
 unfold Gives at cG cT
 rw [← HW0.out] at cG
 rw [hg] at cG
 clear h hl hw hf0 hl0 hg hF hL hm hm0 hM cT
 go_enter Tryz.func5, Tryz.ntmps5
 go_wp2_with (first
  | (go_at_call 6; ((with_reducible refine cG.mono ?_); clear cG; rintro e w1 ⟨rfl, hb1⟩; rw [HW0.out] at hb1; skip))
  | (go_at_call 8; ((with_reducible refine (cA _).mono ?_); rintro e w9 ⟨rfl, hb9⟩)))
 go_ret
 exact ⟨rfl, (HX.out _ (hb1.trans (hb9.mono hb1.size))).2⟩
set_option maxRecDepth 20000 in
set_option maxHeartbeats 3200000 in
theorem walk2 (v : Int) (sa : Option Addr) (sc : Nat) (F : List Fm) (la : Option Addr) (lc : Nat) (L : List St) (ba : Option Addr) (bc : Nat) (M : List St) (w : World) (h : FmL w sa F) (hF : F.length ≤ maxLen) (hl : StL w la L) (hL : L.length ≤ maxLen) (hm : StL w ba M) (hM : M.length ≤ maxLen) (hg : (greatB (forms F) || decide (GreatL (sps L))) = false) (hg2 : decide (GreatL (sps M)) = true) :
  Calls Tryz.prog 5 #[zS v sa F.length sc, .slice la L.length lc, .slice ba M.length bc] w (Yes w) := by
 obtain ⟨W0, HW0, hw, HX⟩ := boxes v sa sc F w
 have hf0 := h.below hw
 have hl0 := hl.below hw
 have hm0 := hm.below hw
 have cG := great_any v sa sc F la lc L W0 hf0 hF hl0 hL
 have cT := fun (w' : World) (hb : Below W0.heap.size W0 w') => step.great_any ba bc M w' (hm0.below hb) hM
 have cA := fun w' => awake_any w'
 unfold Yes at cA ⊢
 unfold Gives at cG cT
 rw [← HW0.out] at cG
 rw [hg] at cG
 rw [hg2] at cT
 clear h hl hw hf0 hl0 hg hF hL hm hm0 hM hg2
 go_enter Tryz.func5, Tryz.ntmps5
 go_wp2_with (first
  | (go_at_call 6; ((with_reducible refine cG.mono ?_); clear cG; rintro e w1 ⟨rfl, hb1⟩; rw [HW0.out] at hb1; skip))
  | (go_at_call 7; ((with_reducible refine (cT _ hb1).mono ?_); rintro e w2 ⟨rfl, hb2⟩; have hB2 := hb1.trans (hb2.mono hb1.size); skip))
  | (go_at_call 8; ((with_reducible refine (cA _).mono ?_); rintro e w9 ⟨rfl, hb9⟩)))
 go_ret
 exact ⟨rfl, (HX.out _ (hB2.trans (hb9.mono hB2.size))).2⟩
theorem exec_subI {o : Oper} {a : Act} {w : World} {x y : Operand} {t : TypeId} {n m r : Int} (ho : o.op = .binOp .sub 3 x y t) (hr : n - m = r) (h : -1000 ≤ r ∧ r ≤ 1000) (hx : a.eval x = .int .i64 n := by kernel_rfl) (hy : a.eval y = .int .i64 m := by kernel_rfl) :
  (execOp a.eval o).run Tryz.prog w = .ok (.value (.int .i64 r)) w := by
 subst hr
 have h2 : IntKind.i64.wrap (n - m) = n - m := IntWalk.i64_in _ (by omega)
 unfold execOp
 rw [ho]
 simp only [hx, hy]
 go_simp
 try simp [h2]
set_option maxRecDepth 20000 in
set_option maxHeartbeats 3200000 in
theorem walk3 (v : Int) (sa : Option Addr) (sc : Nat) (F : List Fm) (la : Option Addr) (lc : Nat) (L : List St) (ba : Option Addr) (bc : Nat) (M : List St) (w : World) (h : FmL w sa F) (hF : F.length ≤ maxLen) (hl : StL w la L) (hL : L.length ≤ maxLen) (hm : StL w ba M) (hM : M.length ≤ maxLen) (hg : (greatB (forms F) || decide (GreatL (sps L))) = false) (hg2 : decide (GreatL (sps M)) = false) (h0 : ¬ (all 0 v (forms F) (sps L)).2.2.2 = 0) :
  Calls Tryz.prog 5 #[zS v sa F.length sc, .slice la L.length lc, .slice ba M.length bc] w (Yes w) := by
 obtain ⟨W0, HW0, hw, HX⟩ := boxes v sa sc F w
 have hf0 := h.below hw
 have hl0 := hl.below hw
 have hm0 := hm.below hw
 have cG := great_any v sa sc F la lc L W0 hf0 hF hl0 hL
 have cT := fun (w' : World) (hb : Below W0.heap.size W0 w') => step.great_any ba bc M w' (hm0.below hb) hM
 have cA := fun w' => awake_any w'
 unfold Yes at cA ⊢
 unfold Gives at cG cT
 rw [← HW0.out] at cG
 rw [hg] at cG
 rw [hg2] at cT
 obtain ⟨hsm, hll⟩ := small_of h hg
 have hgl : ¬ GreatL (sps L) := by simp only [Bool.or_eq_false_iff, decide_eq_false_iff_not] at hg; exact hg.2
 have hgm : ¬ GreatL (sps M) := by simpa using hg2
 have h60 : L.length ≤ 60 := by have := (great_not hgl).1; rwa [sps_length] at this
 have m60 : M.length ≤ 60 := by have := (great_not hgm).1; rwa [sps_length] at this
 have htt : ∀ q ∈ L, q.s.t.length ≤ 1000000 := fun q hq => by have := ((great_not hgl).2 q.s (List.mem_map_of_mem hq)).1; omega
 have cL := fun (w' : World) (hb : Below W0.heap.size W0 w') => refAll_any v sa sc F la lc L w' (hf0.below hb) ((hsm.below hw).below hb) (hl0.below hb) h60 hll
 have cB := fun (w' : World) (hb : Below W0.heap.size W0 w') => back_any v sa sc F la lc L w' (hf0.below hb) ((hsm.below hw).below hb) (hl0.below hb) h60 hll htt
 have cV := fun (ba : Option Addr) (bc : Nat) (M : List St) (w' : World) (hb : Below W0.heap.size W0 w') (hm : StL w' ba M) (hM : M.length ≤ maxLen) => check_any v sa sc F la lc L ba bc M w' (hf0.below hb) ((hsm.below hw).below hb) (hl0.below hb) h60 hll htt hm hM
 have hbe := backs_err 0 v (forms F) (sps L) []
 have hbb := backs_bad v (forms F) (sps L) []
 have hbl := backs_len v (forms F) (sps L) []
 have hbx := backs_each v (forms F) (sps L)
 unfold check at cV
 generalize backs v (forms F) (sps L) [] = R at *
 generalize all 0 v (forms F) (sps L) = A at *
 obtain ⟨b, n1⟩ := R
 obtain ⟨v2, PF, ix, n⟩ := A
 simp only at hbe hbb hbl hbx cV
 subst hbe
 unfold BackAs at cB
 unfold AllAs at cL
 unfold Gives at cV
 simp only at cB cL
 have hbb0 := hbb h0
 subst hbb0
 have hne : (((n1 : Nat) : Int) != 0) = true := by simpa using h0
 replace cV := fun w' hb => cV ba bc M w' hb (hm0.below hb) hM
 simp only [if_neg h0] at cV
 have HMM := hid hm0
 clear h hl hw hf0 hl0 hg hF hL hm hm0 hM hg2 hsm hll hgl hgm h60 m60 htt h0 hbb hbl hbx
 go_enter Tryz.func5, Tryz.ntmps5
 go_wp2_with (first
  | (go_at_call 6; ((with_reducible refine cG.mono ?_); clear cG; rintro e w1 ⟨rfl, hb1⟩; rw [HW0.out] at hb1; skip))
  | (go_at_call 7; ((with_reducible refine (cT _ hb1).mono ?_); rintro e w2 ⟨rfl, hb2⟩; have hB2 := hb1.trans (hb2.mono hb1.size); obtain ⟨k0, kb⟩ := HX.out _ hB2; have z0 := k0.cell 0; have z1 := k0.cell 1; clear k0; skip))
  | (go_at_call 11; ((with_reducible refine (cB _ hB2).mono ?_); rintro e w3 ⟨q, qc, P, rfl, hs3, hP3, hb3⟩; have hB3 := hB2.trans (hb3.mono hB2.size); obtain ⟨k0, kb⟩ := HX.out _ hB3; have z0 := k0.cell 0; have z1 := k0.cell 1; clear k0; obtain rfl : P = [] := List.map_eq_nil_iff.1 hs3; clear hs3 hP3))
  | (go_at_call 17; ((with_reducible refine (cL _ hB3).mono ?_); rintro e w4 ⟨x, xc, G, rfl, hG, hfo, hb4⟩; have hN4 := newB w4 (.cells (zS v2 x G.length xc) 24); have hb5 := hb4.trans (hN4.mono hb4.size); have hB5 := hB3.trans (hb5.mono hB3.size); obtain ⟨k0, kb⟩ := HX.out _ hB5; have z0 := k0.cell 0; have z1 := k0.cell 1; clear k0; clear hG hfo))
  | (go_at_call 15; ((with_reducible refine (cV _ hB5).mono ?_); rintro e w6 ⟨rfl, hb6⟩; have hB6 := hB5.trans (hb6.mono hB5.size)))
  | (go_at_call 8; ((with_reducible refine (cA _).mono ?_); rintro e w9 ⟨rfl, hb9⟩)))
 go_ret
 exact ⟨rfl, (HX.out _ (hB6.trans (hb9.mono hB6.size))).2⟩
set_option maxRecDepth 20000 in
set_option maxHeartbeats 3200000 in
theorem walk4 (v : Int) (sa : Option Addr) (sc : Nat) (F : List Fm) (la : Option Addr) (lc : Nat) (L : List St) (ba : Option Addr) (bc : Nat) (M : List St) (w : World) (h : FmL w sa F) (hF : F.length ≤ maxLen) (hl : StL w la L) (hL : L.length ≤ maxLen) (hm : StL w ba M) (hM : M.length ≤ maxLen) (hg : (greatB (forms F) || decide (GreatL (sps L))) = false) (hg2 : decide (GreatL (sps M)) = false) (h0 : (all 0 v (forms F) (sps L)).2.2.2 = 0) :
  Calls Tryz.prog 5 #[zS v sa F.length sc, .slice la L.length lc, .slice ba M.length bc] w (Yes w) := by
 obtain ⟨W0, HW0, hw, HX⟩ := boxes v sa sc F w
 have hf0 := h.below hw
 have hl0 := hl.below hw
 have hm0 := hm.below hw
 have cG := great_any v sa sc F la lc L W0 hf0 hF hl0 hL
 have cT := fun (w' : World) (hb : Below W0.heap.size W0 w') => step.great_any ba bc M w' (hm0.below hb) hM
 have cA := fun w' => awake_any w'
 unfold Yes at cA ⊢
 unfold Gives at cG cT
 rw [← HW0.out] at cG
 rw [hg] at cG
 rw [hg2] at cT
 obtain ⟨hsm, hll⟩ := small_of h hg
 have hgl : ¬ GreatL (sps L) := by simp only [Bool.or_eq_false_iff, decide_eq_false_iff_not] at hg; exact hg.2
 have hgm : ¬ GreatL (sps M) := by simpa using hg2
 have h60 : L.length ≤ 60 := by have := (great_not hgl).1; rwa [sps_length] at this
 have m60 : M.length ≤ 60 := by have := (great_not hgm).1; rwa [sps_length] at this
 have htt : ∀ q ∈ L, q.s.t.length ≤ 1000000 := fun q hq => by have := ((great_not hgl).2 q.s (List.mem_map_of_mem hq)).1; omega
 have cL := fun (w' : World) (hb : Below W0.heap.size W0 w') => refAll_any v sa sc F la lc L w' (hf0.below hb) ((hsm.below hw).below hb) (hl0.below hb) h60 hll
 have cB := fun (w' : World) (hb : Below W0.heap.size W0 w') => back_any v sa sc F la lc L w' (hf0.below hb) ((hsm.below hw).below hb) (hl0.below hb) h60 hll htt
 have cV := fun (ba : Option Addr) (bc : Nat) (M : List St) (w' : World) (hb : Below W0.heap.size W0 w') (hm : StL w' ba M) (hM : M.length ≤ maxLen) => check_any v sa sc F la lc L ba bc M w' (hf0.below hb) ((hsm.below hw).below hb) (hl0.below hb) h60 hll htt hm hM
 have hbe := backs_err 0 v (forms F) (sps L) []
 have hbb := backs_bad v (forms F) (sps L) []
 have hbl := backs_len v (forms F) (sps L) []
 have hbx := backs_each v (forms F) (sps L)
 unfold check at cV
 generalize backs v (forms F) (sps L) [] = R at *
 generalize all 0 v (forms F) (sps L) = A at *
 obtain ⟨b, n1⟩ := R
 obtain ⟨v2, PF, ix, n⟩ := A
 simp only at hbe hbb hbl hbx cV
 subst hbe
 unfold BackAs at cB
 unfold AllAs at cL
 unfold Gives at cV
 simp only at cB cL
 simp only [if_pos h0] at cV
 have hbl0 := hbl h0
 have hbx0 := hbx h0
 subst h0
 simp only [List.length_nil, Nat.zero_add] at hbl0
 rw [sps_length] at hbl0
 have hnM : M.length ≤ 60 := m60
 have cY := fun w' hb => cV ba bc M w' hb (hm0.below hb) hM
 obtain ⟨X, hX⟩ : ∃ X, Hid (diff 0 b (sps M) = X) := ⟨_, rfl⟩
 rw [hX.out] at cY
 obtain ⟨x1, x2⟩ := X
 simp only at cY
 have HMM := hid hm0
 have HLL := hid hl0
 have HBX := hid hbx0
 have HBL := hid hbl0
 have HML := hid hnM
 have HL6 := hid h60
 have hml : (L.length : Int) ≤ 60 := by omega
 clear h hl hw hf0 hl0 hg hF hL hm hm0 hM hg2 hsm hll hgl hgm h60 m60 htt hbb hbl hbx hbl0 hbx0 hnM
 go_enter Tryz.func5, Tryz.ntmps5
 go_wp2_with (first
  | (go_at_call 6; ((with_reducible refine cG.mono ?_); clear cG; rintro e w1 ⟨rfl, hb1⟩; rw [HW0.out] at hb1; skip))
  | (go_at_call 7; ((with_reducible refine (cT _ hb1).mono ?_); rintro e w2 ⟨rfl, hb2⟩; have hB2 := hb1.trans (hb2.mono hb1.size); obtain ⟨k0, kb⟩ := HX.out _ hB2; have z0 := k0.cell 0; have z1 := k0.cell 1; clear k0; skip))
  | (go_at_call 11; ((with_reducible refine (cB _ hB2).mono ?_); rintro e w3 ⟨q, qc, P, rfl, hs3, hP3, hb3⟩; have hB3 := hB2.trans (hb3.mono hB2.size); obtain ⟨k0, kb⟩ := HX.out _ hB3; have z0 := k0.cell 0; have z1 := k0.cell 1; clear k0; have HS3 := hid hs3; have HPN : Hid (P.length = L.length) := hid (by have h1 := congrArg List.length hs3; rw [sps_length] at h1; exact h1.trans HBL.out); have HPL : Hid (P.length ≤ 60) := hid (by have := HPN.out; have := HL6.out; omega); have hdn : ((P.length : Int) != (L.length : Int)) = false := (by have := HPN.out; simp; omega); have HP3 := hid hP3; clear hs3 hP3))
  | (go_at_call 17; ((with_reducible refine (cL _ hB3).mono ?_); rintro e w4 ⟨x, xc, G, rfl, hG, hfo, hb4⟩; have hN4 := newB w4 (.cells (zS v2 x G.length xc) 24); have hb5 := hb4.trans (hN4.mono hb4.size); have hB5 := hB3.trans (hb5.mono hB3.size); obtain ⟨k0, kb⟩ := HX.out _ hB5; have z0 := k0.cell 0; have z1 := k0.cell 1; clear k0; have HP5 := HP3.out.below hb5; have HP5 := hid HP5; clear hG hfo HP3)))
 obtain ⟨W5, hW5⟩ : ∃ z, Hid ((w4.alloc (.cells (zS v2 x G.length xc) 24)) = z) := ⟨_, hid rfl⟩
 rw [hW5.out] at hB5 HP5 ⊢
 have HB5 := hid hB5
 have HL5 := hid (HLL.out.below hB5)
 clear z0 z1 hB5 hW5
 go_loopw [14] (fun n wr => ∃ k : Nat, k ≤ L.length ∧ n = .int .i64 (k : Int) ∧ Hid (Below W5.heap.size W5 wr)) (fun n _ => L.length - (intOf n).toNat)
 case atStart => exact ⟨0, Nat.zero_le _, rfl, hid (Below.refl _ _)⟩
 case round =>
  obtain ⟨k, hk, rfl, HB⟩ := hrel
  by_cases hlt : k < L.length
  ·obtain ⟨jn, hjn⟩ : ∃ jn, jn + k + 1 = L.length := ⟨L.length - 1 - k, by omega⟩
   obtain ⟨g, off, p, rfl, hbl, hp, hlp, c0⟩ := step_range HP5.out (below_drew HB.out) (k := k) (by have := HPN.out; omega)
   obtain ⟨g', off', y, rfl, hbl', hq, hlq, d0⟩ := step_range HL5.out (below_drew HB.out) (k := jn) (by omega)
   have i1 : (k : Int) < L.length := by omega
   have hlt1 : Hid (k < P.length) := hid (by have := HPN.out; omega)
   have hlt2 : Hid (jn < L.length) := hid (by omega)
   have hrx := HBX.out k jn p.s y.s (by rw [sps_length]; exact hjn) (by rw [← HS3.out]; exact sps_at hp) (sps_at hq)
   obtain ⟨s, ta, tc, ya, yc⟩ := p
   obtain ⟨u, ua, uc, va, vc⟩ := y
   simp only at hrx c0 d0 hlp hlq
   have cR := step.refRight_any s ta tc ya yc wr.drew hlp
   rw [decide_eq_true hrx.1] at cR
   unfold Gives at cR
   have hsp := step.mem_span hrx.1.2.1
   have HP1 : Hid (wr.drew.rangeAt g (off + k * 16) (zP s ta tc ya yc)) := hid c0
   have HL1 := hid hbl
   have HC1 : Hid (∀ w', Below wr.drew.heap.size wr.drew w' → w'.cell? ⟨g, off + k * 16, none⟩ = some (.int .i64 s.op)) := hid (fun w' hb => range_later c0 hb hbl 0 _ rfl)
   have HC2 : Hid (∀ w', Below wr.drew.heap.size wr.drew w' → w'.cell? ⟨g', off' + jn * 16, none⟩ = some (.int .i64 u.op)) := hid (fun w' hb => range_later d0 hb hbl' 0 _ rfl)
   have HSB : Hid ((-1000 ≤ (L.length : Int) - 1 ∧ (L.length : Int) - 1 ≤ 1000) ∧ (L.length : Int) - 1 - (k : Int) = (jn : Int) ∧ (-1000 ≤ (jn : Int) ∧ (jn : Int) ≤ 1000)) := hid ⟨by omega, by omega, by omega⟩
   have HAD : Hid (0 ≤ u.op + 20 ∧ u.op + 20 ≤ 1000) := hid (by have := hrx.2; omega)
   have HNQ : Hid ((s.op != u.op + 20) = false) := hid (by simp [hrx.2])
   clear hp hq hlp hlq c0 d0 hbl hbl' hrx hsp hjn
   go_wp2
   refine plan.regionS (S := fun w' => Below wr.drew.heap.size wr.drew w') ?_
   have hS := Below.refl wr.drew.heap.size wr.drew
   refine plan.firstS 0 _ (.slice (some ⟨g, off, none⟩) P.length qc) rfl (fun w' hS' => (by kernel_rfl)) hS ?_
   refine plan.firstS 1 _ (.int .i64 (k : Int)) rfl (fun w' hS' => (by kernel_rfl)) hS ?_
   refine plan.firstS 2 _ (.pointer (some ⟨g, off + k * 16, none⟩)) rfl (fun w' hS' => step.exec_indexP (cap := qc) rfl hlt1.out) hS ?_
   refine plan.firstS 3 _ (zP s ta tc ya yc) rfl (fun w' hS' => exec_load_at (b := g) (off := off + k * 16) rfl (range_later HP1.out hS' HL1.out) Tryz.underlying32 rfl info_st.out) hS ?_
   refine plan.callS 4 _ 18 #[zP s ta tc ya yc] rfl (cR.mono ?_)
   rintro e w6 ⟨rfl, hb6⟩
   refine ⟨_, rfl, hb6, ?_⟩
   refine plan.firstS 5 _ (.bool false) rfl (fun w' hS' => (by kernel_rfl)) hb6 ?_
   refine plan.firstS 6 _ (.bool false) rfl (fun w' hS' => (by kernel_rfl)) hb6 ?_
   refine plan.firstS 7 _ (.slice (some ⟨g, off, none⟩) P.length qc) rfl (fun w' hS' => (by kernel_rfl)) hb6 ?_
   refine plan.firstS 8 _ (.int .i64 (k : Int)) rfl (fun w' hS' => (by kernel_rfl)) hb6 ?_
   refine plan.firstS 9 _ (.pointer (some ⟨g, off + k * 16, none⟩)) rfl (fun w' hS' => step.exec_indexP (cap := qc) rfl hlt1.out) hb6 ?_
   refine plan.firstS 10 _ (.pointer (some ⟨g, off + k * 16, none⟩)) rfl (fun w' hS' => (by kernel_rfl)) hb6 ?_
   refine plan.firstS 11 _ (.int .i64 s.op) rfl (fun w' hS' => exec_cell_int (ad := ⟨g, off + k * 16, none⟩) rfl (by kernel_rfl) (HC1.out _ hS') Tryz.isAgg3) hb6 ?_
   refine plan.firstS 12 _ (.slice (some ⟨g', off', none⟩) L.length lc) rfl (fun w' hS' => (by kernel_rfl)) hb6 ?_
   refine plan.firstS 13 _ (.slice (some ⟨g', off', none⟩) L.length lc) rfl (fun w' hS' => (by kernel_rfl)) hb6 ?_
   refine plan.firstS 14 _ (.int .i64 (L.length : Int)) rfl (fun w' hS' => (by kernel_rfl)) hb6 ?_
   refine plan.firstS 15 _ (.int .i64 ((L.length : Int) - 1)) rfl (fun w' hS' => exec_subI (n := (L.length : Int)) (m := 1) rfl rfl HSB.out.1) hb6 ?_
   refine plan.firstS 16 _ (.int .i64 (k : Int)) rfl (fun w' hS' => (by kernel_rfl)) hb6 ?_
   refine plan.firstS 17 _ (.int .i64 (jn : Int)) rfl (fun w' hS' => exec_subI (n := (L.length : Int) - 1) (m := (k : Int)) rfl HSB.out.2.1 HSB.out.2.2) hb6 ?_
   refine plan.firstS 18 _ (.pointer (some ⟨g', off' + jn * 16, none⟩)) rfl (fun w' hS' => step.exec_indexP (cap := lc) rfl hlt2.out) hb6 ?_
   refine plan.firstS 19 _ (.pointer (some ⟨g', off' + jn * 16, none⟩)) rfl (fun w' hS' => (by kernel_rfl)) hb6 ?_
   refine plan.firstS 20 _ (.int .i64 u.op) rfl (fun w' hS' => exec_cell_int (ad := ⟨g', off' + jn * 16, none⟩) rfl (by kernel_rfl) (HC2.out _ hS') Tryz.isAgg3) hb6 ?_
   refine plan.firstS 21 _ (.int .i64 (u.op + 20)) rfl (fun w' hS' => exec_addI (n := u.op) (m := 20) rfl HAD.out) hb6 ?_
   refine plan.firstS 22 _ (.bool false) rfl (fun w' hS' => exec_neq_int (n := s.op) (m := u.op + 20) rfl HNQ.out) hb6 ?_
   refine plan.firstS 23 _ (.bool false) rfl (fun w' hS' => (by kernel_rfl)) hb6 ?_
   refine plan.doneS ?_
   have HB6 := hid ((below_drew HB.out).trans (hb6.mono (below_drew HB.out).size))
   clear hb6 hS cR
   walk_nrm
   go_wp2
   exact ⟨⟨k + 1, by omega, by go_num, HB6⟩, by simp [intOf]; omega⟩
  ·obtain rfl : k = L.length := by omega
   have hd : ¬ (L.length : Int) < (L.length : Int) := by omega
   have hBr := HB5.out.trans (HB.out.mono HB5.out.size)
   have hPr := HP5.out.below HB.out
   obtain ⟨k0, kb⟩ := HX.out _ hBr
   have z0 := k0.cell 0
   have z1 := k0.cell 1
   have cW := cV q qc P wr hBr hPr (by have := HPL.out; unfold maxLen; omega)
   rw [HS3.out, diff_zero] at cW
   simp only at cW
   clear k0 hPr cV
   by_cases hz : x2 = 0
   ·subst hz
    have hbm : sps P = sps M := by rw [HS3.out]; exact (diff_same 0 b (sps M)).1 (by rw [hX.out])
    have HBM := hid hbm
    clear hbm
    go_wp2_with (first
     | ((go_at_call 15; ((with_reducible refine cW.mono ?_); rintro e w6 ⟨rfl, hb6⟩; have hB6 := hBr.trans (hb6.mono hBr.size); obtain ⟨k0, kb⟩ := HX.out _ hB6; have z0 := k0.cell 0; have z1 := k0.cell 1; clear k0; have cW2 := cY _ hB6; clear cW)))
     | ((go_at_call 15; ((with_reducible refine cW2.mono ?_); rintro e w7 ⟨rfl, hb7⟩; have hB7 := hB6.trans (hb7.mono hB6.size); obtain ⟨k0, kb⟩ := HX.out _ hB7; have z0 := k0.cell 0; have z1 := k0.cell 1; clear k0; have HP7 := hid (HP5.out.below (HB.out.trans ((hb6.trans (hb7.mono hb6.size)).mono HB.out.size))); have HM7 := hid (HMM.out.below hB7))))
     | ((go_at_call 14; ((with_reducible refine (step.refSameList_any q qc P ba bc M _ HP7.out HM7.out (by have := HPL.out; unfold maxLen; omega) (by have := HML.out; unfold maxLen; omega)).mono ?_); unfold Gives; rw [decide_eq_true HBM.out]; rintro e w8 ⟨rfl, hb8⟩; have hB8 := hB7.trans (hb8.mono hB7.size))))
     | (go_at_call 8; ((with_reducible refine (cA _).mono ?_); rintro e w9 ⟨rfl, hb9⟩)))
    go_ret
    exact ⟨rfl, (HX.out _ (hB8.trans (hb9.mono hB8.size))).2⟩
   ·have h18 : x2 = 18 := diff_18 hX.out hz
    have hbm : ¬ sps P = sps M := fun e => hz (by have := (diff_same 0 b (sps M)).2 (by rw [← HS3.out]; exact e); rw [hX.out] at this; exact this)
    subst h18
    have HBM := hid hbm
    clear hbm hz
    go_wp2_with (first
     | ((go_at_call 15; ((with_reducible refine cW.mono ?_); rintro e w6 ⟨rfl, hb6⟩; have hB6 := hBr.trans (hb6.mono hBr.size); obtain ⟨k0, kb⟩ := HX.out _ hB6; have z0 := k0.cell 0; have z1 := k0.cell 1; clear k0; have cW2 := cY _ hB6; clear cW)))
     | ((go_at_call 15; ((with_reducible refine cW2.mono ?_); rintro e w7 ⟨rfl, hb7⟩; have hB7 := hB6.trans (hb7.mono hB6.size); obtain ⟨k0, kb⟩ := HX.out _ hB7; have z0 := k0.cell 0; have z1 := k0.cell 1; clear k0; have HP7 := hid (HP5.out.below (HB.out.trans ((hb6.trans (hb7.mono hb6.size)).mono HB.out.size))); have HM7 := hid (HMM.out.below hB7))))
     | ((go_at_call 14; ((with_reducible refine (step.refSameList_any q qc P ba bc M _ HP7.out HM7.out (by have := HPL.out; unfold maxLen; omega) (by have := HML.out; unfold maxLen; omega)).mono ?_); unfold Gives; rw [decide_eq_false HBM.out]; rintro e w8 ⟨rfl, hb8⟩; have hB8 := hB7.trans (hb8.mono hB7.size))))
     | (go_at_call 8; ((with_reducible refine (cA _).mono ?_); rintro e w9 ⟨rfl, hb9⟩)))
    go_ret
    exact ⟨rfl, (HX.out _ (hB8.trans (hb9.mono hB8.size))).2⟩
theorem walk0 (v : Int) (sa : Option Addr) (sc : Nat) (F : List Fm) (la : Option Addr) (lc : Nat) (L : List St) (ba : Option Addr) (bc : Nat) (M : List St) (w : World) (h : FmL w sa F) (hF : F.length ≤ maxLen) (hl : StL w la L) (hL : L.length ≤ maxLen) (hm : StL w ba M) (hM : M.length ≤ maxLen) : Calls Tryz.prog 5 #[zS v sa F.length sc, .slice la L.length lc, .slice ba M.length bc] w (Yes w) := by
 cases hg : (greatB (forms F) || decide (GreatL (sps L)))
 ·cases hg2 : decide (GreatL (sps M))
  ·by_cases h0 : (all 0 v (forms F) (sps L)).2.2.2 = 0
   ·exact walk4 v sa sc F la lc L ba bc M w h hF hl hL hm hM hg hg2 h0
   ·exact walk3 v sa sc F la lc L ba bc M w h hF hl hL hm hM hg hg2 h0
  ·exact walk2 v sa sc F la lc L ba bc M w h hF hl hL hm hM hg hg2
 ·exact walk1 v sa sc F la lc L ba bc M w h hF hl hL hm hM hg
theorem walk (p : Sc) (a : Option Addr) (cap : Nat) (L : List St) (b : Option Addr) (cap2 : Nat) (M : List St) (w : World) (hp : p.Good w) (hs : step.Sts w a L) (hg : ∀ q ∈ L, q.Good w) (hl : L.length ≤ cap) (hm : cap ≤ maxLen) (hs2 : step.Sts w b M) (hg2 : ∀ q ∈ M, q.Good w) (hl2 : M.length ≤ cap2) (hm2 : cap2 ≤ maxLen) : Calls Tryz.prog 5 #[p.val, .slice a L.length cap, .slice b M.length cap2] w (Yes w) :=
 walk0 p.ver p.f p.fCap p.fL a cap L b cap2 M w ⟨hp.rf, fun y hy => (hp.mf y hy).ok⟩ (Nat.le_trans hp.cf hp.df) ⟨hs, fun q hq => (hg q hq).lists⟩ (Nat.le_trans hl hm) ⟨hs2, fun q hq => (hg2 q hq).lists⟩ (Nat.le_trans hl2 hm2)
end Go.Proofs.YtaciegkblklokaaGreat.pairBack
namespace Go.Proofs.YtaciegkblklokaaGreat.pairBack
open Go.ChangeShapes Go.WideShapes Go.ChangeAt Go.RowKit Go.Proofs.YtaciegkblklokaaGreat.schema Go.Proofs.YtaciegkblklokaaGreat.step
open Go.ChangeMaps (open_string shut_string)
set_option maxRecDepth 100000 in
theorem lifted (os : Os) (started : os.Started) (H : Type) (enc : TypeId × Value → H) :
  ReturnsInHanded {} Tryz.checked os 5 .any (Rows.pairBackSpec.pre6 enc Tryz.prog Tryz.f5 Rows.pairBackRow.domain false) (Rows.pairBackSpec.post enc Tryz.prog Tryz.f5 false true false false) := by
 refine returnsInHanded_of_change_sized (C := Tryz.checked) own started (by kernel_rfl) Tryz.func5
  (ChangeSpec.witness6 (enc := enc) (C := Tryz.checked) false ⟨#[], #[.agg #[.int .i64 0, .slice none 0 0], .slice none 0 0, .slice none 0 0], []⟩ 8 (by kernel_rfl) (by kernel_rfl) (by kernel_rfl) (by kernel_rfl)) ?_
 intro W base args ds gs before hval0 hW hcnd hsz0 _
 have hsz : (DataW.weightsEach Tryz.prog (Tryz.f5.params.toList ++ Rows.pairBackSpec.plain.varTypes Tryz.prog) (ds ++ gs)).all (· ≤ reachBytes) = true := hsz0
 clear hsz0
 have hval : ∀ (j : Nat) t v, Tryz.f5.params[j]? = some t → args[j]? = some v → Value.okWide Tryz.prog W .any base t v := hval0
 have hW' := hW
 obtain ⟨p, q, hA0, hV, rfl, hfz, hnd⟩ := hW
 have hA : DataW.TrodAll enc Tryz.prog W 0 (fun _ => true) true Tryz.f5.params.toList args.toList ds p := hA0
 rw [Tryz.params5] at hA hval hsz
 obtain ⟨v0, vs0, d0, ds0, p0, q0, hargs, rfl, rfl, h0, r0⟩ := trodAll_cons hA
 obtain ⟨v1, vs1, d1, ds1, p1, q1, rfl, rfl, rfl, h1, r1⟩ := trodAll_cons r0
 obtain ⟨v2, vs2, d2, ds2, p2, q2, rfl, rfl, rfl, h2, r2⟩ := trodAll_cons r1
 obtain ⟨rfl, rfl, rfl⟩ := trodAll_nil r2
 obtain rfl : args = #[v0, v1, v2] := by cases args; simp_all
 obtain ⟨rfl, rfl⟩ := trodVars_none hV
 have k0 := h0
 have lt0 : ∀ x ∈ p0, x.block < W.heap.size := by obtain ⟨m, hm⟩ := k0; exact DataW.trod_lt m _ _ _ hm
 obtain ⟨pc0, fp0, rfl⟩ := open_Sc_arg Tryz.underlying24 Go.Proofs.YtaciegkblklokaaGreat.schema.fmRow (hval 0 24 v0 rfl rfl) h0
 obtain ⟨a1, len1, cap1, rfl⟩ := okWide_slice Tryz.underlying33 (hval 1 33 v1 rfl rfl)
 have k1 := h1
 have lt1 : ∀ x ∈ p1, x.block < W.heap.size := by obtain ⟨m, hm⟩ := k1; exact DataW.trod_lt m _ _ _ hm
 obtain ⟨l1, rfl, ac1, fp1, lc1, cm1⟩ := open_Sts Tryz.underlying33 Go.Proofs.YtaciegkblklokaaGreat.step.stType h1
 obtain ⟨a2, len2, cap2, rfl⟩ := okWide_slice Tryz.underlying33 (hval 2 33 v2 rfl rfl)
 have k2 := h2
 have lt2 : ∀ x ∈ p2, x.block < W.heap.size := by obtain ⟨m, hm⟩ := k2; exact DataW.trod_lt m _ _ _ hm
 obtain ⟨l2, rfl, ac2, fp2, lc2, cm2⟩ := open_Sts Tryz.underlying33 Go.Proofs.YtaciegkblklokaaGreat.step.stType h2
 clear hA0 hval0
 refine (walk pc0 a1 cap1 l1 a2 cap2 l2 W fp0 ac1 fp1 lc1 cm1 ac2 fp2 lc2 cm2).mono fun e W' ⟨he, bel⟩ => ?_
 subst he
 exact ⟨_, rfl, _, _, _, [], _, [], hW', trodAll_mk1 (shut_bool Tryz.underlying4 _), (trodAll_cons_mk (Below.trod laidOut (by kernel_rfl) (of_decide_eq_true (by kernel_rfl)) k0 bel lt0) (trodAll_cons_mk (Below.trod laidOut (by kernel_rfl) (of_decide_eq_true (by kernel_rfl)) k1 bel lt1) (trodAll_cons_mk (Below.trod laidOut (by kernel_rfl) (of_decide_eq_true (by kernel_rfl)) k2 bel lt2) trodAll_mk0))), rfl, bel.frame _, fun h => by cases h⟩
theorem holds : Rows.PairBackSaid :=
 OpenClaim.holds_of_wide 5 Tryz.f5 rfl rfl rfl rfl rfl rfl rfl ⟨rfl, rfl, rfl, rfl, rfl⟩ rfl rfl rfl rfl rfl (by kernel_rfl) Tryz.func5 (by kernel_rfl)
  (of_decide_eq_true (by kernel_rfl)) (by unfold Func.isWrapper; first | (rw [if_pos (by decide +kernel)]; kernel_rfl) | (rw [if_neg (by decide +kernel)]; exact ⟨rfl, rfl⟩))
  (fun os started H enc _ => lifted os started H enc)
#print axioms holds
end Go.Proofs.YtaciegkblklokaaGreat.pairBack
