/- Contracts and lemmas that the claims of this seat share: PairRefInv, PairRefInvert, StepGreat, StepRange. Each says its own conditions. -/
import Derived.Test.YtaciegkblklokaaGreatCmP
import Derived.Test.YtaciegkblklokaaGreatCmL
import Derived.Test.YtaciegkblklokaaGreatCmX
import Derived.Test.YtaciegkblklokaaGreatCmS
import Derived.Test.YtaciegkblklokaaGreatCmO
import Derived.Test.YtaciegkblklokaaGreatCmV
set_option linter.unusedVariables false
namespace Go.Proofs.YtaciegkblklokaaGreat.pair
open Go.RowKit Go.Proofs.YtaciegkblklokaaGreat.schema Go.Proofs.YtaciegkblklokaaGreat.typing
open Go.Proofs.YtaciegkblklokaaGreat.field (Gives newB)
open Go.Proofs.YtaciegkblklokaaGreat.step (Sp St Lists OwnS intV Z16 st_fd st_int spC)
theorem res_set {w w8 : World} {b : Nat} {X : List Value} (h : Block w b 32 Z16) (hw : Hid (w.setCells b 0 X = w8)) (hX : X.length = 16 := by rfl) : Block w8 b 32 X := by
 have := h.setCells (vs := X) (o := 0)
 rw [put_all _ _ (by rw [hX]; rfl)] at this
 rw [← hw.out]
 exact this
set_option maxRecDepth 20000 in
set_option maxHeartbeats 3200000 in
theorem refInv_0 (v : Int) (a : Option Addr) (cc : Nat) (F : List Fm) (s : Sp) (ta : Option Addr) (tc : Nat) (la : Option Addr) (lc : Nat) (w : World) (h : FmL w a F) (hF : Small w F) (hl : Lists w s ta la) (ht : s.t.length ≤ 1000000) (hL : s.l.length ≤ 40) (h0 : ¬ (on v (forms F) s).2.2 = 0) :
  Calls Tryz.prog 10 #[zS v a F.length cc, zP s ta tc la lc] w (InvertAs (Sp.zero, (on v (forms F) s).2.2) w) := by
 obtain ⟨W3, HW3, hbw, hsz3, HX⟩ := inv_boxes v a cc F s ta tc la lc w
 have cO := refOn_any v a cc F s ta tc la lc W3 (h.below hbw) (hF.below hbw) (hl.below hbw) hL
 rw [← HW3.out] at cO
 generalize on v (forms F) s = r at *
 obtain ⟨v2, P, n⟩ := r
 simp only at h0 ⊢
 have hne : (((n : Nat) : Int) != 0) = true := by simpa using h0
 unfold OnR at cO
 unfold InvertAs
 have HIG : Hid ((Tryz.prog.info? 32).map (·.size) = some (zZ : Array Value).size) := hid info_st.out
 have HON : Hid ((zZ : Array Value).all (·.oneCell') = true) := hid (one_16 Sp.zero _ _ rfl rfl)
 clear h hF hl hL hbw hsz3 ht
 go_enter Tryz.func10, Tryz.ntmps10
 go_wp2_with (first
  | (go_at_call 21; ((with_reducible refine cO.mono ?_); rintro e w5 ⟨x, xc, G, rfl, hG, hfo, hfar, hb5⟩; rw [HW3.out] at hb5; have hN := newB w5 (.cells (zS v2 x G.length xc) 24); have hb6 := hb5.trans (hN.mono hb5.size); obtain ⟨k0, k1, k2, kb⟩ := HX.out _ hb6; have y0 := k1.cell 0; have y1 := k1.cell 1; have K2 := hid k2; have KB := hid kb; have HTH : Hid ((w5.alloc (.cells (zS v2 x G.length xc) 24)).there (w.heap.size + 1 + 1) 0 (zZ : Array Value).size) := hid (k2.there 0 16 (Nat.le_refl _)); have HB6 := hid hb6; clear k0 k1 k2 kb hN hb5 hb6 hG hfo hfar cO))
  | (with_reducible refine wpList_store_named rfl 32 (.tmp 4) (.tmp 19) rfl (w.heap.size + 1 + 1) 0 zZ rfl rfl HTH.out HIG.out HON.out ?_))
 intro w8 hw8
 have hB := res_set K2.out hw8
 have hb8 : Below w.heap.size w w8 := by rw [← hw8.out]; exact below_setCells KB.out (by omega) _ _
 go_wp2
 refine bodyPost_ret (results_cell2 (b := w.heap.size + 1 + 1) (o := 0) rfl rfl hB.whole Tryz.underlying32 rfl info_st.out) rfl ?_
 exact ⟨none, 0, none, 0, rfl, OwnS.nil _ _ _ rfl rfl, hb8⟩
set_option maxRecDepth 20000 in
set_option maxHeartbeats 3200000 in
theorem refInv_9 (v : Int) (a : Option Addr) (cc : Nat) (F : List Fm) (s : Sp) (ta : Option Addr) (tc : Nat) (la : Option Addr) (lc : Nat) (w : World) (h : FmL w a F) (hF : Small w F) (hl : Lists w s ta la) (ht : s.t.length ≤ 1000000) (hL : s.l.length ≤ 40) (h0 : (on v (forms F) s).2.2 = 0) (hop : s.op = 9) :
  Calls Tryz.prog 10 #[zS v a F.length cc, zP s ta tc la lc] w (InvertAs (⟨29, s.fm, 0, 0, 0, 0, 0, step.fd0, step.va0, [], []⟩, 0) w) := by
 obtain ⟨W3, HW3, hbw, hsz3, HX⟩ := inv_boxes v a cc F s ta tc la lc w
 have cO := refOn_any v a cc F s ta tc la lc W3 (h.below hbw) (hF.below hbw) (hl.below hbw) hL
 rw [← HW3.out] at cO
 generalize on v (forms F) s = r at *
 obtain ⟨v2, P, n⟩ := r
 simp only at h0 ⊢
 subst h0
 have d9 : (s.op == 9) = true := by simp [hop]
 unfold OnR at cO
 unfold InvertAs
 have HIG : Hid ((Tryz.prog.info? 32).map (·.size) = some (#[.int .i64 29, .int .i64 s.fm, .int .i64 0, .int .i64 0, .int .i64 0, .int .i64 0, .int .i64 0, .int .i64 0, .int .i64 0, .int .i64 0, .int .i64 0, .int .i64 0, .int .i64 0, .string ⟨#[]⟩, .slice none 0 0, .slice none 0 0] : Array Value).size) := hid info_st.out
 have HON : Hid ((#[.int .i64 29, .int .i64 s.fm, .int .i64 0, .int .i64 0, .int .i64 0, .int .i64 0, .int .i64 0, .int .i64 0, .int .i64 0, .int .i64 0, .int .i64 0, .int .i64 0, .int .i64 0, .string ⟨#[]⟩, .slice none 0 0, .slice none 0 0] : Array Value).all (·.oneCell') = true) := hid (one_16 ⟨29, s.fm, 0, 0, 0, 0, 0, step.fd0, step.va0, [], []⟩ _ _ rfl rfl)
 clear h hF hl hL hbw hsz3 ht hop
 go_enter Tryz.func10, Tryz.ntmps10
 go_wp2_with (first
  | (go_at_call 21; ((with_reducible refine cO.mono ?_); rintro e w5 ⟨x, xc, G, rfl, hG, hfo, hfar, hb5⟩; rw [HW3.out] at hb5; have hN := newB w5 (.cells (zS v2 x G.length xc) 24); have hb6 := hb5.trans (hN.mono hb5.size); obtain ⟨k0, k1, k2, kb⟩ := HX.out _ hb6; have y0 := k1.cell 0; have y1 := k1.cell 1; have K2 := hid k2; have KB := hid kb; have HTH : Hid ((w5.alloc (.cells (zS v2 x G.length xc) 24)).there (w.heap.size + 1 + 1) 0 (#[.int .i64 29, .int .i64 s.fm, .int .i64 0, .int .i64 0, .int .i64 0, .int .i64 0, .int .i64 0, .int .i64 0, .int .i64 0, .int .i64 0, .int .i64 0, .int .i64 0, .int .i64 0, .string ⟨#[]⟩, .slice none 0 0, .slice none 0 0] : Array Value).size) := hid (k2.there 0 16 (Nat.le_refl _)); have HB6 := hid hb6; clear k0 k1 k2 kb hN hb5 hb6 hG hfo hfar cO))
  | (with_reducible refine wpList_store_named rfl 32 (.tmp 4) (.tmp 26) rfl (w.heap.size + 1 + 1) 0 #[.int .i64 29, .int .i64 s.fm, .int .i64 0, .int .i64 0, .int .i64 0, .int .i64 0, .int .i64 0, .int .i64 0, .int .i64 0, .int .i64 0, .int .i64 0, .int .i64 0, .int .i64 0, .string ⟨#[]⟩, .slice none 0 0, .slice none 0 0] rfl rfl HTH.out HIG.out HON.out ?_))
 intro w8 hw8
 have hB := res_set K2.out hw8
 have hb8 : Below w.heap.size w w8 := by rw [← hw8.out]; exact below_setCells KB.out (by omega) _ _
 go_wp2
 refine bodyPost_ret (results_cell2 (b := w.heap.size + 1 + 1) (o := 0) rfl rfl hB.whole Tryz.underlying32 rfl info_st.out) rfl ?_
 exact ⟨none, 0, none, 0, rfl, OwnS.nil _ _ _ rfl rfl, hb8⟩
set_option maxRecDepth 20000 in
set_option maxHeartbeats 64000000 in
theorem refInv_x (v : Int) (a : Option Addr) (cc : Nat) (F : List Fm) (s : Sp) (ta : Option Addr) (tc : Nat) (la : Option Addr) (lc : Nat) (w : World) (h : FmL w a F) (hF : Small w F) (hl : Lists w s ta la) (ht : s.t.length ≤ 1000000) (hL : s.l.length ≤ 40) (r : Sp) (c : Ch) (hc : c = begin_ (forms F) s) (h0 : (on v (forms F) s).2.2 = 0) (hop : s.op = 10 ∨ s.op = 1 ∨ s.op = 2 ∨ s.op = 3 ∨ s.op = 4 ∨ s.op = 5 ∨ s.op = 6 ∨ s.op = 7 ∨ s.op = 8) (hkn : c.kn = true) (hatf : s.op ≠ 1 → s.op ≠ 10 → 0 ≤ c.at_) (r10 : s.op = 10 → r = ⟨30, s.fm, 0, 0, 0, 0, 0, step.fd0, step.va0, [], c.L⟩) (r1 : s.op = 1 → r = ⟨21, s.fm, s.f.id, 0, 0, 0, 0, step.fd0, step.va0, [], []⟩) (r2 : s.op = 2 → r = ⟨22, s.fm, 0, c.at_, 0, 0, 0, c.old, s.v, [], []⟩) (r3 : s.op = 3 → r = ⟨23, s.fm, s.fd, 0, 0, 0, 0, c.old, step.va0, [], []⟩) (r4 : s.op = 4 → r = ⟨24, s.fm, s.fd, 0, 0, s.a, s.b, c.old, step.va0, [], []⟩) (r5 : s.op = 5 → r = ⟨25, s.fm, s.fd, 0, 0, 0, 0, step.fd0, step.va0, s.t, []⟩) (r6 : s.op = 6 → r = ⟨26, s.fm, s.fd, 0, s.tt, s.a, 0, c.old, step.va0, [], []⟩) (r7 : s.op = 7 → r = ⟨27, s.fm, s.fd, c.at_, 0, 0, 0, step.fd0, step.va0, [], []⟩) (r8 : s.op = 8 → r = ⟨28, s.fm, s.tt, 0, s.fd, 0, 0, step.fd0, step.va0, [], []⟩) :
  Calls Tryz.prog 10 #[zS v a F.length cc, zP s ta tc la lc] w (InvertAs (r, 0) w) := by
 rcases named_at (forms F) s.fm with ⟨hnn, _⟩ | ⟨pf, j, hnn, hx, hj⟩
 ·exfalso
  have : c = ⟨s, 0, [], false, -1, step.fd0⟩ := by rw [hc]; unfold begin_; rw [hnn]
  rw [this] at hkn
  cases hkn
 have hcL : c.L = pf.2 := by rw [hc]; unfold begin_; rw [hnn]
 have hjl : j < F.length := by have := (List.getElem?_eq_some_iff.1 hj).1; rwa [forms_length] at this
 obtain ⟨b, off, q, rfl, hbl, hq, _, _, _, _⟩ := form_at h (Below.refl _ _) hjl
 have hqf : q.fL = c.L := by
  have h1 := forms_at hq
  rw [hj] at h1
  have h2 := Option.some.inj h1
  rw [hcL, h2]; rfl
 have HIX : Hid (firstAt (fids F) s.fm = (j : Int)) := hid (by rw [fids_forms]; exact hx)
 have HJL := hid hjl
 have HAT : Hid (c.at_ = firstAt (ids c.L) s.fd) := by have := (begin_at (forms F) s).1; rw [← hc] at this; exact hid this
 have HOLD : Hid (c.old = oldAt c.L c.at_) := by have := (begin_at (forms F) s).2; rw [← hc] at this; exact hid this
 have hln : c.L.length ≤ 40 := by have := begin_len hF s; rwa [← hc] at this
 have HLN := hid hln
 have HQL : Hid (q.fL.length ≤ maxLen) := hid (by rw [hqf]; unfold maxLen; omega)
 have HQF := hid hqf
 have HMX : Hid (F.length ≤ maxLen) := hid (by have := hF.1; unfold maxLen; omega)
 have HFM0 : Hid (∀ w', Below w.heap.size w w' → FmL w' (some ⟨b, off, none⟩) F) := hid (fun w' hb => h.below hb)
 have HFQ : Hid (∀ w', FmL w' (some ⟨b, off, none⟩) F → w'.rangeAt b (off + j * 2) (zS q.id q.f q.fL.length q.fCap) ∧ field.Fds w' q.f q.fL) := hid (fun w' hw => by
  obtain ⟨b', off', q', hab, _, hq', c0, c1, hf', _⟩ := form_at hw (Below.refl _ _) HJL.out
  obtain ⟨rfl, rfl⟩ : b = b' ∧ off = off' := by cases hab; exact ⟨rfl, rfl⟩
  obtain rfl : q = q' := by rw [hq] at hq'; exact Option.some.inj hq'
  refine ⟨fun i x hi => ?_, hf'⟩
  match i, hi with
  | 0, hi => cases hi; exact c0
  | 1, hi => cases hi; exact c1)
 obtain ⟨W3, HW3, hbw, hsz3, HX⟩ := inv_boxes v (some ⟨b, off, none⟩) cc F s ta tc la lc w
 have cO := refOn_any v (some ⟨b, off, none⟩) cc F s ta tc la lc W3 (h.below hbw) (hF.below hbw) (hl.below hbw) hL
 rw [← HW3.out] at cO
 have HLW := hid hl
 have HTL := hid ht
 have HSZ := hid hsz3
 generalize on v (forms F) s = rr at *
 obtain ⟨v2, P, n⟩ := rr
 simp only at h0 ⊢
 subst h0
 have d9 : (s.op == 9) = false := by rw [beq_eq_false_iff_ne]; omega
 have HOP := hid hop
 have HATF := hid hatf
 have HR10 := hid r10
 have HR1 := hid r1
 have HR2 := hid r2
 have HR3 := hid r3
 have HR4 := hid r4
 have HR5 := hid r5
 have HR6 := hid r6
 have HR7 := hid r7
 have HR8 := hid r8
 unfold OnR at cO
 unfold InvertAs
 clear h hF hl hL hbw hsz3 ht hc hop hkn hatf hnn hx hj hjl hbl hq hqf hcL hln r10 r1 r2 r3 r4 r5 r6 r7 r8
 go_enter Tryz.func10, Tryz.ntmps10
 go_wp2_with (first
  | (go_at_call 21; ((with_reducible refine cO.mono ?_); rintro e w5 ⟨x, xc, G, rfl, hG, hfo, hfar, hb5⟩; rw [HW3.out] at hb5; have hN := newB w5 (.cells (zS v2 x G.length xc) 24); have hb6 := hb5.trans (hN.mono hb5.size); obtain ⟨k0, k1, k2, kb⟩ := HX.out _ hb6; have y0 := k1.cell 0; have y1 := k1.cell 1; have K2 := hid k2; have KB := hid kb; have HB6 := hid hb6; clear k0 k1 k2 kb hN hb5 hb6 hG hfo hfar cO)))
 obtain ⟨W4, hW4⟩ : ∃ z, Hid ((w5.alloc (.cells (zS v2 x G.length xc) 24)) = z) := ⟨_, hid rfl⟩
 rw [hW4.out] at HB6 ⊢
 have HC : Hid (∀ w', Below W4.heap.size W4 w' → Block w' w.heap.size 24 (zS v (some ⟨b, off, none⟩) F.length cc) ∧ Block w' (w.heap.size + 1) 32 (zP s ta tc la lc) ∧ Block w' (w.heap.size + 1 + 1) 32 Z16 ∧ Below w.heap.size w w' ∧ w'.rangeAt b (off + j * 2) (zS q.id q.f q.fL.length q.fCap) ∧ field.Fds w' q.f q.fL ∧ FmL w' (some ⟨b, off, none⟩) F ∧ Lists w' s ta la) := hid (fun w' hb => by
  obtain ⟨k0, k1, k2, kb⟩ := HX.out w' (HB6.out.trans (hb.mono HB6.out.size))
  exact ⟨k0, k1, k2, kb, (HFQ.out _ (HFM0.out _ kb)).1, (HFQ.out _ (HFM0.out _ kb)).2, HFM0.out _ kb, HLW.out.below kb⟩)
 have HZ4 : Hid (w.heap.size + 3 ≤ W4.heap.size) := hid (by have := HB6.out.size; have := HSZ.out; omega)
 clear hW4 HX HW3 HB6 K2 KB HFM0 HFQ y0 y1
 refine plan.cont (F := fun (g : Nat) (w' : World) => Below W4.heap.size W4 w' ∧ Block w' g 58 (zS q.id q.f q.fL.length q.fCap) ∧ W4.heap.size ≤ g) (R := ?R) ?h1 ?h2
 case h1 =>
  intro CONT
  have cFind := fun (w' : World) (hb : Below W4.heap.size W4 w') => refFind_any v (some ⟨b, off, none⟩) cc F s.fm w' (HC.out _ hb).2.2.2.2.2.2.1 HMX.out
  unfold Gives at cFind
  rw [HIX.out] at cFind
  refine plan.regionS (S := fun w' => Below W4.heap.size W4 w') ?_
  have hS : Below W4.heap.size W4 W4.drew := below_drewN (Below.refl _ _) 1
  obtain ⟨wd, hwd⟩ : ∃ z, Hid (W4.drew = z) := ⟨_, hid rfl⟩
  rw [hwd.out] at hS ⊢
  clear hwd
  refine plan.firstS 0 _ (.pointer (some ⟨w.heap.size, 1, none⟩)) rfl (fun w' hS' => (by kernel_rfl)) hS ?_
  refine plan.firstS 1 _ (.slice (some ⟨b, off, none⟩) F.length cc) rfl (fun w' hS' => exec_cell_slice (ad := ⟨w.heap.size, 1, none⟩) rfl ((HC.out _ hS').1.cell 1) Tryz.isAgg22) hS ?_
  refine plan.firstS 2 _ (zS v (some ⟨b, off, none⟩) F.length cc) rfl (fun w' hS' => exec_load_at (b := w.heap.size) (off := 0) rfl (HC.out _ hS').1.whole Tryz.underlying24 rfl info_sc.out) hS ?_
  refine plan.firstS 3 _ (.pointer (some ⟨w.heap.size + 1, 1, none⟩)) rfl (fun w' hS' => (by kernel_rfl)) hS ?_
  refine plan.firstS 4 _ (.int .i64 s.fm) rfl (fun w' hS' => exec_cell_int (ad := ⟨w.heap.size + 1, 1, none⟩) rfl (by kernel_rfl) ((HC.out _ hS').2.1.cell 1) Tryz.isAgg3) hS ?_
  refine typing.bothS 5 8 ?_ ?_
  ·refine ⟨_, rfl, rfl, .inr ⟨22, #[zS v (some ⟨b, off, none⟩) F.length cc, .int .i64 s.fm], (by kernel_rfl), (cFind wd hS).mono ?_⟩⟩
   rintro e w6 ⟨rfl, hb6⟩
   have hS6 : Below W4.heap.size W4 w6 := hS.trans (hb6.mono hS.size)
   refine ⟨_, rfl, hS6, ?_⟩
   refine plan.firstS 6 _ (.pointer (some ⟨b, off + j * 2, none⟩)) rfl (fun w' hS' => exec_indexM' (b := b) (off := off) (len := F.length) (cap := cc) (i := j) rfl HJL.out) hS6 ?_
   refine plan.firstS 7 _ (zS q.id q.f q.fL.length q.fCap) rfl (fun w' hS' => exec_load_at (b := b) (off := off + j * 2) rfl (HC.out _ hS').2.2.2.2.1 Tryz.underlying58 rfl info_fm.out) hS6 ?_
   have hS8 : Below W4.heap.size W4 (w6.alloc (.cells #[.int .i64 0, .slice none 0 0] 58)) := hS6.alloc hS6.size _
   have hZ : Block (w6.alloc (.cells #[.int .i64 0, .slice none 0 0] 58)) w6.heap.size 58 [.int .i64 0, .slice none 0 0] := Block.new w6 58 [.int .i64 0, .slice none 0 0]
   have hg8 : W4.heap.size ≤ w6.heap.size := hS6.size
   refine plan.oneS (w1 := w6.alloc (.cells #[.int .i64 0, .slice none 0 0] 58)) 8 _ (.pointer (some ⟨w6.heap.size, 0, none⟩)) rfl rfl hS8 ?_
   obtain ⟨w7, hw7⟩ : ∃ z, Hid (w6.alloc (.cells #[.int .i64 0, .slice none 0 0] 58) = z) := ⟨_, hid rfl⟩
   obtain ⟨g, hg⟩ : ∃ z, Hid (w6.heap.size = z) := ⟨_, hid rfl⟩
   rw [hw7.out] at hS8 hZ ⊢
   rw [hg.out] at hZ hg8 ⊢
   clear hw7 hg hS6 hb6
   have hZW : Block (w7.setCells g 0 (zS q.id q.f q.fL.length q.fCap)) g 58 (zS q.id q.f q.fL.length q.fCap) := by have := hZ.setCells (vs := (zS q.id q.f q.fL.length q.fCap)) (o := 0); rwa [put_all _ _ (by rfl)] at this
   refine plan.lastS (w1 := w7.setCells g 0 (zS q.id q.f q.fL.length q.fCap)) 9 _ rfl rfl rfl (plan.exec_store_all (cells := (zS q.id q.f q.fL.length q.fCap)) rfl hZ rfl info_fm.out (by simp [Value.oneCell'])) (below_setCells hS8 hg8 0 _) ?_
   walk_nrm
   exact CONT g _ ⟨below_setCells hS8 hg8 0 _, hZW, hg8⟩
  ·refine ⟨_, rfl, rfl, .inl ⟨.pointer (some ⟨wd.heap.size, 0, none⟩), wd.alloc (.cells #[.int .i64 0, .slice none 0 0] 58), (by kernel_rfl), (hS.alloc hS.size _), ?_⟩⟩
   have hSa : Below W4.heap.size W4 (wd.alloc (.cells #[.int .i64 0, .slice none 0 0] 58)) := hS.alloc hS.size _
   have hZ0 : Block (wd.alloc (.cells #[.int .i64 0, .slice none 0 0] 58)) wd.heap.size 58 [.int .i64 0, .slice none 0 0] := Block.new wd 58 [.int .i64 0, .slice none 0 0]
   have hg8 : W4.heap.size ≤ wd.heap.size := hS.size
   obtain ⟨wa, hwa⟩ : ∃ z, Hid (wd.alloc (.cells #[.int .i64 0, .slice none 0 0] 58) = z) := ⟨_, hid rfl⟩
   obtain ⟨g, hg⟩ : ∃ z, Hid (wd.heap.size = z) := ⟨_, hid rfl⟩
   rw [hwa.out] at hSa hZ0 ⊢
   rw [hg.out] at hZ0 hg8 ⊢
   refine plan.callS 5 _ 22 #[zS v (some ⟨b, off, none⟩) F.length cc, .int .i64 s.fm] rfl ((cFind wa hSa).mono ?_)
   rintro e w6 ⟨rfl, hb6⟩
   have hS8 : Below W4.heap.size W4 w6 := hSa.trans (hb6.mono hSa.size)
   have hZ := hZ0.later hb6
   refine ⟨_, rfl, hS8, ?_⟩
   clear hwa hg hZ0 hSa hb6
   refine plan.firstS 6 _ (.pointer (some ⟨b, off + j * 2, none⟩)) rfl (fun w' hS' => exec_indexM' (b := b) (off := off) (len := F.length) (cap := cc) (i := j) rfl HJL.out) hS8 ?_
   refine plan.firstS 7 _ (zS q.id q.f q.fL.length q.fCap) rfl (fun w' hS' => exec_load_at (b := b) (off := off + j * 2) rfl (HC.out _ hS').2.2.2.2.1 Tryz.underlying58 rfl info_fm.out) hS8 ?_
   have hZW : Block (w6.setCells g 0 (zS q.id q.f q.fL.length q.fCap)) g 58 (zS q.id q.f q.fL.length q.fCap) := by have := hZ.setCells (vs := (zS q.id q.f q.fL.length q.fCap)) (o := 0); rwa [put_all _ _ (by rfl)] at this
   refine plan.lastS (w1 := w6.setCells g 0 (zS q.id q.f q.fL.length q.fCap)) 9 _ rfl rfl rfl (plan.exec_store_all (cells := (zS q.id q.f q.fL.length q.fCap)) rfl hZ rfl info_fm.out (by simp [Value.oneCell'])) (below_setCells hS8 hg8 0 _) ?_
   walk_nrm
   exact CONT g _ ⟨below_setCells hS8 hg8 0 _, hZW, hg8⟩
 case h2 =>
  rintro g w7 ⟨hS7, hkf, hg7⟩
  obtain ⟨k0, k1, k2, kb, kr, kf, km, kl⟩ := HC.out _ hS7
  have f0 := hkf.cell 0
  have f1 := hkf.cell 1
  have y0 := k1.cell 0
  have y1 := k1.cell 1
  have y2 := k1.cell 2
  have y7 := k1.cell 7
  have K2 := hid k2
  have KB := hid kb
  have KF := hid hkf
  have HFD := hid kf
  have HS7 := hid hS7
  have hop := HOP.out
  clear k0 k1 k2 kb kr kf km kl hS7 hkf HOP
  by_cases e : s.op = 10
  ·
   have d10 : (s.op == 10) = true := by simp [e]
   obtain rfl := HR10.out e
   clear e hop
   go_wp2
   refine plan.regionS (S := fun w' => Block w' (w.heap.size + 1) 32 (zP s ta tc la lc) ∧ Block w' g 58 (zS q.id q.f q.fL.length q.fCap)) ?_
   have hD1 : Below W4.heap.size W4 w7.drew := below_drewN HS7.out 1
   have hKF : Block w7.drew g 58 (zS q.id q.f q.fL.length q.fCap) := KF.out.later (below_drewN (Below.refl _ _) 1)
   obtain ⟨wd, hwd⟩ : ∃ z, Hid (w7.drew = z) := ⟨_, hid rfl⟩
   rw [hwd.out] at hD1 hKF ⊢
   obtain ⟨k0, k1, k2, kb, kr, kf, km, kl⟩ := HC.out _ hD1
   have hS : Block wd (w.heap.size + 1) 32 (zP s ta tc la lc) ∧ Block wd g 58 (zS q.id q.f q.fL.length q.fCap) := ⟨k1, hKF⟩
   clear hwd
   refine plan.firstS 0 _ (.pointer (some ⟨w.heap.size + 1, 1, none⟩)) rfl (fun w' hS' => (by kernel_rfl)) hS ?_
   refine plan.firstS 1 _ (.int .i64 s.fm) rfl (fun w' hS' => exec_cell_int (ad := ⟨w.heap.size + 1, 1, none⟩) rfl (by kernel_rfl) (hS'.1.cell 1) Tryz.isAgg3) hS ?_
   refine plan.firstS 2 _ (.pointer (some ⟨g, 1, none⟩)) rfl (fun w' hS' => (by kernel_rfl)) hS ?_
   refine plan.firstS 3 _ (.slice q.f q.fL.length q.fCap) rfl (fun w' hS' => exec_cell_slice (ad := ⟨g, 1, none⟩) rfl (hS'.2.cell 1) Tryz.isAgg30) hS ?_
   have hql : q.fL.length ≤ 40 := by rw [HQF.out]; exact HLN.out
   obtain ⟨qv, w9, hrun, ho9, hg9⟩ := run_app (u := .slice none 0 0) (B := w.heap.size) (n := 0) (c := q.fCap) (xs := []) (World.ownsRow_nil _ _ _ _) (fdV_length q.fL) (fds_news kf) (fdV_one q.fL) (by omega) kb.size
   replace ho9 : w9.ownsRow w.heap.size 26 5 qv q.fL.length (fdV q.fL) := by simpa using ho9
   rw [HQF.out] at ho9
   obtain ⟨xa, xc, rfl, _⟩ := ownsRow_slice ho9
   have hb9 := grown_none hg9
   have hS9 : Block w9 (w.heap.size + 1) 32 (zP s ta tc la lc) ∧ Block w9 g 58 (zS q.id q.f q.fL.length q.fCap) := ⟨hS.1.later hb9, hS.2.later hb9⟩
   have hT9 := k2.later hb9
   have hB9 := kb.trans (hb9.mono kb.size)
   refine plan.oneS (w1 := w9) 4 _ (.slice xa c.L.length xc) rfl rfl (hv := (hrun _ _ _ _ rfl rfl (by kernel_rfl) (by kernel_rfl))) hS9 ?_
   clear hrun
   refine plan.firstS 5 _ (.agg #[.int .i64 30, .int .i64 s.fm, .int .i64 0, .int .i64 0, .int .i64 0, .int .i64 0, .int .i64 0, .int .i64 0, .int .i64 0, .int .i64 0, .int .i64 0, .int .i64 0, .int .i64 0, .string ⟨#[]⟩, .slice none 0 0, .slice xa c.L.length xc]) rfl (fun w' hS' => (by kernel_rfl)) hS9 ?_
   obtain ⟨w8, hw8⟩ : ∃ z, Hid (w9.setCells (w.heap.size + 1 + 1) 0 [.int .i64 30, .int .i64 s.fm, .int .i64 0, .int .i64 0, .int .i64 0, .int .i64 0, .int .i64 0, .int .i64 0, .int .i64 0, .int .i64 0, .int .i64 0, .int .i64 0, .int .i64 0, .string ⟨#[]⟩, .slice none 0 0, .slice xa c.L.length xc] = z) := ⟨_, hid rfl⟩
   have hne : g ≠ w.heap.size + 1 + 1 := by have := hg7; have := HZ4.out; omega
   have hS8 : Block w8 (w.heap.size + 1) 32 (zP s ta tc la lc) ∧ Block w8 g 58 (zS q.id q.f q.fL.length q.fCap) := by rw [← hw8.out]; exact ⟨hS9.1.aparts _ _ _ (by omega), hS9.2.aparts _ _ _ hne⟩
   refine plan.thenS (w1 := w8) 6 _ rfl rfl rfl (by rw [← hw8.out]; exact plan.exec_store_all (cells := #[.int .i64 30, .int .i64 s.fm, .int .i64 0, .int .i64 0, .int .i64 0, .int .i64 0, .int .i64 0, .int .i64 0, .int .i64 0, .int .i64 0, .int .i64 0, .int .i64 0, .int .i64 0, .string ⟨#[]⟩, .slice none 0 0, .slice xa c.L.length xc]) rfl hT9 rfl info_st.out (one_16 ⟨30, s.fm, 0, 0, 0, 0, 0, step.fd0, step.va0, [], c.L⟩ _ _ rfl rfl)) hS8 ?_
   refine plan.oneS (w1 := w8) 7 _ (.int .i64 0) rfl rfl hS8 ?_
   refine plan.doneS ?_
   have hB := res_set hT9 hw8
   have hb8 : Below w.heap.size w w8 := by rw [← hw8.out]; exact below_setCells hB9 (by omega) _ _
   have ho8 := (stay_cells 26 hT9 st_fd 0 [.int .i64 30, .int .i64 s.fm, .int .i64 0, .int .i64 0, .int .i64 0, .int .i64 0, .int .i64 0, .int .i64 0, .int .i64 0, .int .i64 0, .int .i64 0, .int .i64 0, .int .i64 0, .string ⟨#[]⟩, .slice none 0 0, .slice xa c.L.length xc]).row ho9
   rw [hw8.out] at ho8
   walk_nrm
   go_wp2
   refine bodyPost_ret (results_cell2 (b := w.heap.size + 1 + 1) (o := 0) rfl rfl hB.whole Tryz.underlying32 rfl info_st.out) rfl ?_
   exact ⟨none, 0, xa, xc, rfl, ⟨World.ownsRow_nil _ _ _ _, ho8⟩, hb8⟩
  have d10 : (s.op == 10) = false := by simpa using e
  by_cases e1 : s.op = 1
  ·
   have d1 : (s.op == 1) = true := by simp [e1]
   obtain rfl := HR1.out e1
   clear e e1 hop
   have HTH : Hid (w7.there (w.heap.size + 1 + 1) 0 (#[.int .i64 21, .int .i64 s.fm, .int .i64 s.f.id, .int .i64 0, .int .i64 0, .int .i64 0, .int .i64 0, .int .i64 0, .int .i64 0, .int .i64 0, .int .i64 0, .int .i64 0, .int .i64 0, .string ⟨#[]⟩, .slice none 0 0, .slice none 0 0] : Array Value).size) := hid (K2.out.there 0 16 (Nat.le_refl _))
   have HIG : Hid ((Tryz.prog.info? 32).map (·.size) = some (#[.int .i64 21, .int .i64 s.fm, .int .i64 s.f.id, .int .i64 0, .int .i64 0, .int .i64 0, .int .i64 0, .int .i64 0, .int .i64 0, .int .i64 0, .int .i64 0, .int .i64 0, .int .i64 0, .string ⟨#[]⟩, .slice none 0 0, .slice none 0 0] : Array Value).size) := hid info_st.out
   have HON : Hid ((#[.int .i64 21, .int .i64 s.fm, .int .i64 s.f.id, .int .i64 0, .int .i64 0, .int .i64 0, .int .i64 0, .int .i64 0, .int .i64 0, .int .i64 0, .int .i64 0, .int .i64 0, .int .i64 0, .string ⟨#[]⟩, .slice none 0 0, .slice none 0 0] : Array Value).all (·.oneCell') = true) := hid (one_16 ⟨21, s.fm, s.f.id, 0, 0, 0, 0, step.fd0, step.va0, [], []⟩ _ _ rfl rfl)
   go_wp2_with ((with_reducible refine wpList_store_named rfl 32 (.tmp 4) (.tmp 52) rfl (w.heap.size + 1 + 1) 0 #[.int .i64 21, .int .i64 s.fm, .int .i64 s.f.id, .int .i64 0, .int .i64 0, .int .i64 0, .int .i64 0, .int .i64 0, .int .i64 0, .int .i64 0, .int .i64 0, .int .i64 0, .int .i64 0, .string ⟨#[]⟩, .slice none 0 0, .slice none 0 0] rfl rfl HTH.out HIG.out HON.out ?_))
   intro w8 hw8
   have hB := res_set K2.out hw8
   have hb8 : Below w.heap.size w w8 := by rw [← hw8.out]; exact below_setCells KB.out (by omega) _ _
   go_wp2
   refine bodyPost_ret (results_cell2 (b := w.heap.size + 1 + 1) (o := 0) rfl rfl hB.whole Tryz.underlying32 rfl info_st.out) rfl ?_
   exact ⟨none, 0, none, 0, rfl, OwnS.nil _ _ _ rfl rfl, hb8⟩
  have d1 : (s.op == 1) = false := by simpa using e1
  have hat := HATF.out e1 e
  have cA := refAt_any q.id q.f q.fCap q.fL s.fd w7 HFD.out HQL.out
  unfold Gives at cA
  rw [show firstAt (ids q.fL) s.fd = c.at_ by rw [HQF.out]; exact HAT.out.symm] at cA
  have hal : c.at_ < q.fL.length := by have := HAT.out; rw [HQF.out]; rw [this] at hat ⊢; have := (firstAt_lt hat).1; rw [ids_length] at this; omega
  have HEQ : Hid (∀ p, q.fL[c.at_.toNat]? = some p → p = c.old) := hid (fun p hp => by rw [HQF.out] at hp; rw [HOLD.out]; unfold oldAt; rw [if_pos hat, List.getD_eq_getElem?_getD, hp]; rfl)
  have HAI : Hid (c.at_.toNat < q.fL.length) := hid (by omega)
  have HOP : Hid (s.op = 2 ∨ s.op = 3 ∨ s.op = 4 ∨ s.op = 5 ∨ s.op = 6 ∨ s.op = 7 ∨ s.op = 8) := hid (by omega)
  clear K2 KB hop e e1
  go_wp2_with (first
   | (go_at_call 23; ((with_reducible refine cA.mono ?_); rintro e w6 ⟨rfl, hb6⟩; have hS6 := HS7.out.trans (hb6.mono HS7.out.size); have hNO := newB w6 (.cells (zF c.old) 26); have e1 := (KF.out.later hb6).cell 1; obtain ⟨gb, go_, p, hqa, hgl, hp, p0, p1, p2, p3, p4⟩ := (HC.out _ hS6).2.2.2.2.2.1.at (i := c.at_.toNat) HAI.out; obtain rfl : p = c.old := HEQ.out p hp; rw [hqa] at e1; obtain ⟨k0, k1, k2, kb, kr, kf, km, kl⟩ := HC.out _ (hS6.trans (hNO.mono hS6.size)); have u0 := k1.cell 0; have HS9 := hid (hS6.trans (hNO.mono hS6.size)); clear k0 k1 k2 kb kr kf km kl hS6 hNO hp hb6 hqa))
   | (with_reducible refine plan.halt 3 3 63 (.int .i64 2) rfl ?_))
  obtain ⟨W6, hW6⟩ : ∃ z, Hid ((w6.alloc (.cells (zF c.old) 26)) = z) := ⟨_, hid rfl⟩
  have z0 : (w6.alloc (.cells (zF c.old) 26)).rangeAt w6.heap.size 0 (zF c.old) := (Block.new w6 26 (zF c.old)).whole
  rw [hW6.out] at HS9 z0 ⊢
  obtain ⟨k0, k1, k2, kb, kr, kf, km, kl⟩ := HC.out _ HS9.out
  have HOB := hid z0
  have K1 := hid k1
  have K2 := hid k2
  have KB := hid kb
  have hop := HOP.out
  clear z0 k0 k1 k2 kb kr kf km kl hW6 HOP u0 e1 p0 p1 p2 p3 p4 hgl f0 f1 y0 y1 y2 y7
  rcases hop with e | e | e | e | e | e | e
  ·
   have d2 : (s.op == 2) = true := by simp [e]
   obtain rfl := HR2.out e
   clear e
   refine hid ?_
   have u1 := K1.out.cell 1
   have u12 := K1.out.cell 12
   have u13 := K1.out.cell 13
   have HIF : Hid ((Tryz.prog.info? 26).map (·.size) = some ((zF c.old) : List Value).length) := hid info_fd.out
   have HTH : Hid (W6.there (w.heap.size + 1 + 1) 0 (#[.int .i64 22, .int .i64 s.fm, .int .i64 0, .int .i64 c.at_, .int .i64 0, .int .i64 0, .int .i64 0, .int .i64 c.old.id, .int .i64 c.old.kind, .int .i64 c.old.lo, .int .i64 c.old.hi, .int .i64 c.old.most, .int .i64 s.v.n, .string s.v.s, .slice none 0 0, .slice none 0 0] : Array Value).size) := hid (K2.out.there 0 16 (Nat.le_refl _))
   have HIG : Hid ((Tryz.prog.info? 32).map (·.size) = some (#[.int .i64 22, .int .i64 s.fm, .int .i64 0, .int .i64 c.at_, .int .i64 0, .int .i64 0, .int .i64 0, .int .i64 c.old.id, .int .i64 c.old.kind, .int .i64 c.old.lo, .int .i64 c.old.hi, .int .i64 c.old.most, .int .i64 s.v.n, .string s.v.s, .slice none 0 0, .slice none 0 0] : Array Value).size) := hid info_st.out
   have HON : Hid ((#[.int .i64 22, .int .i64 s.fm, .int .i64 0, .int .i64 c.at_, .int .i64 0, .int .i64 0, .int .i64 0, .int .i64 c.old.id, .int .i64 c.old.kind, .int .i64 c.old.lo, .int .i64 c.old.hi, .int .i64 c.old.most, .int .i64 s.v.n, .string s.v.s, .slice none 0 0, .slice none 0 0] : Array Value).all (·.oneCell') = true) := hid (one_16 ⟨22, s.fm, 0, c.at_, 0, 0, 0, c.old, s.v, [], []⟩ _ _ rfl rfl)
   go_wp2_with (first
    | (with_reducible refine wpList_load_mid rfl 26 (.tmp 10) rfl w6.heap.size 0 rfl (zF c.old) _ HOB.out Tryz.underlying26 rfl HIF.out ?_)
    | (with_reducible refine wpList_store_named rfl 32 (.tmp 4) (.tmp 72) rfl (w.heap.size + 1 + 1) 0 #[.int .i64 22, .int .i64 s.fm, .int .i64 0, .int .i64 c.at_, .int .i64 0, .int .i64 0, .int .i64 0, .int .i64 c.old.id, .int .i64 c.old.kind, .int .i64 c.old.lo, .int .i64 c.old.hi, .int .i64 c.old.most, .int .i64 s.v.n, .string s.v.s, .slice none 0 0, .slice none 0 0] rfl rfl HTH.out HIG.out HON.out ?_))
   intro w8 hw8
   have hB := res_set K2.out hw8
   have hb8 : Below w.heap.size w w8 := by rw [← hw8.out]; exact below_setCells KB.out (by omega) _ _
   go_wp2
   refine bodyPost_ret (results_cell2 (b := w.heap.size + 1 + 1) (o := 0) rfl rfl hB.whole Tryz.underlying32 rfl info_st.out) rfl ?_
   exact ⟨none, 0, none, 0, rfl, OwnS.nil _ _ _ rfl rfl, hb8⟩
  ·
   have d2 : (s.op == 2) = false := by simp [e]
   have d3 : (s.op == 3) = true := by simp [e]
   obtain rfl := HR3.out e
   clear e
   refine hid ?_
   have u1 := K1.out.cell 1
   have u2 := K1.out.cell 2
   have HIF : Hid ((Tryz.prog.info? 26).map (·.size) = some ((zF c.old) : List Value).length) := hid info_fd.out
   have HTH : Hid (W6.there (w.heap.size + 1 + 1) 0 (#[.int .i64 23, .int .i64 s.fm, .int .i64 s.fd, .int .i64 0, .int .i64 0, .int .i64 0, .int .i64 0, .int .i64 c.old.id, .int .i64 c.old.kind, .int .i64 c.old.lo, .int .i64 c.old.hi, .int .i64 c.old.most, .int .i64 0, .string ⟨#[]⟩, .slice none 0 0, .slice none 0 0] : Array Value).size) := hid (K2.out.there 0 16 (Nat.le_refl _))
   have HIG : Hid ((Tryz.prog.info? 32).map (·.size) = some (#[.int .i64 23, .int .i64 s.fm, .int .i64 s.fd, .int .i64 0, .int .i64 0, .int .i64 0, .int .i64 0, .int .i64 c.old.id, .int .i64 c.old.kind, .int .i64 c.old.lo, .int .i64 c.old.hi, .int .i64 c.old.most, .int .i64 0, .string ⟨#[]⟩, .slice none 0 0, .slice none 0 0] : Array Value).size) := hid info_st.out
   have HON : Hid ((#[.int .i64 23, .int .i64 s.fm, .int .i64 s.fd, .int .i64 0, .int .i64 0, .int .i64 0, .int .i64 0, .int .i64 c.old.id, .int .i64 c.old.kind, .int .i64 c.old.lo, .int .i64 c.old.hi, .int .i64 c.old.most, .int .i64 0, .string ⟨#[]⟩, .slice none 0 0, .slice none 0 0] : Array Value).all (·.oneCell') = true) := hid (one_16 ⟨23, s.fm, s.fd, 0, 0, 0, 0, c.old, step.va0, [], []⟩ _ _ rfl rfl)
   go_wp2_with (first
    | (with_reducible refine wpList_load_mid rfl 26 (.tmp 10) rfl w6.heap.size 0 rfl (zF c.old) _ HOB.out Tryz.underlying26 rfl HIF.out ?_)
    | (with_reducible refine wpList_store_named rfl 32 (.tmp 4) (.tmp 80) rfl (w.heap.size + 1 + 1) 0 #[.int .i64 23, .int .i64 s.fm, .int .i64 s.fd, .int .i64 0, .int .i64 0, .int .i64 0, .int .i64 0, .int .i64 c.old.id, .int .i64 c.old.kind, .int .i64 c.old.lo, .int .i64 c.old.hi, .int .i64 c.old.most, .int .i64 0, .string ⟨#[]⟩, .slice none 0 0, .slice none 0 0] rfl rfl HTH.out HIG.out HON.out ?_))
   intro w8 hw8
   have hB := res_set K2.out hw8
   have hb8 : Below w.heap.size w w8 := by rw [← hw8.out]; exact below_setCells KB.out (by omega) _ _
   go_wp2
   refine bodyPost_ret (results_cell2 (b := w.heap.size + 1 + 1) (o := 0) rfl rfl hB.whole Tryz.underlying32 rfl info_st.out) rfl ?_
   exact ⟨none, 0, none, 0, rfl, OwnS.nil _ _ _ rfl rfl, hb8⟩
  ·
   have d2 : (s.op == 2) = false := by simp [e]
   have d3 : (s.op == 3) = false := by simp [e]
   have d4 : (s.op == 4) = true := by simp [e]
   obtain rfl := HR4.out e
   clear e
   refine hid ?_
   have u1 := K1.out.cell 1
   have u2 := K1.out.cell 2
   have u5 := K1.out.cell 5
   have u6 := K1.out.cell 6
   have HIF : Hid ((Tryz.prog.info? 26).map (·.size) = some ((zF c.old) : List Value).length) := hid info_fd.out
   have HTH : Hid (W6.there (w.heap.size + 1 + 1) 0 (#[.int .i64 24, .int .i64 s.fm, .int .i64 s.fd, .int .i64 0, .int .i64 0, .int .i64 s.a, .int .i64 s.b, .int .i64 c.old.id, .int .i64 c.old.kind, .int .i64 c.old.lo, .int .i64 c.old.hi, .int .i64 c.old.most, .int .i64 0, .string ⟨#[]⟩, .slice none 0 0, .slice none 0 0] : Array Value).size) := hid (K2.out.there 0 16 (Nat.le_refl _))
   have HIG : Hid ((Tryz.prog.info? 32).map (·.size) = some (#[.int .i64 24, .int .i64 s.fm, .int .i64 s.fd, .int .i64 0, .int .i64 0, .int .i64 s.a, .int .i64 s.b, .int .i64 c.old.id, .int .i64 c.old.kind, .int .i64 c.old.lo, .int .i64 c.old.hi, .int .i64 c.old.most, .int .i64 0, .string ⟨#[]⟩, .slice none 0 0, .slice none 0 0] : Array Value).size) := hid info_st.out
   have HON : Hid ((#[.int .i64 24, .int .i64 s.fm, .int .i64 s.fd, .int .i64 0, .int .i64 0, .int .i64 s.a, .int .i64 s.b, .int .i64 c.old.id, .int .i64 c.old.kind, .int .i64 c.old.lo, .int .i64 c.old.hi, .int .i64 c.old.most, .int .i64 0, .string ⟨#[]⟩, .slice none 0 0, .slice none 0 0] : Array Value).all (·.oneCell') = true) := hid (one_16 ⟨24, s.fm, s.fd, 0, 0, s.a, s.b, c.old, step.va0, [], []⟩ _ _ rfl rfl)
   go_wp2_with (first
    | (with_reducible refine wpList_load_mid rfl 26 (.tmp 10) rfl w6.heap.size 0 rfl (zF c.old) _ HOB.out Tryz.underlying26 rfl HIF.out ?_)
    | (with_reducible refine wpList_store_named rfl 32 (.tmp 4) (.tmp 92) rfl (w.heap.size + 1 + 1) 0 #[.int .i64 24, .int .i64 s.fm, .int .i64 s.fd, .int .i64 0, .int .i64 0, .int .i64 s.a, .int .i64 s.b, .int .i64 c.old.id, .int .i64 c.old.kind, .int .i64 c.old.lo, .int .i64 c.old.hi, .int .i64 c.old.most, .int .i64 0, .string ⟨#[]⟩, .slice none 0 0, .slice none 0 0] rfl rfl HTH.out HIG.out HON.out ?_))
   intro w8 hw8
   have hB := res_set K2.out hw8
   have hb8 : Below w.heap.size w w8 := by rw [← hw8.out]; exact below_setCells KB.out (by omega) _ _
   go_wp2
   refine bodyPost_ret (results_cell2 (b := w.heap.size + 1 + 1) (o := 0) rfl rfl hB.whole Tryz.underlying32 rfl info_st.out) rfl ?_
   exact ⟨none, 0, none, 0, rfl, OwnS.nil _ _ _ rfl rfl, hb8⟩
  ·
   have d2 : (s.op == 2) = false := by simp [e]
   have d3 : (s.op == 3) = false := by simp [e]
   have d4 : (s.op == 4) = false := by simp [e]
   have d5 : (s.op == 5) = true := by simp [e]
   obtain rfl := HR5.out e
   clear e
   refine hid ?_
   go_wp2
   refine plan.regionS (S := fun w' => Block w' (w.heap.size + 1) 32 (zP s ta tc la lc)) ?_
   have hD1 : Below W4.heap.size W4 W6.drew := below_drewN HS9.out 1
   obtain ⟨wd, hwd⟩ : ∃ z, Hid (W6.drew = z) := ⟨_, hid rfl⟩
   rw [hwd.out] at hD1 ⊢
   obtain ⟨k0, k1, k2, kb, kr, kf, km, kl⟩ := HC.out _ hD1
   have hS : Block wd (w.heap.size + 1) 32 (zP s ta tc la lc) := k1
   clear hwd
   refine plan.firstS 0 _ (.pointer (some ⟨w.heap.size + 1, 1, none⟩)) rfl (fun w' hS' => (by kernel_rfl)) hS ?_
   refine plan.firstS 1 _ (.int .i64 s.fm) rfl (fun w' hS' => exec_cell_int (ad := ⟨w.heap.size + 1, 1, none⟩) rfl (by kernel_rfl) (hS'.cell 1) Tryz.isAgg3) hS ?_
   refine plan.firstS 2 _ (.pointer (some ⟨w.heap.size + 1, 2, none⟩)) rfl (fun w' hS' => (by kernel_rfl)) hS ?_
   refine plan.firstS 3 _ (.int .i64 s.fd) rfl (fun w' hS' => exec_cell_int (ad := ⟨w.heap.size + 1, 2, none⟩) rfl (by kernel_rfl) (hS'.cell 2) Tryz.isAgg3) hS ?_
   refine plan.firstS 4 _ (.pointer (some ⟨w.heap.size + 1, 14, none⟩)) rfl (fun w' hS' => (by kernel_rfl)) hS ?_
   refine plan.firstS 5 _ (.slice ta s.t.length tc) rfl (fun w' hS' => exec_cell_slice (ad := ⟨w.heap.size + 1, 14, none⟩) rfl (hS'.cell 14) Tryz.isAgg29) hS ?_
   obtain ⟨qv, w9, hrun, ho9, hg9⟩ := run_appI (B := w.heap.size) (c := tc) kl.t rfl HTL.out kb.size
   obtain ⟨xa, xc, rfl, _⟩ := ownsRow_slice ho9
   have hb9 := grown_none hg9
   have hS9 : Block w9 (w.heap.size + 1) 32 (zP s ta tc la lc) := hS.later hb9
   have hT9 := k2.later hb9
   have hB9 := kb.trans (hb9.mono kb.size)
   refine plan.oneS (w1 := w9) 6 _ (.slice xa s.t.length xc) rfl rfl (hv := (hrun _ _ _ _ rfl rfl (by kernel_rfl) (by kernel_rfl))) hS9 ?_
   clear hrun
   refine plan.firstS 7 _ (.agg #[.int .i64 25, .int .i64 s.fm, .int .i64 s.fd, .int .i64 0, .int .i64 0, .int .i64 0, .int .i64 0, .int .i64 0, .int .i64 0, .int .i64 0, .int .i64 0, .int .i64 0, .int .i64 0, .string ⟨#[]⟩, .slice xa s.t.length xc, .slice none 0 0]) rfl (fun w' hS' => (by kernel_rfl)) hS9 ?_
   obtain ⟨w8, hw8⟩ : ∃ z, Hid (w9.setCells (w.heap.size + 1 + 1) 0 [.int .i64 25, .int .i64 s.fm, .int .i64 s.fd, .int .i64 0, .int .i64 0, .int .i64 0, .int .i64 0, .int .i64 0, .int .i64 0, .int .i64 0, .int .i64 0, .int .i64 0, .int .i64 0, .string ⟨#[]⟩, .slice xa s.t.length xc, .slice none 0 0] = z) := ⟨_, hid rfl⟩
   have hS8 : Block w8 (w.heap.size + 1) 32 (zP s ta tc la lc) := by rw [← hw8.out]; exact hS9.aparts _ _ _ (by omega)
   refine plan.thenS (w1 := w8) 8 _ rfl rfl rfl (by rw [← hw8.out]; exact plan.exec_store_all (cells := #[.int .i64 25, .int .i64 s.fm, .int .i64 s.fd, .int .i64 0, .int .i64 0, .int .i64 0, .int .i64 0, .int .i64 0, .int .i64 0, .int .i64 0, .int .i64 0, .int .i64 0, .int .i64 0, .string ⟨#[]⟩, .slice xa s.t.length xc, .slice none 0 0]) rfl hT9 rfl info_st.out (one_16 ⟨25, s.fm, s.fd, 0, 0, 0, 0, step.fd0, step.va0, s.t, []⟩ _ _ rfl rfl)) hS8 ?_
   refine plan.oneS (w1 := w8) 9 _ (.int .i64 0) rfl rfl hS8 ?_
   refine plan.doneS ?_
   have hB := res_set hT9 hw8
   have hb8 : Below w.heap.size w w8 := by rw [← hw8.out]; exact below_setCells hB9 (by omega) _ _
   have ho8 := (stay_cells 3 hT9 st_int 0 [.int .i64 25, .int .i64 s.fm, .int .i64 s.fd, .int .i64 0, .int .i64 0, .int .i64 0, .int .i64 0, .int .i64 0, .int .i64 0, .int .i64 0, .int .i64 0, .int .i64 0, .int .i64 0, .string ⟨#[]⟩, .slice xa s.t.length xc, .slice none 0 0]).row ho9
   rw [hw8.out] at ho8
   walk_nrm
   go_wp2
   refine bodyPost_ret (results_cell2 (b := w.heap.size + 1 + 1) (o := 0) rfl rfl hB.whole Tryz.underlying32 rfl info_st.out) rfl ?_
   exact ⟨xa, xc, none, 0, rfl, ⟨ho8, World.ownsRow_nil _ _ _ _⟩, hb8⟩
  ·
   have d2 : (s.op == 2) = false := by simp [e]
   have d3 : (s.op == 3) = false := by simp [e]
   have d4 : (s.op == 4) = false := by simp [e]
   have d5 : (s.op == 5) = false := by simp [e]
   have d6 : (s.op == 6) = true := by simp [e]
   obtain rfl := HR6.out e
   clear e
   refine hid ?_
   have u1 := K1.out.cell 1
   have u2 := K1.out.cell 2
   have u5 := K1.out.cell 5
   have u4 := K1.out.cell 4
   have HIF : Hid ((Tryz.prog.info? 26).map (·.size) = some ((zF c.old) : List Value).length) := hid info_fd.out
   have HTH : Hid (W6.there (w.heap.size + 1 + 1) 0 (#[.int .i64 26, .int .i64 s.fm, .int .i64 s.fd, .int .i64 0, .int .i64 s.tt, .int .i64 s.a, .int .i64 0, .int .i64 c.old.id, .int .i64 c.old.kind, .int .i64 c.old.lo, .int .i64 c.old.hi, .int .i64 c.old.most, .int .i64 0, .string ⟨#[]⟩, .slice none 0 0, .slice none 0 0] : Array Value).size) := hid (K2.out.there 0 16 (Nat.le_refl _))
   have HIG : Hid ((Tryz.prog.info? 32).map (·.size) = some (#[.int .i64 26, .int .i64 s.fm, .int .i64 s.fd, .int .i64 0, .int .i64 s.tt, .int .i64 s.a, .int .i64 0, .int .i64 c.old.id, .int .i64 c.old.kind, .int .i64 c.old.lo, .int .i64 c.old.hi, .int .i64 c.old.most, .int .i64 0, .string ⟨#[]⟩, .slice none 0 0, .slice none 0 0] : Array Value).size) := hid info_st.out
   have HON : Hid ((#[.int .i64 26, .int .i64 s.fm, .int .i64 s.fd, .int .i64 0, .int .i64 s.tt, .int .i64 s.a, .int .i64 0, .int .i64 c.old.id, .int .i64 c.old.kind, .int .i64 c.old.lo, .int .i64 c.old.hi, .int .i64 c.old.most, .int .i64 0, .string ⟨#[]⟩, .slice none 0 0, .slice none 0 0] : Array Value).all (·.oneCell') = true) := hid (one_16 ⟨26, s.fm, s.fd, 0, s.tt, s.a, 0, c.old, step.va0, [], []⟩ _ _ rfl rfl)
   go_wp2_with (first
    | (with_reducible refine wpList_load_mid rfl 26 (.tmp 10) rfl w6.heap.size 0 rfl (zF c.old) _ HOB.out Tryz.underlying26 rfl HIF.out ?_)
    | (with_reducible refine wpList_store_named rfl 32 (.tmp 4) (.tmp 114) rfl (w.heap.size + 1 + 1) 0 #[.int .i64 26, .int .i64 s.fm, .int .i64 s.fd, .int .i64 0, .int .i64 s.tt, .int .i64 s.a, .int .i64 0, .int .i64 c.old.id, .int .i64 c.old.kind, .int .i64 c.old.lo, .int .i64 c.old.hi, .int .i64 c.old.most, .int .i64 0, .string ⟨#[]⟩, .slice none 0 0, .slice none 0 0] rfl rfl HTH.out HIG.out HON.out ?_))
   intro w8 hw8
   have hB := res_set K2.out hw8
   have hb8 : Below w.heap.size w w8 := by rw [← hw8.out]; exact below_setCells KB.out (by omega) _ _
   go_wp2
   refine bodyPost_ret (results_cell2 (b := w.heap.size + 1 + 1) (o := 0) rfl rfl hB.whole Tryz.underlying32 rfl info_st.out) rfl ?_
   exact ⟨none, 0, none, 0, rfl, OwnS.nil _ _ _ rfl rfl, hb8⟩
  ·
   have d2 : (s.op == 2) = false := by simp [e]
   have d3 : (s.op == 3) = false := by simp [e]
   have d4 : (s.op == 4) = false := by simp [e]
   have d5 : (s.op == 5) = false := by simp [e]
   have d6 : (s.op == 6) = false := by simp [e]
   have d7 : (s.op == 7) = true := by simp [e]
   obtain rfl := HR7.out e
   clear e
   refine hid ?_
   have u1 := K1.out.cell 1
   have u2 := K1.out.cell 2
   have HTH : Hid (W6.there (w.heap.size + 1 + 1) 0 (#[.int .i64 27, .int .i64 s.fm, .int .i64 s.fd, .int .i64 c.at_, .int .i64 0, .int .i64 0, .int .i64 0, .int .i64 0, .int .i64 0, .int .i64 0, .int .i64 0, .int .i64 0, .int .i64 0, .string ⟨#[]⟩, .slice none 0 0, .slice none 0 0] : Array Value).size) := hid (K2.out.there 0 16 (Nat.le_refl _))
   have HIG : Hid ((Tryz.prog.info? 32).map (·.size) = some (#[.int .i64 27, .int .i64 s.fm, .int .i64 s.fd, .int .i64 c.at_, .int .i64 0, .int .i64 0, .int .i64 0, .int .i64 0, .int .i64 0, .int .i64 0, .int .i64 0, .int .i64 0, .int .i64 0, .string ⟨#[]⟩, .slice none 0 0, .slice none 0 0] : Array Value).size) := hid info_st.out
   have HON : Hid ((#[.int .i64 27, .int .i64 s.fm, .int .i64 s.fd, .int .i64 c.at_, .int .i64 0, .int .i64 0, .int .i64 0, .int .i64 0, .int .i64 0, .int .i64 0, .int .i64 0, .int .i64 0, .int .i64 0, .string ⟨#[]⟩, .slice none 0 0, .slice none 0 0] : Array Value).all (·.oneCell') = true) := hid (one_16 ⟨27, s.fm, s.fd, c.at_, 0, 0, 0, step.fd0, step.va0, [], []⟩ _ _ rfl rfl)
   go_wp2_with (first
    | (with_reducible refine wpList_store_named rfl 32 (.tmp 4) (.tmp 122) rfl (w.heap.size + 1 + 1) 0 #[.int .i64 27, .int .i64 s.fm, .int .i64 s.fd, .int .i64 c.at_, .int .i64 0, .int .i64 0, .int .i64 0, .int .i64 0, .int .i64 0, .int .i64 0, .int .i64 0, .int .i64 0, .int .i64 0, .string ⟨#[]⟩, .slice none 0 0, .slice none 0 0] rfl rfl HTH.out HIG.out HON.out ?_))
   intro w8 hw8
   have hB := res_set K2.out hw8
   have hb8 : Below w.heap.size w w8 := by rw [← hw8.out]; exact below_setCells KB.out (by omega) _ _
   go_wp2
   refine bodyPost_ret (results_cell2 (b := w.heap.size + 1 + 1) (o := 0) rfl rfl hB.whole Tryz.underlying32 rfl info_st.out) rfl ?_
   exact ⟨none, 0, none, 0, rfl, OwnS.nil _ _ _ rfl rfl, hb8⟩
  ·
   have d2 : (s.op == 2) = false := by simp [e]
   have d3 : (s.op == 3) = false := by simp [e]
   have d4 : (s.op == 4) = false := by simp [e]
   have d5 : (s.op == 5) = false := by simp [e]
   have d6 : (s.op == 6) = false := by simp [e]
   have d7 : (s.op == 7) = false := by simp [e]
   obtain rfl := HR8.out e
   clear e
   refine hid ?_
   have u1 := K1.out.cell 1
   have u4 := K1.out.cell 4
   have u2 := K1.out.cell 2
   have HTH : Hid (W6.there (w.heap.size + 1 + 1) 0 (#[.int .i64 28, .int .i64 s.fm, .int .i64 s.tt, .int .i64 0, .int .i64 s.fd, .int .i64 0, .int .i64 0, .int .i64 0, .int .i64 0, .int .i64 0, .int .i64 0, .int .i64 0, .int .i64 0, .string ⟨#[]⟩, .slice none 0 0, .slice none 0 0] : Array Value).size) := hid (K2.out.there 0 16 (Nat.le_refl _))
   have HIG : Hid ((Tryz.prog.info? 32).map (·.size) = some (#[.int .i64 28, .int .i64 s.fm, .int .i64 s.tt, .int .i64 0, .int .i64 s.fd, .int .i64 0, .int .i64 0, .int .i64 0, .int .i64 0, .int .i64 0, .int .i64 0, .int .i64 0, .int .i64 0, .string ⟨#[]⟩, .slice none 0 0, .slice none 0 0] : Array Value).size) := hid info_st.out
   have HON : Hid ((#[.int .i64 28, .int .i64 s.fm, .int .i64 s.tt, .int .i64 0, .int .i64 s.fd, .int .i64 0, .int .i64 0, .int .i64 0, .int .i64 0, .int .i64 0, .int .i64 0, .int .i64 0, .int .i64 0, .string ⟨#[]⟩, .slice none 0 0, .slice none 0 0] : Array Value).all (·.oneCell') = true) := hid (one_16 ⟨28, s.fm, s.tt, 0, s.fd, 0, 0, step.fd0, step.va0, [], []⟩ _ _ rfl rfl)
   go_wp2_with (first
    | (with_reducible refine wpList_store_named rfl 32 (.tmp 4) (.tmp 129) rfl (w.heap.size + 1 + 1) 0 #[.int .i64 28, .int .i64 s.fm, .int .i64 s.tt, .int .i64 0, .int .i64 s.fd, .int .i64 0, .int .i64 0, .int .i64 0, .int .i64 0, .int .i64 0, .int .i64 0, .int .i64 0, .int .i64 0, .string ⟨#[]⟩, .slice none 0 0, .slice none 0 0] rfl rfl HTH.out HIG.out HON.out ?_))
   intro w8 hw8
   have hB := res_set K2.out hw8
   have hb8 : Below w.heap.size w w8 := by rw [← hw8.out]; exact below_setCells KB.out (by omega) _ _
   go_wp2
   refine bodyPost_ret (results_cell2 (b := w.heap.size + 1 + 1) (o := 0) rfl rfl hB.whole Tryz.underlying32 rfl info_st.out) rfl ?_
   exact ⟨none, 0, none, 0, rfl, OwnS.nil _ _ _ rfl rfl, hb8⟩
end Go.Proofs.YtaciegkblklokaaGreat.pair
namespace Go.Proofs.YtaciegkblklokaaGreat.pair
open Go.RowKit Go.Proofs.YtaciegkblklokaaGreat.schema Go.Proofs.YtaciegkblklokaaGreat.typing
open Go.Proofs.YtaciegkblklokaaGreat.step (Sp St Lists)
theorem refInvert_any (v : Int) (a : Option Addr) (cc : Nat) (F : List Fm) (s : Sp) (ta : Option Addr) (tc : Nat) (la : Option Addr) (lc : Nat) (w : World) (h : FmL w a F) (hF : Small w F) (hl : Lists w s ta la) (ht : s.t.length ≤ 1000000) (hL : s.l.length ≤ 40) :
  Calls Tryz.prog 10 #[zS v a F.length cc, zP s ta tc la lc] w (InvertAs (invert v (forms F) s) w) := by
 obtain ⟨c, hc⟩ : ∃ c, c = begin_ (forms F) s := ⟨_, rfl⟩
 unfold invert
 by_cases h0 : (on v (forms F) s).2.2 = 0
 ·rw [if_pos h0]
  have hf := (on_ok h0).1
  obtain ⟨e1, e2, e3, e4⟩ := err_zero (on_err0 h0)
  have hop := fit_op hf
  obtain ⟨i1, i2, i3⟩ := inv_begin hc
  have hcs : c.s = s := by rw [hc, begin_s]
  rw [← hc] at e1
  have hk : s.op ≠ 9 → s.op ≠ 1 → s.op ≠ 10 → 0 ≤ c.at_ := fun h9 h1 h10 => by
   unfold found at e1
   rw [hcs] at e1
   simpa [h9, h1, h10] using e1
  have hn : s.op ≠ 9 → c.kn = true := fun h9 => by
   by_cases h110 : s.op = 1 ∨ s.op = 10
   ·unfold found at e1
    rw [hcs, if_neg h9, if_pos h110] at e1
    exact e1
   ·have h1 := hk h9 (fun e => h110 (.inl e)) (fun e => h110 (.inr e))
    cases hnn : named (forms F) s.fm with
    | none =>
     have : c = ⟨s, 0, [], false, -1, step.fd0⟩ := by rw [hc]; unfold begin_; rw [hnn]
     rw [this] at h1
     exact absurd h1 (by show ¬ (0 : Int) ≤ -1; omega)
    | some p =>
     have : c = ⟨s, s.fm, p.2, true, firstAt (ids p.2) s.fd, oldAt p.2 (firstAt (ids p.2) s.fd)⟩ := by rw [hc]; unfold begin_; rw [hnn]
     rw [this]
  by_cases h9 : s.op = 9
  ·have := refInv_9 v a cc F s ta tc la lc w h hF hl ht hL h0 h9
   unfold inv
   rw [if_pos h9]
   exact this
  ·refine refInv_x v a cc F s ta tc la lc w h hF hl ht hL (inv (forms F) s) c hc h0 (by omega) (hn h9) (hk h9) (fun e => ?_) (fun e => ?_) (fun e => ?_) (fun e => ?_) (fun e => ?_) (fun e => ?_) (fun e => ?_) (fun e => ?_) (fun e => ?_) <;> (unfold inv; rw [i2, i1, i3]; rw [e]; rfl)
 ·rw [if_neg h0]
  exact refInv_0 v a cc F s ta tc la lc w h hF hl ht hL h0
end Go.Proofs.YtaciegkblklokaaGreat.pair
namespace Go.Proofs.YtaciegkblklokaaGreat.step
open Go.RowKit
open Go.Proofs.YtaciegkblklokaaGreat.field (Gives newB gives_from)
open Go.Proofs.YtaciegkblklokaaGreat.schema (below_out take_succ_at)
structure StL (w : World) (a : Option Addr) (L : List St) : Prop where
 row : Sts w a L
 each : ∀ p ∈ L, Lists w p.s p.ta p.la
theorem StL.below {w w' : World} {a : Option Addr} {L : List St} (h : StL w a L) (hb : Below w.heap.size w w') : StL w' a L := ⟨h.row.below hb, fun p hp => (h.each p hp).below hb⟩
theorem StL.nil (w : World) : StL w none [] := ⟨.inl rfl, by simp⟩
def sps (L : List St) : List Sp := L.map St.s
theorem sps_length (L : List St) : (sps L).length = L.length := List.length_map _
theorem sps_at {L : List St} {k : Nat} {p : St} (h : L[k]? = some p) : (sps L)[k]? = some p.s := by simp [sps, h]
theorem step_at {w w' : World} {a : Option Addr} {L : List St} (h : StL w a L) (hb : Below w.heap.size w w') {k : Nat} (hk : k < L.length) :
  ∃ b off p, a = some ⟨b, off, none⟩ ∧ b < w'.heap.size ∧ L[k]? = some p ∧ Lists w' p.s p.ta p.la ∧ (w'.cell? ⟨b, off + k * 16, none⟩ = some (.int .i64 p.s.op) ∧ w'.cell? ⟨b, off + k * 16 + 1, none⟩ = some (.int .i64 p.s.fm) ∧ w'.cell? ⟨b, off + k * 16 + 2, none⟩ = some (.int .i64 p.s.fd) ∧ w'.cell? ⟨b, off + k * 16 + 3, none⟩ = some (.int .i64 p.s.pl) ∧ w'.cell? ⟨b, off + k * 16 + 4, none⟩ = some (.int .i64 p.s.tt) ∧ w'.cell? ⟨b, off + k * 16 + 5, none⟩ = some (.int .i64 p.s.a) ∧ w'.cell? ⟨b, off + k * 16 + 6, none⟩ = some (.int .i64 p.s.b) ∧ w'.cell? ⟨b, off + k * 16 + 7, none⟩ = some (.int .i64 p.s.f.id) ∧ w'.cell? ⟨b, off + k * 16 + 8, none⟩ = some (.int .i64 p.s.f.kind) ∧ w'.cell? ⟨b, off + k * 16 + 9, none⟩ = some (.int .i64 p.s.f.lo) ∧ w'.cell? ⟨b, off + k * 16 + 10, none⟩ = some (.int .i64 p.s.f.hi) ∧ w'.cell? ⟨b, off + k * 16 + 11, none⟩ = some (.int .i64 p.s.f.most) ∧ w'.cell? ⟨b, off + k * 16 + 12, none⟩ = some (.int .i64 p.s.v.n) ∧ w'.cell? ⟨b, off + k * 16 + 13, none⟩ = some (.string p.s.v.s) ∧ w'.cell? ⟨b, off + k * 16 + 14, none⟩ = some (.slice p.ta p.s.t.length p.tc) ∧ w'.cell? ⟨b, off + k * 16 + 15, none⟩ = some (.slice p.la p.s.l.length p.lc)) := by
 have h' := h.below hb
 rcases h'.row with rfl | ⟨b, off, ha, hlt, hc⟩
 ·simp at hk
 ·have hp := List.getElem?_eq_getElem hk
  have hx := hc k _ hp
  exact ⟨b, off, _, ha, hlt, hp, h'.each _ (List.mem_of_getElem? hp), hx 0 _ rfl, hx 1 _ rfl, hx 2 _ rfl, hx 3 _ rfl, hx 4 _ rfl, hx 5 _ rfl, hx 6 _ rfl, hx 7 _ rfl, hx 8 _ rfl, hx 9 _ rfl, hx 10 _ rfl, hx 11 _ rfl, hx 12 _ rfl, hx 13 _ rfl, hx 14 _ rfl, hx 15 _ rfl⟩
def Wide (s : Sp) : Prop := 100 < s.t.length ∨ 40 < s.l.length
instance (s : Sp) : Decidable (Wide s) := by unfold Wide; infer_instance
def GreatL (L : List Sp) : Prop := (∃ s ∈ L.take 61, Wide s) ∨ 60 < L.length
instance (L : List Sp) : Decidable (GreatL L) := by unfold GreatL; infer_instance
theorem great_not {L : List Sp} (h : ¬ GreatL L) : L.length ≤ 60 ∧ ∀ s ∈ L, s.t.length ≤ 100 ∧ s.l.length ≤ 40 := by
 have h1 : L.length ≤ 60 := by
  have : ¬ 60 < L.length := fun e => h (.inr e)
  omega
 refine ⟨h1, fun s hs => ?_⟩
 have : ¬ Wide s := fun e => h (.inl ⟨s, by rw [List.take_of_length_le (by omega)]; exact hs, e⟩)
 unfold Wide at this
 omega
theorem wide_succ {L : List Sp} {k : Nat} {s : Sp} (h : L[k]? = some s) (hn : ∀ q ∈ L.take k, ¬ Wide q) (hs : ¬ Wide s) : ∀ q ∈ L.take (k + 1), ¬ Wide q := by
 rw [take_succ_at h]
 intro q hq
 rcases List.mem_append.1 hq with h | h
 ·exact hn q h
 ·rw [List.mem_singleton.1 h]; exact hs
theorem wide_yes {L : List Sp} {k : Nat} {s : Sp} (h : L[k]? = some s) (hk : k < 61) (hs : Wide s) : GreatL L :=
 .inl ⟨s, List.mem_of_getElem? ((List.getElem?_take_of_lt hk).trans h), hs⟩
set_option maxRecDepth 20000 in
theorem great_any (a : Option Addr) (c : Nat) (L : List St) (w : World) (h : StL w a L) (hL : L.length ≤ maxLen) : Calls Tryz.prog 7 #[.slice a L.length c] w (Gives (.bool (decide (GreatL (sps L)))) w) := by
 have hml : (L.length : Int) ≤ 9223372036854775807 := by unfold maxLen at hL; omega
 obtain ⟨r, hr⟩ : ∃ r : Bool, Hid (decide (GreatL (sps L)) = r) := ⟨_, rfl⟩
 rw [hr.out]
 unfold Gives
 have HF := hid h
 have HLN := hid (sps_length L)
 clear h hL
 go_enter Tryz.func7, Tryz.ntmps7
 go_wp2
 go_loopw [3] (fun n wr => ∃ k : Nat, k ≤ L.length ∧ k ≤ 61 ∧ n = .int .i64 (k : Int) ∧ Hid (∀ q ∈ (sps L).take k, ¬ Wide q) ∧ Hid (Below w.heap.size w wr)) (fun n _ => L.length - (intOf n).toNat)
 case atStart => exact ⟨0, Nat.zero_le _, by omega, rfl, hid (by simp), hid (Below.refl _ _)⟩
 case round =>
  obtain ⟨k, hk, hk61, rfl, HOK, HB⟩ := hrel
  by_cases hlt : k < L.length
  ·have i1 : (k : Int) < L.length := by omega
   by_cases h61 : k < 61
   ·have i2 : (k : Int) < 61 := by omega
    obtain ⟨b, off, p, rfl, hbl, hp, hls, z0, z1, z2, z3, z4, z5, z6, z7, z8, z9, z10, z11, z12, z13, z14, z15⟩ := step_at HF.out HB.out hlt
    have HSUC := hid (wide_succ (sps_at hp) HOK.out)
    have HYES := hid (wide_yes (sps_at hp) h61)
    obtain ⟨s, ta, tc, la, lc⟩ := p
    simp only at z14 z15 hls HSUC HYES
    have m1 : (s.t.length : Int) ≤ 9223372036854775807 := by have := hls.mt; unfold maxLen at this; omega
    have m2 : (s.l.length : Int) ≤ 9223372036854775807 := by have := hls.ml; unfold maxLen at this; omega
    clear hp hls z0 z1 z2 z3 z4 z5 z6 z7 z8 z9 z10 z11 z12 z13
    by_cases h1 : 100 < s.t.length
    ·have hd : decide ((s.t.length : Int) > 100) = true := decide_eq_true (by omega)
     obtain rfl : true = r := by rw [← hr.out]; exact (decide_eq_true (HYES.out (.inl h1))).symm
     clear h1
     go_wp2
     go_ret
     exact ⟨rfl, HB.out⟩
    ·have hd : decide ((s.t.length : Int) > 100) = false := decide_eq_false (by omega)
     by_cases h2 : 40 < s.l.length
     ·have hd2 : decide ((s.l.length : Int) > 40) = true := decide_eq_true (by omega)
      obtain rfl : true = r := by rw [← hr.out]; exact (decide_eq_true (HYES.out (.inr h2))).symm
      clear h1 h2
      go_wp2
      go_ret
      exact ⟨rfl, HB.out⟩
     ·have hd2 : decide ((s.l.length : Int) > 40) = false := decide_eq_false (by omega)
      have HW : Hid (¬ Wide s) := hid (by unfold Wide; omega)
      clear h1 h2
      go_wp2
      exact ⟨⟨k + 1, by omega, by omega, by go_num, hid (HSUC.out HW.out), HB⟩, by simp [intOf]; omega⟩
   ·obtain rfl : k = 61 := by omega
    obtain rfl : true = r := by rw [← hr.out]; exact (decide_eq_true (.inr (by rw [HLN.out]; omega))).symm
    have hd : decide ((L.length : Int) > 60) = true := decide_eq_true (by omega)
    have j1 : (60 : Int) < L.length := by omega
    go_wp2
    go_ret
    exact ⟨rfl, HB.out⟩
  ·obtain rfl : k = L.length := by omega
   have HQ : Hid (GreatL (sps L) ↔ 60 < L.length) := hid ⟨fun h => by
     rcases h with ⟨s, hs, hw⟩ | h
     ·exfalso
      have := HOK.out
      rw [List.take_of_length_le (by rw [HLN.out]; exact Nat.le_refl _)] at this
      exact this s (List.mem_of_mem_take hs) hw
     ·rw [HLN.out] at h; exact h, fun h => .inr (by rw [HLN.out]; exact h)⟩
   by_cases h60 : 60 < L.length
   ·obtain rfl : true = r := by rw [← hr.out]; exact (decide_eq_true (HQ.out.2 h60)).symm
    have hd : decide ((L.length : Int) > 60) = true := decide_eq_true (by omega)
    have j1 : (60 : Int) < L.length := by omega
    clear h60
    go_wp2
    go_ret
    exact ⟨rfl, HB.out⟩
   ·obtain rfl : false = r := by rw [← hr.out]; exact (decide_eq_false (fun e => h60 (HQ.out.1 e))).symm
    have hd : decide ((L.length : Int) > 60) = false := decide_eq_false (by omega)
    have j1 : ¬ (60 : Int) < L.length := by omega
    clear h60
    go_wp2
    go_ret
    exact ⟨rfl, HB.out⟩
end Go.Proofs.YtaciegkblklokaaGreat.step
namespace Go.Proofs.YtaciegkblklokaaGreat.step
open Go.RowKit
theorem exec_indexP {o : Oper} {a : Act} {w : World} {x y : Operand} {b off len cap i : Nat} (ho : o.op = .indexAddr 33 x y) (hi : i < len) (hx : a.eval x = .slice (some ⟨b, off, none⟩) len cap := by kernel_rfl) (hy : a.eval y = .int .i64 (i : Int) := by kernel_rfl) :
  (execOp a.eval o).run Tryz.prog w = .ok (.value (.pointer (some ⟨b, off + i * 16, none⟩))) w := by
 unfold execOp
 rw [ho]
 simp only [hx, hy]
 go_simp
theorem step_range {w w' : World} {a : Option Addr} {L : List St} (h : StL w a L) (hb : Below w.heap.size w w') {k : Nat} (hk : k < L.length) :
  ∃ b off p, a = some ⟨b, off, none⟩ ∧ b < w'.heap.size ∧ L[k]? = some p ∧ Lists w' p.s p.ta p.la ∧ w'.rangeAt b (off + k * 16) p.C := by
 have h' := h.below hb
 rcases h'.row with rfl | ⟨b, off, ha, hlt, hc⟩
 ·simp at hk
 ·have hp := List.getElem?_eq_getElem hk
  exact ⟨b, off, _, ha, hlt, hp, h'.each _ (List.mem_of_getElem? hp), fun j v hj => hc k _ hp j v hj⟩
end Go.Proofs.YtaciegkblklokaaGreat.step
