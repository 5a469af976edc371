/- Contracts and lemmas that the claims of this seat share: PairInv. Each says its own conditions. -/
import Derived.Test.YtaciegkblklokaaGreatCmL
import Derived.Deep.RegionHeld3
set_option linter.unusedVariables false
namespace Go.Proofs.YtaciegkblklokaaGreat.pair
open Go.RowKit Go.Proofs.YtaciegkblklokaaGreat.schema Go.Proofs.YtaciegkblklokaaGreat.typing
open Go.Proofs.YtaciegkblklokaaGreat.field (newB)
open Go.Proofs.YtaciegkblklokaaGreat.step (Sp St Lists OwnS intV Z16 st_fd st_int spC)
set_option maxRecDepth 20000 in
set_option maxHeartbeats 64000000 in
theorem inv_no (v : Int) (a : Option Addr) (cc : Nat) (F : List Fm) (s r : Sp) (c : Ch) (hc : c = begin_ (forms F) s) (ta : Option Addr) (tc : Nat) (la : Option Addr) (lc : Nat) (w : World) (h : FmL w a F) (hF : Small w F) (hl : Lists w s ta la) (ht : s.t.length ≤ 1000000) (hat : ¬ 0 ≤ c.at_) (hop : s.op = 1 ∨ s.op = 9 ∨ s.op = 10) (r1 : s.op = 1 → r = ⟨s.op + 20, s.fm, s.f.id, 0, 0, 0, 0, step.fd0, step.va0, [], []⟩) (r9 : s.op = 9 → r = ⟨s.op + 20, s.fm, 0, 0, 0, 0, 0, step.fd0, step.va0, [], []⟩) (r10 : s.op = 10 → r = ⟨s.op + 20, s.fm, 0, 0, 0, 0, 0, step.fd0, step.va0, [], c.L⟩) :
  Calls Tryz.prog 20 #[zS v a F.length cc, zP s ta tc la lc] w (InvAs r w) := by
 obtain ⟨W3, HW3, hbw, hsz3, HX⟩ := inv_boxes v a cc F s ta tc la lc w
 have HAT : Hid (c.at_ = firstAt (ids c.L) s.fd) := by have := (begin_at (forms F) s).1; rw [← hc] at this; exact hid this
 have HOLD : Hid (c.old = oldAt c.L c.at_) := by have := (begin_at (forms F) s).2; rw [← hc] at this; exact hid this
 have hln : c.L.length ≤ 40 := by have := begin_len hF s; rwa [← hc] at this
 have hmx : c.L.length ≤ maxLen := by unfold maxLen; omega
 have cFm := form_named v a cc F s c hc W3 (h.below hbw) (hF.below hbw)
 rw [← HW3.out] at cFm
 have HSZ := hid hsz3
 have HLW := hid hl
 have HTL := hid ht
 have h1 : 1 ≤ s.op := by omega
 have h10 : s.op ≤ 10 := by omega
 have HOP := hid hop
 have HR1 := hid r1
 have HR9 := hid r9
 have HR10 := hid r10
 have d0 : decide (c.at_ ≥ 0) = false := decide_eq_false hat
 have HOE : Hid (c.old = step.fd0) := hid (by have := HOLD.out; unfold oldAt at this; rwa [if_neg hat] at this)
 clear hat
 unfold InvAs
 clear h hF hl ht hc hop hsz3 hbw HOLD r1 r9 r10
 go_enter Tryz.func20, Tryz.ntmps20
 go_wp2_with (first
  | (go_at_call 40; ((with_reducible refine cFm.mono ?_); rintro e w1 ⟨fa, fc, rfl, ho1, hb1⟩; rw [HW3.out] at hb1 ho1; have hN := newB w1 (.cells (zS c.fi fa c.L.length fc) 58); have hb2 := hb1.trans (hN.mono hb1.size); obtain ⟨k0, k1, k2, kb⟩ := HX.out _ hb2; have ho2 := ownsRow_later ho1 hN; have kf : Block (w1.alloc (.cells (zS c.fi fa c.L.length fc) 58)) w1.heap.size 58 (zS c.fi fa c.L.length fc) := Block.new w1 _ _; have y2 := k1.cell 2; have x0 := kf.cell 0; have x1 := kf.cell 1; have cA := at_any c.fi fa fc c.L s.fd _ (own_fds ho2).1 hmx; rw [← HAT.out] at cA; have KF := hid kf; have HO := hid ho2; have HB2 := hid hb2; have HLT1 : Hid (W3.heap.size ≤ w1.heap.size) := hid hb1.size; clear k0 k1 k2 kb kf ho1 ho2 hN hb1 hb2 cFm))
  | (go_at_call 41; ((with_reducible refine cA.mono ?_); rintro e w2 ⟨rfl, hb3⟩; have hb4 := HB2.out.trans (hb3.mono HB2.out.size); obtain ⟨k0, k1, k2, kb⟩ := HX.out _ hb4; have hN1 := newB w2 (.cells #[.int .i64 0, .int .i64 0, .int .i64 0, .int .i64 0, .int .i64 0] 26); have hN2 := newB (w2.alloc (.cells #[.int .i64 0, .int .i64 0, .int .i64 0, .int .i64 0, .int .i64 0] 26)) (.cells #[.int .i64 (s.op + 20), .int .i64 s.fm, .int .i64 0, .int .i64 0, .int .i64 0, .int .i64 0, .int .i64 0, .int .i64 0, .int .i64 0, .int .i64 0, .int .i64 0, .int .i64 0, .int .i64 0, .string ⟨#[]⟩, .slice none 0 0, .slice none 0 0] 32); have y0 := (k1.later hN1).cell 0; have y1 := (k1.later hN1).cell 1; have hV : Iv w.heap.size (w.heap.size + 1) (w.heap.size + 1 + 1) w1.heap.size w2.heap.size (w2.heap.size + 1) w s ta tc la lc c fa fc [.int .i64 (s.op + 20), .int .i64 s.fm, .int .i64 0, .int .i64 0, .int .i64 0, .int .i64 0, .int .i64 0, .int .i64 0, .int .i64 0, .int .i64 0, .int .i64 0, .int .i64 0, .int .i64 0, .string ⟨#[]⟩, .slice none 0 0, .slice none 0 0] ((w2.alloc (.cells #[.int .i64 0, .int .i64 0, .int .i64 0, .int .i64 0, .int .i64 0] 26)).alloc (.cells #[.int .i64 (s.op + 20), .int .i64 s.fm, .int .i64 0, .int .i64 0, .int .i64 0, .int .i64 0, .int .i64 0, .int .i64 0, .int .i64 0, .int .i64 0, .int .i64 0, .int .i64 0, .int .i64 0, .string ⟨#[]⟩, .slice none 0 0, .slice none 0 0] 32)) := (by have hq := HSZ.out; have hq2 := HLT1.out; have hf := (KF.out.later hb3); have hfl := KF.out.lt; have hs2 := hb3.size; refine ⟨((k1.later hN1).later hN2), ((k2.later hN1).later hN2), ((hf.later hN1).later hN2), (by rw [HOE.out]; exact (Block.new w2 _ _).later hN2), ?_, own_low (ownsRow_later (ownsRow_later (ownsRow_later HO.out hb3) hN1) hN2) (by omega), ?_, by omega, by omega, by omega, by omega, by omega⟩; (have := Block.new (w2.alloc (.cells #[.int .i64 0, .int .i64 0, .int .i64 0, .int .i64 0, .int .i64 0] 26)) 32 [.int .i64 (s.op + 20), .int .i64 s.fm, .int .i64 0, .int .i64 0, .int .i64 0, .int .i64 0, .int .i64 0, .int .i64 0, .int .i64 0, .int .i64 0, .int .i64 0, .int .i64 0, .int .i64 0, .string ⟨#[]⟩, .slice none 0 0, .slice none 0 0]; simpa using this); exact (kb.trans (hN1.mono (by omega))).trans (hN2.mono (by simp; omega))); have HV := hid hV; have u0 := hV.step.cell 0; clear hb4 k0 k1 k2 kb hN1 hN2 hb3 hV))
  | (with_reducible refine plan.halt 3 3 35 (.int .i64 1) rfl ?_))
 obtain ⟨W6, hW6⟩ : ∃ x, Hid (((w2.alloc (.cells #[.int .i64 0, .int .i64 0, .int .i64 0, .int .i64 0, .int .i64 0] 26)).alloc (.cells #[.int .i64 (s.op + 20), .int .i64 s.fm, .int .i64 0, .int .i64 0, .int .i64 0, .int .i64 0, .int .i64 0, .int .i64 0, .int .i64 0, .int .i64 0, .int .i64 0, .int .i64 0, .int .i64 0, .string ⟨#[]⟩, .slice none 0 0, .slice none 0 0] 32)) = x) := ⟨_, hid rfl⟩
 rw [hW6.out] at HV ⊢
 obtain ⟨B2, hB2⟩ : ∃ x, Hid (w2.heap.size = x) := ⟨_, hid rfl⟩
 rw [hB2.out] at HV ⊢
 obtain ⟨B1, hB1⟩ : ∃ x, Hid (w1.heap.size = x) := ⟨_, hid rfl⟩
 rw [hB1.out] at HV ⊢
 have hop := HOP.out
 clear hW6 hB2 hB1 x0 x1 y0 y1 y2 u0 HX HSZ HAT HO HB2 HLT1 KF HOP HOE
 rcases hop with e | e | e
 ·
  have d1 : (s.op == 1) = true := by simp [e]
  obtain rfl := HR1.out e
  clear e
  refine hid ?_
  have u7 := HV.out.step.cell 7
  have b2 := HV.out.back.cell 2
  have g2 := HV.out.back.frozen 2
  have HV9 : Hid (Iv w.heap.size (w.heap.size + 1) (w.heap.size + 1 + 1) B1 B2 (B2 + 1) w s ta tc la lc c fa fc (spC ⟨s.op + 20, s.fm, s.f.id, 0, 0, 0, 0, step.fd0, step.va0, [], []⟩ (.slice none 0 0) (.slice none 0 0)) (W6.setCell ⟨B2 + 1, 2, none⟩ (.int .i64 s.f.id))) := hid ((HV.out).put 2 [.int .i64 s.f.id])
  have HRG := hid HV9.out.back.whole
  have HTH : Hid ((W6.setCell ⟨B2 + 1, 2, none⟩ (.int .i64 s.f.id)).there (w.heap.size + 1 + 1) 0 ((spC ⟨s.op + 20, s.fm, s.f.id, 0, 0, 0, 0, step.fd0, step.va0, [], []⟩ (.slice none 0 0) (.slice none 0 0))).toArray.size) := hid (HV9.out.res.there 0 16 (Nat.le_refl _))
  have HIS : Hid ((Tryz.prog.info? 32).map (·.size) = some ((spC ⟨s.op + 20, s.fm, s.f.id, 0, 0, 0, 0, step.fd0, step.va0, [], []⟩ (.slice none 0 0) (.slice none 0 0))).length) := hid info_st.out
  have HIG : Hid ((Tryz.prog.info? 32).map (·.size) = some ((spC ⟨s.op + 20, s.fm, s.f.id, 0, 0, 0, 0, step.fd0, step.va0, [], []⟩ (.slice none 0 0) (.slice none 0 0))).toArray.size) := hid info_st.out
  have HON : Hid (((spC ⟨s.op + 20, s.fm, s.f.id, 0, 0, 0, 0, step.fd0, step.va0, [], []⟩ (.slice none 0 0) (.slice none 0 0))).toArray.all (·.oneCell') = true) := hid (one_16 _ _ _ rfl rfl)
  go_wp2_with (first
   | (with_reducible refine wpList_load_mid rfl 32 (.tmp 9) rfl (B2 + 1) 0 rfl (spC ⟨s.op + 20, s.fm, s.f.id, 0, 0, 0, 0, step.fd0, step.va0, [], []⟩ (.slice none 0 0) (.slice none 0 0)) _ HRG.out Tryz.underlying32 rfl HIS.out ?_)
   | (with_reducible refine wpList_store_named rfl 32 (.tmp 4) (.tmp 113) rfl (w.heap.size + 1 + 1) 0 ((spC ⟨s.op + 20, s.fm, s.f.id, 0, 0, 0, 0, step.fd0, step.va0, [], []⟩ (.slice none 0 0) (.slice none 0 0))).toArray rfl rfl HTH.out HIG.out HON.out ?_))
  intro w10 hw10
  have HDO := HV9.out.done (spC ⟨s.op + 20, s.fm, s.f.id, 0, 0, 0, 0, step.fd0, step.va0, [], []⟩ (.slice none 0 0) (.slice none 0 0)) rfl
  rw [show (W6.setCell ⟨B2 + 1, 2, none⟩ (.int .i64 s.f.id)).setCells (w.heap.size + 1 + 1) 0 (spC ⟨s.op + 20, s.fm, s.f.id, 0, 0, 0, 0, step.fd0, step.va0, [], []⟩ (.slice none 0 0) (.slice none 0 0)) = w10 from hw10.out] at HDO
  go_wp2
  refine bodyPost_ret (results_cell (b := w.heap.size + 1 + 1) (o := 0) rfl rfl HDO.1.whole Tryz.underlying32 rfl info_st.out) rfl ?_
  exact ⟨none, 0, none, 0, rfl, OwnS.nil _ _ _ rfl rfl, HDO.2.1⟩
 ·
  have d1 : (s.op == 1) = false := by simp [e]
  have d2 : (s.op == 2) = false := by simp [e]
  have d3 : (s.op == 3) = false := by simp [e]
  have d4 : (s.op == 4) = false := by simp [e]
  have d5 : (s.op == 5) = false := by simp [e]
  have d6 : (s.op == 6) = false := by simp [e]
  have d7 : (s.op == 7) = false := by simp [e]
  have d8 : (s.op == 8) = false := by simp [e]
  have d10 : (s.op == 10) = false := by simp [e]
  obtain rfl := HR9.out e
  clear e
  refine hid ?_
  have HV9 : Hid (Iv w.heap.size (w.heap.size + 1) (w.heap.size + 1 + 1) B1 B2 (B2 + 1) w s ta tc la lc c fa fc (spC ⟨s.op + 20, s.fm, 0, 0, 0, 0, 0, step.fd0, step.va0, [], []⟩ (.slice none 0 0) (.slice none 0 0)) W6) := hid (HV.out)
  have HRG := hid HV9.out.back.whole
  have HTH : Hid (W6.there (w.heap.size + 1 + 1) 0 ((spC ⟨s.op + 20, s.fm, 0, 0, 0, 0, 0, step.fd0, step.va0, [], []⟩ (.slice none 0 0) (.slice none 0 0))).toArray.size) := hid (HV9.out.res.there 0 16 (Nat.le_refl _))
  have HIS : Hid ((Tryz.prog.info? 32).map (·.size) = some ((spC ⟨s.op + 20, s.fm, 0, 0, 0, 0, 0, step.fd0, step.va0, [], []⟩ (.slice none 0 0) (.slice none 0 0))).length) := hid info_st.out
  have HIG : Hid ((Tryz.prog.info? 32).map (·.size) = some ((spC ⟨s.op + 20, s.fm, 0, 0, 0, 0, 0, step.fd0, step.va0, [], []⟩ (.slice none 0 0) (.slice none 0 0))).toArray.size) := hid info_st.out
  have HON : Hid (((spC ⟨s.op + 20, s.fm, 0, 0, 0, 0, 0, step.fd0, step.va0, [], []⟩ (.slice none 0 0) (.slice none 0 0))).toArray.all (·.oneCell') = true) := hid (one_16 _ _ _ rfl rfl)
  go_wp2_with (first
   | (with_reducible refine wpList_load_mid rfl 32 (.tmp 9) rfl (B2 + 1) 0 rfl (spC ⟨s.op + 20, s.fm, 0, 0, 0, 0, 0, step.fd0, step.va0, [], []⟩ (.slice none 0 0) (.slice none 0 0)) _ HRG.out Tryz.underlying32 rfl HIS.out ?_)
   | (with_reducible refine wpList_store_named rfl 32 (.tmp 4) (.tmp 113) rfl (w.heap.size + 1 + 1) 0 ((spC ⟨s.op + 20, s.fm, 0, 0, 0, 0, 0, step.fd0, step.va0, [], []⟩ (.slice none 0 0) (.slice none 0 0))).toArray rfl rfl HTH.out HIG.out HON.out ?_))
  intro w10 hw10
  have HDO := HV9.out.done (spC ⟨s.op + 20, s.fm, 0, 0, 0, 0, 0, step.fd0, step.va0, [], []⟩ (.slice none 0 0) (.slice none 0 0)) rfl
  rw [show W6.setCells (w.heap.size + 1 + 1) 0 (spC ⟨s.op + 20, s.fm, 0, 0, 0, 0, 0, step.fd0, step.va0, [], []⟩ (.slice none 0 0) (.slice none 0 0)) = w10 from hw10.out] at HDO
  go_wp2
  refine bodyPost_ret (results_cell (b := w.heap.size + 1 + 1) (o := 0) rfl rfl HDO.1.whole Tryz.underlying32 rfl info_st.out) rfl ?_
  exact ⟨none, 0, none, 0, rfl, OwnS.nil _ _ _ rfl rfl, HDO.2.1⟩
 ·
  have d1 : (s.op == 1) = false := by simp [e]
  have d2 : (s.op == 2) = false := by simp [e]
  have d3 : (s.op == 3) = false := by simp [e]
  have d4 : (s.op == 4) = false := by simp [e]
  have d5 : (s.op == 5) = false := by simp [e]
  have d6 : (s.op == 6) = false := by simp [e]
  have d7 : (s.op == 7) = false := by simp [e]
  have d8 : (s.op == 8) = false := by simp [e]
  have d10 : (s.op == 10) = true := by simp [e]
  obtain rfl := HR10.out e
  clear e
  refine hid ?_
  have u1 := HV.out.form.cell 1
  have b15 := HV.out.back.cell 15
  have g15 := HV.out.back.frozen 15
  have HV9 : Hid (Iv w.heap.size (w.heap.size + 1) (w.heap.size + 1 + 1) B1 B2 (B2 + 1) w s ta tc la lc c fa fc (spC ⟨s.op + 20, s.fm, 0, 0, 0, 0, 0, step.fd0, step.va0, [], c.L⟩ (.slice none 0 0) (.slice fa c.L.length fc)) (W6.setCell ⟨B2 + 1, 15, none⟩ (.slice fa c.L.length fc))) := hid ((HV.out).put 15 [.slice fa c.L.length fc])
  have HRG := hid HV9.out.back.whole
  have HTH : Hid ((W6.setCell ⟨B2 + 1, 15, none⟩ (.slice fa c.L.length fc)).there (w.heap.size + 1 + 1) 0 ((spC ⟨s.op + 20, s.fm, 0, 0, 0, 0, 0, step.fd0, step.va0, [], c.L⟩ (.slice none 0 0) (.slice fa c.L.length fc))).toArray.size) := hid (HV9.out.res.there 0 16 (Nat.le_refl _))
  have HIS : Hid ((Tryz.prog.info? 32).map (·.size) = some ((spC ⟨s.op + 20, s.fm, 0, 0, 0, 0, 0, step.fd0, step.va0, [], c.L⟩ (.slice none 0 0) (.slice fa c.L.length fc))).length) := hid info_st.out
  have HIG : Hid ((Tryz.prog.info? 32).map (·.size) = some ((spC ⟨s.op + 20, s.fm, 0, 0, 0, 0, 0, step.fd0, step.va0, [], c.L⟩ (.slice none 0 0) (.slice fa c.L.length fc))).toArray.size) := hid info_st.out
  have HON : Hid (((spC ⟨s.op + 20, s.fm, 0, 0, 0, 0, 0, step.fd0, step.va0, [], c.L⟩ (.slice none 0 0) (.slice fa c.L.length fc))).toArray.all (·.oneCell') = true) := hid (one_16 _ _ _ rfl rfl)
  go_wp2_with (first
   | (with_reducible refine wpList_load_mid rfl 32 (.tmp 9) rfl (B2 + 1) 0 rfl (spC ⟨s.op + 20, s.fm, 0, 0, 0, 0, 0, step.fd0, step.va0, [], c.L⟩ (.slice none 0 0) (.slice fa c.L.length fc)) _ HRG.out Tryz.underlying32 rfl HIS.out ?_)
   | (with_reducible refine wpList_store_named rfl 32 (.tmp 4) (.tmp 113) rfl (w.heap.size + 1 + 1) 0 ((spC ⟨s.op + 20, s.fm, 0, 0, 0, 0, 0, step.fd0, step.va0, [], c.L⟩ (.slice none 0 0) (.slice fa c.L.length fc))).toArray rfl rfl HTH.out HIG.out HON.out ?_))
  intro w10 hw10
  have HDO := HV9.out.done (spC ⟨s.op + 20, s.fm, 0, 0, 0, 0, 0, step.fd0, step.va0, [], c.L⟩ (.slice none 0 0) (.slice fa c.L.length fc)) rfl
  rw [show (W6.setCell ⟨B2 + 1, 15, none⟩ (.slice fa c.L.length fc)).setCells (w.heap.size + 1 + 1) 0 (spC ⟨s.op + 20, s.fm, 0, 0, 0, 0, 0, step.fd0, step.va0, [], c.L⟩ (.slice none 0 0) (.slice fa c.L.length fc)) = w10 from hw10.out] at HDO
  go_wp2
  refine bodyPost_ret (results_cell (b := w.heap.size + 1 + 1) (o := 0) rfl rfl HDO.1.whole Tryz.underlying32 rfl info_st.out) rfl ?_
  exact ⟨none, 0, _, _, rfl, ⟨World.ownsRow_nil _ _ _ _, (HDO.2.2.1).row HV9.out.row⟩, HDO.2.1⟩
set_option maxRecDepth 20000 in
set_option maxHeartbeats 64000000 in
theorem inv_yes (v : Int) (a : Option Addr) (cc : Nat) (F : List Fm) (s r : Sp) (c : Ch) (hc : c = begin_ (forms F) s) (ta : Option Addr) (tc : Nat) (la : Option Addr) (lc : Nat) (w : World) (h : FmL w a F) (hF : Small w F) (hl : Lists w s ta la) (ht : s.t.length ≤ 1000000) (hat : 0 ≤ c.at_) (hop : s.op = 1 ∨ s.op = 2 ∨ s.op = 3 ∨ s.op = 4 ∨ s.op = 5 ∨ s.op = 6 ∨ s.op = 7 ∨ s.op = 8 ∨ s.op = 10) (r1 : s.op = 1 → r = ⟨s.op + 20, s.fm, s.f.id, 0, 0, 0, 0, step.fd0, step.va0, [], []⟩) (r2 : s.op = 2 → r = ⟨s.op + 20, s.fm, 0, c.at_, 0, 0, 0, c.old, s.v, [], []⟩) (r3 : s.op = 3 → r = ⟨s.op + 20, s.fm, s.fd, 0, 0, 0, 0, c.old, step.va0, [], []⟩) (r4 : s.op = 4 → r = ⟨s.op + 20, s.fm, s.fd, 0, 0, s.a, s.b, c.old, step.va0, [], []⟩) (r5 : s.op = 5 → r = ⟨s.op + 20, s.fm, s.fd, 0, 0, 0, 0, step.fd0, step.va0, s.t, []⟩) (r6 : s.op = 6 → r = ⟨s.op + 20, s.fm, s.fd, 0, s.tt, s.a, 0, c.old, step.va0, [], []⟩) (r7 : s.op = 7 → r = ⟨s.op + 20, s.fm, s.fd, c.at_, 0, 0, 0, step.fd0, step.va0, [], []⟩) (r8 : s.op = 8 → r = ⟨s.op + 20, s.fm, s.tt, 0, s.fd, 0, 0, step.fd0, step.va0, [], []⟩) (r10 : s.op = 10 → r = ⟨s.op + 20, s.fm, 0, 0, 0, 0, 0, step.fd0, step.va0, [], c.L⟩) :
  Calls Tryz.prog 20 #[zS v a F.length cc, zP s ta tc la lc] w (InvAs r w) := by
 obtain ⟨W3, HW3, hbw, hsz3, HX⟩ := inv_boxes v a cc F s ta tc la lc w
 have HAT : Hid (c.at_ = firstAt (ids c.L) s.fd) := by have := (begin_at (forms F) s).1; rw [← hc] at this; exact hid this
 have HOLD : Hid (c.old = oldAt c.L c.at_) := by have := (begin_at (forms F) s).2; rw [← hc] at this; exact hid this
 have hln : c.L.length ≤ 40 := by have := begin_len hF s; rwa [← hc] at this
 have hmx : c.L.length ≤ maxLen := by unfold maxLen; omega
 have cFm := form_named v a cc F s c hc W3 (h.below hbw) (hF.below hbw)
 rw [← HW3.out] at cFm
 have HSZ := hid hsz3
 have HLW := hid hl
 have HTL := hid ht
 have h1 : 1 ≤ s.op := by omega
 have h10 : s.op ≤ 10 := by omega
 have HOP := hid hop
 have HR1 := hid r1
 have HR2 := hid r2
 have HR3 := hid r3
 have HR4 := hid r4
 have HR5 := hid r5
 have HR6 := hid r6
 have HR7 := hid r7
 have HR8 := hid r8
 have HR10 := hid r10
 have d0 : decide (c.at_ ≥ 0) = true := decide_eq_true hat
 have hlt : c.at_ < c.L.length := by have := HAT.out; rw [this] at hat ⊢; have := (firstAt_lt hat).1; rw [ids_length] at this; omega
 have HEQ : Hid (∀ p, c.L[c.at_.toNat]? = some p → p = c.old) := hid (fun p hp => by rw [HOLD.out]; unfold oldAt; rw [if_pos hat, List.getD_eq_getElem?_getD, hp]; rfl)
 have HIX : Hid (c.at_.toNat < c.L.length) := hid (by omega)
 unfold InvAs
 clear h hF hl ht hc hop hsz3 hbw HOLD r1 r2 r3 r4 r5 r6 r7 r8 r10
 go_enter Tryz.func20, Tryz.ntmps20
 go_wp2_with (first
  | (go_at_call 40; ((with_reducible refine cFm.mono ?_); rintro e w1 ⟨fa, fc, rfl, ho1, hb1⟩; rw [HW3.out] at hb1 ho1; have hN := newB w1 (.cells (zS c.fi fa c.L.length fc) 58); have hb2 := hb1.trans (hN.mono hb1.size); obtain ⟨k0, k1, k2, kb⟩ := HX.out _ hb2; have ho2 := ownsRow_later ho1 hN; have kf : Block (w1.alloc (.cells (zS c.fi fa c.L.length fc) 58)) w1.heap.size 58 (zS c.fi fa c.L.length fc) := Block.new w1 _ _; have y2 := k1.cell 2; have x0 := kf.cell 0; have x1 := kf.cell 1; have cA := at_any c.fi fa fc c.L s.fd _ (own_fds ho2).1 hmx; rw [← HAT.out] at cA; have KF := hid kf; have HO := hid ho2; have HB2 := hid hb2; have HLT1 : Hid (W3.heap.size ≤ w1.heap.size) := hid hb1.size; clear k0 k1 k2 kb kf ho1 ho2 hN hb1 hb2 cFm))
  | (go_at_call 41; ((with_reducible refine cA.mono ?_); rintro e w2 ⟨rfl, hb3⟩; have hb4 := HB2.out.trans (hb3.mono HB2.out.size); obtain ⟨k0, k1, k2, kb⟩ := HX.out _ hb4; have hNZ := newB w2 (.cells #[.int .i64 0, .int .i64 0, .int .i64 0, .int .i64 0, .int .i64 0] 26); have q1 := (KF.out.later hb3).cell 1; have hro := own_fds (ownsRow_later (ownsRow_later HO.out hb3) hNZ); obtain ⟨gb, go_, p, rfl, hgl, hp, p0, p1, p2, p3, p4⟩ := hro.1.at (i := c.at_.toNat) HIX.out; obtain rfl : p = c.old := HEQ.out p hp; have q2 := ((KF.out.later hb3).later hNZ).cell 1; clear hNZ hro hp; have hN1 := newB w2 (.cells (zF c.old) 26); have hN2 := newB (w2.alloc (.cells (zF c.old) 26)) (.cells #[.int .i64 (s.op + 20), .int .i64 s.fm, .int .i64 0, .int .i64 0, .int .i64 0, .int .i64 0, .int .i64 0, .int .i64 0, .int .i64 0, .int .i64 0, .int .i64 0, .int .i64 0, .int .i64 0, .string ⟨#[]⟩, .slice none 0 0, .slice none 0 0] 32); have y0 := (k1.later hN1).cell 0; have y1 := (k1.later hN1).cell 1; have hV : Iv w.heap.size (w.heap.size + 1) (w.heap.size + 1 + 1) w1.heap.size w2.heap.size (w2.heap.size + 1) w s ta tc la lc c (some ⟨gb, go_, none⟩) fc [.int .i64 (s.op + 20), .int .i64 s.fm, .int .i64 0, .int .i64 0, .int .i64 0, .int .i64 0, .int .i64 0, .int .i64 0, .int .i64 0, .int .i64 0, .int .i64 0, .int .i64 0, .int .i64 0, .string ⟨#[]⟩, .slice none 0 0, .slice none 0 0] ((w2.alloc (.cells (zF c.old) 26)).alloc (.cells #[.int .i64 (s.op + 20), .int .i64 s.fm, .int .i64 0, .int .i64 0, .int .i64 0, .int .i64 0, .int .i64 0, .int .i64 0, .int .i64 0, .int .i64 0, .int .i64 0, .int .i64 0, .int .i64 0, .string ⟨#[]⟩, .slice none 0 0, .slice none 0 0] 32)) := (by have hq := HSZ.out; have hq2 := HLT1.out; have hf := (KF.out.later hb3); have hfl := KF.out.lt; have hs2 := hb3.size; refine ⟨((k1.later hN1).later hN2), ((k2.later hN1).later hN2), ((hf.later hN1).later hN2), (Block.new w2 _ _).later hN2, ?_, own_low (ownsRow_later (ownsRow_later (ownsRow_later HO.out hb3) hN1) hN2) (by omega), ?_, by omega, by omega, by omega, by omega, by omega⟩; (have := Block.new (w2.alloc (.cells (zF c.old) 26)) 32 [.int .i64 (s.op + 20), .int .i64 s.fm, .int .i64 0, .int .i64 0, .int .i64 0, .int .i64 0, .int .i64 0, .int .i64 0, .int .i64 0, .int .i64 0, .int .i64 0, .int .i64 0, .int .i64 0, .string ⟨#[]⟩, .slice none 0 0, .slice none 0 0]; simpa using this); exact (kb.trans (hN1.mono (by omega))).trans (hN2.mono (by simp; omega))); have HV := hid hV; have u0 := hV.step.cell 0; clear hb4 k0 k1 k2 kb hN1 hN2 hb3 hV))
  | (with_reducible refine plan.halt 3 3 35 (.int .i64 1) rfl ?_))
 obtain ⟨W6, hW6⟩ : ∃ x, Hid (((w2.alloc (.cells (zF c.old) 26)).alloc (.cells #[.int .i64 (s.op + 20), .int .i64 s.fm, .int .i64 0, .int .i64 0, .int .i64 0, .int .i64 0, .int .i64 0, .int .i64 0, .int .i64 0, .int .i64 0, .int .i64 0, .int .i64 0, .int .i64 0, .string ⟨#[]⟩, .slice none 0 0, .slice none 0 0] 32)) = x) := ⟨_, hid rfl⟩
 rw [hW6.out] at HV ⊢
 obtain ⟨B2, hB2⟩ : ∃ x, Hid (w2.heap.size = x) := ⟨_, hid rfl⟩
 rw [hB2.out] at HV ⊢
 obtain ⟨B1, hB1⟩ : ∃ x, Hid (w1.heap.size = x) := ⟨_, hid rfl⟩
 rw [hB1.out] at HV ⊢
 have hop := HOP.out
 clear hW6 hB2 hB1 x0 x1 y0 y1 y2 u0 HX HSZ HAT HO HB2 HLT1 KF HOP q1 q2 p0 p1 p2 p3 p4 hgl HEQ HIX hlt
 rcases hop with e | e | e | e | e | e | e | e | e
 ·
  have d1 : (s.op == 1) = true := by simp [e]
  obtain rfl := HR1.out e
  clear e
  refine hid ?_
  have u7 := HV.out.step.cell 7
  have b2 := HV.out.back.cell 2
  have g2 := HV.out.back.frozen 2
  have HV9 : Hid (Iv w.heap.size (w.heap.size + 1) (w.heap.size + 1 + 1) B1 B2 (B2 + 1) w s ta tc la lc c (some ⟨gb, go_, none⟩) fc (spC ⟨s.op + 20, s.fm, s.f.id, 0, 0, 0, 0, step.fd0, step.va0, [], []⟩ (.slice none 0 0) (.slice none 0 0)) (W6.setCell ⟨B2 + 1, 2, none⟩ (.int .i64 s.f.id))) := hid ((HV.out).put 2 [.int .i64 s.f.id])
  have HRG := hid HV9.out.back.whole
  have HTH : Hid ((W6.setCell ⟨B2 + 1, 2, none⟩ (.int .i64 s.f.id)).there (w.heap.size + 1 + 1) 0 ((spC ⟨s.op + 20, s.fm, s.f.id, 0, 0, 0, 0, step.fd0, step.va0, [], []⟩ (.slice none 0 0) (.slice none 0 0))).toArray.size) := hid (HV9.out.res.there 0 16 (Nat.le_refl _))
  have HIS : Hid ((Tryz.prog.info? 32).map (·.size) = some ((spC ⟨s.op + 20, s.fm, s.f.id, 0, 0, 0, 0, step.fd0, step.va0, [], []⟩ (.slice none 0 0) (.slice none 0 0))).length) := hid info_st.out
  have HIG : Hid ((Tryz.prog.info? 32).map (·.size) = some ((spC ⟨s.op + 20, s.fm, s.f.id, 0, 0, 0, 0, step.fd0, step.va0, [], []⟩ (.slice none 0 0) (.slice none 0 0))).toArray.size) := hid info_st.out
  have HON : Hid (((spC ⟨s.op + 20, s.fm, s.f.id, 0, 0, 0, 0, step.fd0, step.va0, [], []⟩ (.slice none 0 0) (.slice none 0 0))).toArray.all (·.oneCell') = true) := hid (one_16 _ _ _ rfl rfl)
  go_wp2_with (first
   | (with_reducible refine wpList_load_mid rfl 32 (.tmp 9) rfl (B2 + 1) 0 rfl (spC ⟨s.op + 20, s.fm, s.f.id, 0, 0, 0, 0, step.fd0, step.va0, [], []⟩ (.slice none 0 0) (.slice none 0 0)) _ HRG.out Tryz.underlying32 rfl HIS.out ?_)
   | (with_reducible refine wpList_store_named rfl 32 (.tmp 4) (.tmp 113) rfl (w.heap.size + 1 + 1) 0 ((spC ⟨s.op + 20, s.fm, s.f.id, 0, 0, 0, 0, step.fd0, step.va0, [], []⟩ (.slice none 0 0) (.slice none 0 0))).toArray rfl rfl HTH.out HIG.out HON.out ?_))
  intro w10 hw10
  have HDO := HV9.out.done (spC ⟨s.op + 20, s.fm, s.f.id, 0, 0, 0, 0, step.fd0, step.va0, [], []⟩ (.slice none 0 0) (.slice none 0 0)) rfl
  rw [show (W6.setCell ⟨B2 + 1, 2, none⟩ (.int .i64 s.f.id)).setCells (w.heap.size + 1 + 1) 0 (spC ⟨s.op + 20, s.fm, s.f.id, 0, 0, 0, 0, step.fd0, step.va0, [], []⟩ (.slice none 0 0) (.slice none 0 0)) = w10 from hw10.out] at HDO
  go_wp2
  refine bodyPost_ret (results_cell (b := w.heap.size + 1 + 1) (o := 0) rfl rfl HDO.1.whole Tryz.underlying32 rfl info_st.out) rfl ?_
  exact ⟨none, 0, none, 0, rfl, OwnS.nil _ _ _ rfl rfl, HDO.2.1⟩
 ·
  have d1 : (s.op == 1) = false := by simp [e]
  have d2 : (s.op == 2) = true := by simp [e]
  obtain rfl := HR2.out e
  clear e
  refine hid ?_
  go_wp2
  have HD := HV.out.later (w' := W6.drew) (below_drewN (Below.refl _ _) 1)
  refine plan.regionS (S := fun w' => ∃ X, Iv w.heap.size (w.heap.size + 1) (w.heap.size + 1 + 1) B1 B2 (B2 + 1) w s ta tc la lc c (some ⟨gb, go_, none⟩) fc X w') ?_
  obtain ⟨wd0, hwd0⟩ : ∃ x, Hid (W6.drew = x) := ⟨_, hid rfl⟩
  rw [hwd0.out] at HD ⊢
  have hS : ∃ X, Iv w.heap.size (w.heap.size + 1) (w.heap.size + 1 + 1) B1 B2 (B2 + 1) w s ta tc la lc c (some ⟨gb, go_, none⟩) fc X wd0 := ⟨_, HD⟩
  refine plan.firstS 0 _ (.int .i64 c.at_) rfl (fun w' hS' => (by kernel_rfl)) hS ?_
  refine plan.firstS 1 _ (zF c.old) rfl (fun w' hS' => hS'.elim fun X hX => exec_load_at (b := B2) (off := 0) rfl hX.old.whole Tryz.underlying26 rfl info_fd.out) hS ?_
  refine plan.firstS 2 _ (.pointer (some ⟨w.heap.size + 1, 12, none⟩)) rfl (fun w' hS' => (by kernel_rfl)) hS ?_
  refine plan.firstS 3 _ (zV s.v) rfl (fun w' hS' => hS'.elim fun X hX => exec_load_at (b := w.heap.size + 1) (off := 12) rfl (range_va (s := s) hX.step) Tryz.underlying28 rfl info_va.out) hS ?_
  refine plan.firstS 4 _ (.pointer (some ⟨B2 + 1, 3, none⟩)) rfl (fun w' hS' => (by kernel_rfl)) hS ?_
  obtain ⟨wd1, hwd1⟩ : ∃ x, Hid (wd0.setCells (B2 + 1) 3 [.int .i64 c.at_] = x) := ⟨_, hid rfl⟩
  have HE := HD.put 3 [.int .i64 c.at_]
  rw [hwd1.out] at HE
  have hS2 : ∃ X, Iv w.heap.size (w.heap.size + 1) (w.heap.size + 1 + 1) B1 B2 (B2 + 1) w s ta tc la lc c (some ⟨gb, go_, none⟩) fc X wd1 := ⟨_, HE⟩
  refine plan.thenS (w1 := wd1) 5 _ rfl rfl rfl (by rw [← hwd1.out]; exact exec_put_i64 rfl (HD.back.cell 3) (HD.back.frozen 3)) hS2 ?_
  clear HD hS hwd1
  have HD := HE
  have hS := hS2
  clear HE hS2
  refine plan.firstS 6 _ (.pointer (some ⟨B2 + 1, 7, none⟩)) rfl (fun w' hS' => (by kernel_rfl)) hS ?_
  obtain ⟨wd2, hwd2⟩ : ∃ x, Hid (wd1.setCells (B2 + 1) 7 (zF c.old) = x) := ⟨_, hid rfl⟩
  have HE := HD.put 7 (zF c.old)
  rw [hwd2.out] at HE
  have hS2 : ∃ X, Iv w.heap.size (w.heap.size + 1) (w.heap.size + 1 + 1) B1 B2 (B2 + 1) w s ta tc la lc c (some ⟨gb, go_, none⟩) fc X wd2 := ⟨_, HE⟩
  refine plan.thenS (w1 := wd2) 7 _ rfl rfl rfl (by rw [← hwd2.out]; exact exec_put_agg (cells := (zF c.old)) rfl HD.back (by simp [put]) info_fd.out (by simp [Value.oneCell'])) hS2 ?_
  clear HD hS hwd2
  have HD := HE
  have hS := hS2
  clear HE hS2
  refine plan.firstS 8 _ (.pointer (some ⟨B2 + 1, 12, none⟩)) rfl (fun w' hS' => (by kernel_rfl)) hS ?_
  obtain ⟨wd3, hwd3⟩ : ∃ x, Hid (wd2.setCells (B2 + 1) 12 (zV s.v) = x) := ⟨_, hid rfl⟩
  have HE := HD.put 12 (zV s.v)
  rw [hwd3.out] at HE
  have hS2 : ∃ X, Iv w.heap.size (w.heap.size + 1) (w.heap.size + 1 + 1) B1 B2 (B2 + 1) w s ta tc la lc c (some ⟨gb, go_, none⟩) fc X wd3 := ⟨_, HE⟩
  refine plan.lastS (w1 := wd3) 9 _ rfl rfl rfl (by rw [← hwd3.out]; exact exec_put_agg (cells := (zV s.v)) rfl HD.back (by simp [put]) info_va.out (by simp [Value.oneCell'])) hS2 ?_
  clear HD hS hwd3
  have HD := HE
  have hS := hS2
  clear HE hS2
  have HV9 : Hid (Iv w.heap.size (w.heap.size + 1) (w.heap.size + 1 + 1) B1 B2 (B2 + 1) w s ta tc la lc c (some ⟨gb, go_, none⟩) fc (spC ⟨s.op + 20, s.fm, 0, c.at_, 0, 0, 0, c.old, s.v, [], []⟩ (.slice none 0 0) (.slice none 0 0)) wd3) := hid HD
  clear HD hS HV
  walk_nrm
  have HRG := hid HV9.out.back.whole
  have HTH : Hid (wd3.there (w.heap.size + 1 + 1) 0 ((spC ⟨s.op + 20, s.fm, 0, c.at_, 0, 0, 0, c.old, s.v, [], []⟩ (.slice none 0 0) (.slice none 0 0))).toArray.size) := hid (HV9.out.res.there 0 16 (Nat.le_refl _))
  have HIS : Hid ((Tryz.prog.info? 32).map (·.size) = some ((spC ⟨s.op + 20, s.fm, 0, c.at_, 0, 0, 0, c.old, s.v, [], []⟩ (.slice none 0 0) (.slice none 0 0))).length) := hid info_st.out
  have HIG : Hid ((Tryz.prog.info? 32).map (·.size) = some ((spC ⟨s.op + 20, s.fm, 0, c.at_, 0, 0, 0, c.old, s.v, [], []⟩ (.slice none 0 0) (.slice none 0 0))).toArray.size) := hid info_st.out
  have HON : Hid (((spC ⟨s.op + 20, s.fm, 0, c.at_, 0, 0, 0, c.old, s.v, [], []⟩ (.slice none 0 0) (.slice none 0 0))).toArray.all (·.oneCell') = true) := hid (one_16 _ _ _ rfl rfl)
  go_wp2_with (first
   | (with_reducible refine wpList_load_mid rfl 32 (.tmp 9) rfl (B2 + 1) 0 rfl (spC ⟨s.op + 20, s.fm, 0, c.at_, 0, 0, 0, c.old, s.v, [], []⟩ (.slice none 0 0) (.slice none 0 0)) _ HRG.out Tryz.underlying32 rfl HIS.out ?_)
   | (with_reducible refine wpList_store_named rfl 32 (.tmp 4) (.tmp 113) rfl (w.heap.size + 1 + 1) 0 ((spC ⟨s.op + 20, s.fm, 0, c.at_, 0, 0, 0, c.old, s.v, [], []⟩ (.slice none 0 0) (.slice none 0 0))).toArray rfl rfl HTH.out HIG.out HON.out ?_))
  intro w10 hw10
  have HDO := HV9.out.done (spC ⟨s.op + 20, s.fm, 0, c.at_, 0, 0, 0, c.old, s.v, [], []⟩ (.slice none 0 0) (.slice none 0 0)) rfl
  rw [show wd3.setCells (w.heap.size + 1 + 1) 0 (spC ⟨s.op + 20, s.fm, 0, c.at_, 0, 0, 0, c.old, s.v, [], []⟩ (.slice none 0 0) (.slice none 0 0)) = w10 from hw10.out] at HDO
  go_wp2
  refine bodyPost_ret (results_cell (b := w.heap.size + 1 + 1) (o := 0) rfl rfl HDO.1.whole Tryz.underlying32 rfl info_st.out) rfl ?_
  exact ⟨none, 0, none, 0, rfl, OwnS.nil _ _ _ rfl rfl, HDO.2.1⟩
 ·
  have d1 : (s.op == 1) = false := by simp [e]
  have d2 : (s.op == 2) = false := by simp [e]
  have d3 : (s.op == 3) = true := by simp [e]
  obtain rfl := HR3.out e
  clear e
  refine hid ?_
  go_wp2
  have HD := HV.out.later (w' := W6.drew) (below_drewN (Below.refl _ _) 1)
  refine plan.regionS (S := fun w' => ∃ X, Iv w.heap.size (w.heap.size + 1) (w.heap.size + 1 + 1) B1 B2 (B2 + 1) w s ta tc la lc c (some ⟨gb, go_, none⟩) fc X w') ?_
  obtain ⟨wd0, hwd0⟩ : ∃ x, Hid (W6.drew = x) := ⟨_, hid rfl⟩
  rw [hwd0.out] at HD ⊢
  have hS : ∃ X, Iv w.heap.size (w.heap.size + 1) (w.heap.size + 1 + 1) B1 B2 (B2 + 1) w s ta tc la lc c (some ⟨gb, go_, none⟩) fc X wd0 := ⟨_, HD⟩
  refine plan.firstS 0 _ (.pointer (some ⟨w.heap.size + 1, 2, none⟩)) rfl (fun w' hS' => (by kernel_rfl)) hS ?_
  refine plan.firstS 1 _ (.int .i64 s.fd) rfl (fun w' hS' => hS'.elim fun X hX => exec_cell_int (ad := ⟨w.heap.size + 1, 2, none⟩) rfl (by kernel_rfl) (hX.step.cell 2) Tryz.isAgg3) hS ?_
  refine plan.firstS 2 _ (zF c.old) rfl (fun w' hS' => hS'.elim fun X hX => exec_load_at (b := B2) (off := 0) rfl hX.old.whole Tryz.underlying26 rfl info_fd.out) hS ?_
  refine plan.firstS 3 _ (.pointer (some ⟨B2 + 1, 2, none⟩)) rfl (fun w' hS' => (by kernel_rfl)) hS ?_
  obtain ⟨wd1, hwd1⟩ : ∃ x, Hid (wd0.setCells (B2 + 1) 2 [.int .i64 s.fd] = x) := ⟨_, hid rfl⟩
  have HE := HD.put 2 [.int .i64 s.fd]
  rw [hwd1.out] at HE
  have hS2 : ∃ X, Iv w.heap.size (w.heap.size + 1) (w.heap.size + 1 + 1) B1 B2 (B2 + 1) w s ta tc la lc c (some ⟨gb, go_, none⟩) fc X wd1 := ⟨_, HE⟩
  refine plan.thenS (w1 := wd1) 4 _ rfl rfl rfl (by rw [← hwd1.out]; exact exec_put_i64 rfl (HD.back.cell 2) (HD.back.frozen 2)) hS2 ?_
  clear HD hS hwd1
  have HD := HE
  have hS := hS2
  clear HE hS2
  refine plan.firstS 5 _ (.pointer (some ⟨B2 + 1, 7, none⟩)) rfl (fun w' hS' => (by kernel_rfl)) hS ?_
  obtain ⟨wd2, hwd2⟩ : ∃ x, Hid (wd1.setCells (B2 + 1) 7 (zF c.old) = x) := ⟨_, hid rfl⟩
  have HE := HD.put 7 (zF c.old)
  rw [hwd2.out] at HE
  have hS2 : ∃ X, Iv w.heap.size (w.heap.size + 1) (w.heap.size + 1 + 1) B1 B2 (B2 + 1) w s ta tc la lc c (some ⟨gb, go_, none⟩) fc X wd2 := ⟨_, HE⟩
  refine plan.lastS (w1 := wd2) 6 _ rfl rfl rfl (by rw [← hwd2.out]; exact exec_put_agg (cells := (zF c.old)) rfl HD.back (by simp [put]) info_fd.out (by simp [Value.oneCell'])) hS2 ?_
  clear HD hS hwd2
  have HD := HE
  have hS := hS2
  clear HE hS2
  have HV9 : Hid (Iv w.heap.size (w.heap.size + 1) (w.heap.size + 1 + 1) B1 B2 (B2 + 1) w s ta tc la lc c (some ⟨gb, go_, none⟩) fc (spC ⟨s.op + 20, s.fm, s.fd, 0, 0, 0, 0, c.old, step.va0, [], []⟩ (.slice none 0 0) (.slice none 0 0)) wd2) := hid HD
  clear HD hS HV
  walk_nrm
  have HRG := hid HV9.out.back.whole
  have HTH : Hid (wd2.there (w.heap.size + 1 + 1) 0 ((spC ⟨s.op + 20, s.fm, s.fd, 0, 0, 0, 0, c.old, step.va0, [], []⟩ (.slice none 0 0) (.slice none 0 0))).toArray.size) := hid (HV9.out.res.there 0 16 (Nat.le_refl _))
  have HIS : Hid ((Tryz.prog.info? 32).map (·.size) = some ((spC ⟨s.op + 20, s.fm, s.fd, 0, 0, 0, 0, c.old, step.va0, [], []⟩ (.slice none 0 0) (.slice none 0 0))).length) := hid info_st.out
  have HIG : Hid ((Tryz.prog.info? 32).map (·.size) = some ((spC ⟨s.op + 20, s.fm, s.fd, 0, 0, 0, 0, c.old, step.va0, [], []⟩ (.slice none 0 0) (.slice none 0 0))).toArray.size) := hid info_st.out
  have HON : Hid (((spC ⟨s.op + 20, s.fm, s.fd, 0, 0, 0, 0, c.old, step.va0, [], []⟩ (.slice none 0 0) (.slice none 0 0))).toArray.all (·.oneCell') = true) := hid (one_16 _ _ _ rfl rfl)
  go_wp2_with (first
   | (with_reducible refine wpList_load_mid rfl 32 (.tmp 9) rfl (B2 + 1) 0 rfl (spC ⟨s.op + 20, s.fm, s.fd, 0, 0, 0, 0, c.old, step.va0, [], []⟩ (.slice none 0 0) (.slice none 0 0)) _ HRG.out Tryz.underlying32 rfl HIS.out ?_)
   | (with_reducible refine wpList_store_named rfl 32 (.tmp 4) (.tmp 113) rfl (w.heap.size + 1 + 1) 0 ((spC ⟨s.op + 20, s.fm, s.fd, 0, 0, 0, 0, c.old, step.va0, [], []⟩ (.slice none 0 0) (.slice none 0 0))).toArray rfl rfl HTH.out HIG.out HON.out ?_))
  intro w10 hw10
  have HDO := HV9.out.done (spC ⟨s.op + 20, s.fm, s.fd, 0, 0, 0, 0, c.old, step.va0, [], []⟩ (.slice none 0 0) (.slice none 0 0)) rfl
  rw [show wd2.setCells (w.heap.size + 1 + 1) 0 (spC ⟨s.op + 20, s.fm, s.fd, 0, 0, 0, 0, c.old, step.va0, [], []⟩ (.slice none 0 0) (.slice none 0 0)) = w10 from hw10.out] at HDO
  go_wp2
  refine bodyPost_ret (results_cell (b := w.heap.size + 1 + 1) (o := 0) rfl rfl HDO.1.whole Tryz.underlying32 rfl info_st.out) rfl ?_
  exact ⟨none, 0, none, 0, rfl, OwnS.nil _ _ _ rfl rfl, HDO.2.1⟩
 ·
  have d1 : (s.op == 1) = false := by simp [e]
  have d2 : (s.op == 2) = false := by simp [e]
  have d3 : (s.op == 3) = false := by simp [e]
  have d4 : (s.op == 4) = true := by simp [e]
  obtain rfl := HR4.out e
  clear e
  refine hid ?_
  go_wp2
  have HD := HV.out.later (w' := W6.drew) (below_drewN (Below.refl _ _) 1)
  refine plan.regionS (S := fun w' => ∃ X, Iv w.heap.size (w.heap.size + 1) (w.heap.size + 1 + 1) B1 B2 (B2 + 1) w s ta tc la lc c (some ⟨gb, go_, none⟩) fc X w') ?_
  obtain ⟨wd0, hwd0⟩ : ∃ x, Hid (W6.drew = x) := ⟨_, hid rfl⟩
  rw [hwd0.out] at HD ⊢
  have hS : ∃ X, Iv w.heap.size (w.heap.size + 1) (w.heap.size + 1 + 1) B1 B2 (B2 + 1) w s ta tc la lc c (some ⟨gb, go_, none⟩) fc X wd0 := ⟨_, HD⟩
  refine plan.firstS 0 _ (.pointer (some ⟨w.heap.size + 1, 2, none⟩)) rfl (fun w' hS' => (by kernel_rfl)) hS ?_
  refine plan.firstS 1 _ (.int .i64 s.fd) rfl (fun w' hS' => hS'.elim fun X hX => exec_cell_int (ad := ⟨w.heap.size + 1, 2, none⟩) rfl (by kernel_rfl) (hX.step.cell 2) Tryz.isAgg3) hS ?_
  refine plan.firstS 2 _ (.pointer (some ⟨w.heap.size + 1, 5, none⟩)) rfl (fun w' hS' => (by kernel_rfl)) hS ?_
  refine plan.firstS 3 _ (.int .i64 s.a) rfl (fun w' hS' => hS'.elim fun X hX => exec_cell_int (ad := ⟨w.heap.size + 1, 5, none⟩) rfl (by kernel_rfl) (hX.step.cell 5) Tryz.isAgg3) hS ?_
  refine plan.firstS 4 _ (.pointer (some ⟨w.heap.size + 1, 6, none⟩)) rfl (fun w' hS' => (by kernel_rfl)) hS ?_
  refine plan.firstS 5 _ (.int .i64 s.b) rfl (fun w' hS' => hS'.elim fun X hX => exec_cell_int (ad := ⟨w.heap.size + 1, 6, none⟩) rfl (by kernel_rfl) (hX.step.cell 6) Tryz.isAgg3) hS ?_
  refine plan.firstS 6 _ (zF c.old) rfl (fun w' hS' => hS'.elim fun X hX => exec_load_at (b := B2) (off := 0) rfl hX.old.whole Tryz.underlying26 rfl info_fd.out) hS ?_
  refine plan.firstS 7 _ (.pointer (some ⟨B2 + 1, 2, none⟩)) rfl (fun w' hS' => (by kernel_rfl)) hS ?_
  obtain ⟨wd1, hwd1⟩ : ∃ x, Hid (wd0.setCells (B2 + 1) 2 [.int .i64 s.fd] = x) := ⟨_, hid rfl⟩
  have HE := HD.put 2 [.int .i64 s.fd]
  rw [hwd1.out] at HE
  have hS2 : ∃ X, Iv w.heap.size (w.heap.size + 1) (w.heap.size + 1 + 1) B1 B2 (B2 + 1) w s ta tc la lc c (some ⟨gb, go_, none⟩) fc X wd1 := ⟨_, HE⟩
  refine plan.thenS (w1 := wd1) 8 _ rfl rfl rfl (by rw [← hwd1.out]; exact exec_put_i64 rfl (HD.back.cell 2) (HD.back.frozen 2)) hS2 ?_
  clear HD hS hwd1
  have HD := HE
  have hS := hS2
  clear HE hS2
  refine plan.firstS 9 _ (.pointer (some ⟨B2 + 1, 5, none⟩)) rfl (fun w' hS' => (by kernel_rfl)) hS ?_
  obtain ⟨wd2, hwd2⟩ : ∃ x, Hid (wd1.setCells (B2 + 1) 5 [.int .i64 s.a] = x) := ⟨_, hid rfl⟩
  have HE := HD.put 5 [.int .i64 s.a]
  rw [hwd2.out] at HE
  have hS2 : ∃ X, Iv w.heap.size (w.heap.size + 1) (w.heap.size + 1 + 1) B1 B2 (B2 + 1) w s ta tc la lc c (some ⟨gb, go_, none⟩) fc X wd2 := ⟨_, HE⟩
  refine plan.thenS (w1 := wd2) 10 _ rfl rfl rfl (by rw [← hwd2.out]; exact exec_put_i64 rfl (HD.back.cell 5) (HD.back.frozen 5)) hS2 ?_
  clear HD hS hwd2
  have HD := HE
  have hS := hS2
  clear HE hS2
  refine plan.firstS 11 _ (.pointer (some ⟨B2 + 1, 6, none⟩)) rfl (fun w' hS' => (by kernel_rfl)) hS ?_
  obtain ⟨wd3, hwd3⟩ : ∃ x, Hid (wd2.setCells (B2 + 1) 6 [.int .i64 s.b] = x) := ⟨_, hid rfl⟩
  have HE := HD.put 6 [.int .i64 s.b]
  rw [hwd3.out] at HE
  have hS2 : ∃ X, Iv w.heap.size (w.heap.size + 1) (w.heap.size + 1 + 1) B1 B2 (B2 + 1) w s ta tc la lc c (some ⟨gb, go_, none⟩) fc X wd3 := ⟨_, HE⟩
  refine plan.thenS (w1 := wd3) 12 _ rfl rfl rfl (by rw [← hwd3.out]; exact exec_put_i64 rfl (HD.back.cell 6) (HD.back.frozen 6)) hS2 ?_
  clear HD hS hwd3
  have HD := HE
  have hS := hS2
  clear HE hS2
  refine plan.firstS 13 _ (.pointer (some ⟨B2 + 1, 7, none⟩)) rfl (fun w' hS' => (by kernel_rfl)) hS ?_
  obtain ⟨wd4, hwd4⟩ : ∃ x, Hid (wd3.setCells (B2 + 1) 7 (zF c.old) = x) := ⟨_, hid rfl⟩
  have HE := HD.put 7 (zF c.old)
  rw [hwd4.out] at HE
  have hS2 : ∃ X, Iv w.heap.size (w.heap.size + 1) (w.heap.size + 1 + 1) B1 B2 (B2 + 1) w s ta tc la lc c (some ⟨gb, go_, none⟩) fc X wd4 := ⟨_, HE⟩
  refine plan.lastS (w1 := wd4) 14 _ rfl rfl rfl (by rw [← hwd4.out]; exact exec_put_agg (cells := (zF c.old)) rfl HD.back (by simp [put]) info_fd.out (by simp [Value.oneCell'])) hS2 ?_
  clear HD hS hwd4
  have HD := HE
  have hS := hS2
  clear HE hS2
  have HV9 : Hid (Iv w.heap.size (w.heap.size + 1) (w.heap.size + 1 + 1) B1 B2 (B2 + 1) w s ta tc la lc c (some ⟨gb, go_, none⟩) fc (spC ⟨s.op + 20, s.fm, s.fd, 0, 0, s.a, s.b, c.old, step.va0, [], []⟩ (.slice none 0 0) (.slice none 0 0)) wd4) := hid HD
  clear HD hS HV
  walk_nrm
  have HRG := hid HV9.out.back.whole
  have HTH : Hid (wd4.there (w.heap.size + 1 + 1) 0 ((spC ⟨s.op + 20, s.fm, s.fd, 0, 0, s.a, s.b, c.old, step.va0, [], []⟩ (.slice none 0 0) (.slice none 0 0))).toArray.size) := hid (HV9.out.res.there 0 16 (Nat.le_refl _))
  have HIS : Hid ((Tryz.prog.info? 32).map (·.size) = some ((spC ⟨s.op + 20, s.fm, s.fd, 0, 0, s.a, s.b, c.old, step.va0, [], []⟩ (.slice none 0 0) (.slice none 0 0))).length) := hid info_st.out
  have HIG : Hid ((Tryz.prog.info? 32).map (·.size) = some ((spC ⟨s.op + 20, s.fm, s.fd, 0, 0, s.a, s.b, c.old, step.va0, [], []⟩ (.slice none 0 0) (.slice none 0 0))).toArray.size) := hid info_st.out
  have HON : Hid (((spC ⟨s.op + 20, s.fm, s.fd, 0, 0, s.a, s.b, c.old, step.va0, [], []⟩ (.slice none 0 0) (.slice none 0 0))).toArray.all (·.oneCell') = true) := hid (one_16 _ _ _ rfl rfl)
  go_wp2_with (first
   | (with_reducible refine wpList_load_mid rfl 32 (.tmp 9) rfl (B2 + 1) 0 rfl (spC ⟨s.op + 20, s.fm, s.fd, 0, 0, s.a, s.b, c.old, step.va0, [], []⟩ (.slice none 0 0) (.slice none 0 0)) _ HRG.out Tryz.underlying32 rfl HIS.out ?_)
   | (with_reducible refine wpList_store_named rfl 32 (.tmp 4) (.tmp 113) rfl (w.heap.size + 1 + 1) 0 ((spC ⟨s.op + 20, s.fm, s.fd, 0, 0, s.a, s.b, c.old, step.va0, [], []⟩ (.slice none 0 0) (.slice none 0 0))).toArray rfl rfl HTH.out HIG.out HON.out ?_))
  intro w10 hw10
  have HDO := HV9.out.done (spC ⟨s.op + 20, s.fm, s.fd, 0, 0, s.a, s.b, c.old, step.va0, [], []⟩ (.slice none 0 0) (.slice none 0 0)) rfl
  rw [show wd4.setCells (w.heap.size + 1 + 1) 0 (spC ⟨s.op + 20, s.fm, s.fd, 0, 0, s.a, s.b, c.old, step.va0, [], []⟩ (.slice none 0 0) (.slice none 0 0)) = w10 from hw10.out] at HDO
  go_wp2
  refine bodyPost_ret (results_cell (b := w.heap.size + 1 + 1) (o := 0) rfl rfl HDO.1.whole Tryz.underlying32 rfl info_st.out) rfl ?_
  exact ⟨none, 0, none, 0, rfl, OwnS.nil _ _ _ rfl rfl, HDO.2.1⟩
 ·
  have d1 : (s.op == 1) = false := by simp [e]
  have d2 : (s.op == 2) = false := by simp [e]
  have d3 : (s.op == 3) = false := by simp [e]
  have d4 : (s.op == 4) = false := by simp [e]
  have d5 : (s.op == 5) = true := by simp [e]
  obtain rfl := HR5.out e
  clear e
  refine hid ?_
  go_wp2
  have HD := HV.out.later (w' := W6.drew) (below_drewN (Below.refl _ _) 1)
  refine plan.regionS (S := fun w' => ∃ X, Iv w.heap.size (w.heap.size + 1) (w.heap.size + 1 + 1) B1 B2 (B2 + 1) w s ta tc la lc c (some ⟨gb, go_, none⟩) fc X w') ?_
  obtain ⟨wd0, hwd0⟩ : ∃ x, Hid (W6.drew = x) := ⟨_, hid rfl⟩
  rw [hwd0.out] at HD ⊢
  have hS : ∃ X, Iv w.heap.size (w.heap.size + 1) (w.heap.size + 1 + 1) B1 B2 (B2 + 1) w s ta tc la lc c (some ⟨gb, go_, none⟩) fc X wd0 := ⟨_, HD⟩
  refine plan.firstS 0 _ (.pointer (some ⟨w.heap.size + 1, 2, none⟩)) rfl (fun w' hS' => (by kernel_rfl)) hS ?_
  refine plan.firstS 1 _ (.int .i64 s.fd) rfl (fun w' hS' => hS'.elim fun X hX => exec_cell_int (ad := ⟨w.heap.size + 1, 2, none⟩) rfl (by kernel_rfl) (hX.step.cell 2) Tryz.isAgg3) hS ?_
  refine plan.firstS 2 _ (.pointer (some ⟨w.heap.size + 1, 14, none⟩)) rfl (fun w' hS' => (by kernel_rfl)) hS ?_
  refine plan.firstS 3 _ (.slice ta s.t.length tc) rfl (fun w' hS' => hS'.elim fun X hX => exec_cell_slice (ad := ⟨w.heap.size + 1, 14, none⟩) rfl (hX.step.cell 14) Tryz.isAgg29) hS ?_
  refine plan.firstS 5 _ (.pointer (some ⟨B2 + 1, 2, none⟩)) rfl (fun w' hS' => (by kernel_rfl)) hS ?_
  have cC := step.cloneI_any ta tc s.t wd0 (HLW.out.below HD.below).t HTL.out
  refine plan.callS 4 _ 42 #[.slice ta s.t.length tc] rfl (cC.mono ?_)
  rintro e wd1 ⟨u, rfl, ho8, hb8⟩
  obtain ⟨xa, xc, rfl, _⟩ := ownsRow_slice ho8
  have HXO := own_low ho8 HD.below.size
  replace HD := HD.later hb8
  replace hS : ∃ X, Iv w.heap.size (w.heap.size + 1) (w.heap.size + 1 + 1) B1 B2 (B2 + 1) w s ta tc la lc c (some ⟨gb, go_, none⟩) fc X wd1 := ⟨_, HD⟩
  refine ⟨_, rfl, hS, ?_⟩
  clear ho8 hb8 cC
  obtain ⟨wd2, hwd2⟩ : ∃ x, Hid (wd1.setCells (B2 + 1) 2 [.int .i64 s.fd] = x) := ⟨_, hid rfl⟩
  have HE := HD.put 2 [.int .i64 s.fd]
  have HXP := (stay_cells 3 HD.back st_int 2 [.int .i64 s.fd]).row HXO
  rw [hwd2.out] at HE HXP
  have hS2 : ∃ X, Iv w.heap.size (w.heap.size + 1) (w.heap.size + 1 + 1) B1 B2 (B2 + 1) w s ta tc la lc c (some ⟨gb, go_, none⟩) fc X wd2 := ⟨_, HE⟩
  refine plan.thenS (w1 := wd2) 6 _ rfl rfl rfl (by rw [← hwd2.out]; exact exec_put_i64 rfl (HD.back.cell 2) (HD.back.frozen 2)) hS2 ?_
  clear HD hS hwd2 HXO
  have HD := HE
  have hS := hS2
  have HXO := HXP
  clear HXP
  clear HE hS2
  refine plan.firstS 7 _ (.pointer (some ⟨B2 + 1, 14, none⟩)) rfl (fun w' hS' => (by kernel_rfl)) hS ?_
  obtain ⟨wd3, hwd3⟩ : ∃ x, Hid (wd2.setCells (B2 + 1) 14 [.slice xa s.t.length xc] = x) := ⟨_, hid rfl⟩
  have HE := HD.put 14 [.slice xa s.t.length xc]
  have HXP := (stay_cells 3 HD.back st_int 14 [.slice xa s.t.length xc]).row HXO
  rw [hwd3.out] at HE HXP
  have hS2 : ∃ X, Iv w.heap.size (w.heap.size + 1) (w.heap.size + 1 + 1) B1 B2 (B2 + 1) w s ta tc la lc c (some ⟨gb, go_, none⟩) fc X wd3 := ⟨_, HE⟩
  refine plan.lastS (w1 := wd3) 8 _ rfl rfl rfl (by rw [← hwd3.out]; exact exec_put_ints rfl (HD.back.cell 14) (HD.back.frozen 14)) hS2 ?_
  clear HD hS hwd3 HXO
  have HD := HE
  have hS := hS2
  have HXO := HXP
  clear HXP
  clear HE hS2
  have HV9 : Hid (Iv w.heap.size (w.heap.size + 1) (w.heap.size + 1 + 1) B1 B2 (B2 + 1) w s ta tc la lc c (some ⟨gb, go_, none⟩) fc (spC ⟨s.op + 20, s.fm, s.fd, 0, 0, 0, 0, step.fd0, step.va0, s.t, []⟩ (.slice xa s.t.length xc) (.slice none 0 0)) wd3) := hid HD
  clear HD hS HV
  walk_nrm
  have HRG := hid HV9.out.back.whole
  have HTH : Hid (wd3.there (w.heap.size + 1 + 1) 0 ((spC ⟨s.op + 20, s.fm, s.fd, 0, 0, 0, 0, step.fd0, step.va0, s.t, []⟩ (.slice xa s.t.length xc) (.slice none 0 0))).toArray.size) := hid (HV9.out.res.there 0 16 (Nat.le_refl _))
  have HIS : Hid ((Tryz.prog.info? 32).map (·.size) = some ((spC ⟨s.op + 20, s.fm, s.fd, 0, 0, 0, 0, step.fd0, step.va0, s.t, []⟩ (.slice xa s.t.length xc) (.slice none 0 0))).length) := hid info_st.out
  have HIG : Hid ((Tryz.prog.info? 32).map (·.size) = some ((spC ⟨s.op + 20, s.fm, s.fd, 0, 0, 0, 0, step.fd0, step.va0, s.t, []⟩ (.slice xa s.t.length xc) (.slice none 0 0))).toArray.size) := hid info_st.out
  have HON : Hid (((spC ⟨s.op + 20, s.fm, s.fd, 0, 0, 0, 0, step.fd0, step.va0, s.t, []⟩ (.slice xa s.t.length xc) (.slice none 0 0))).toArray.all (·.oneCell') = true) := hid (one_16 _ _ _ rfl rfl)
  go_wp2_with (first
   | (with_reducible refine wpList_load_mid rfl 32 (.tmp 9) rfl (B2 + 1) 0 rfl (spC ⟨s.op + 20, s.fm, s.fd, 0, 0, 0, 0, step.fd0, step.va0, s.t, []⟩ (.slice xa s.t.length xc) (.slice none 0 0)) _ HRG.out Tryz.underlying32 rfl HIS.out ?_)
   | (with_reducible refine wpList_store_named rfl 32 (.tmp 4) (.tmp 113) rfl (w.heap.size + 1 + 1) 0 ((spC ⟨s.op + 20, s.fm, s.fd, 0, 0, 0, 0, step.fd0, step.va0, s.t, []⟩ (.slice xa s.t.length xc) (.slice none 0 0))).toArray rfl rfl HTH.out HIG.out HON.out ?_))
  intro w10 hw10
  have HDO := HV9.out.done (spC ⟨s.op + 20, s.fm, s.fd, 0, 0, 0, 0, step.fd0, step.va0, s.t, []⟩ (.slice xa s.t.length xc) (.slice none 0 0)) rfl
  rw [show wd3.setCells (w.heap.size + 1 + 1) 0 (spC ⟨s.op + 20, s.fm, s.fd, 0, 0, 0, 0, step.fd0, step.va0, s.t, []⟩ (.slice xa s.t.length xc) (.slice none 0 0)) = w10 from hw10.out] at HDO
  go_wp2
  refine bodyPost_ret (results_cell (b := w.heap.size + 1 + 1) (o := 0) rfl rfl HDO.1.whole Tryz.underlying32 rfl info_st.out) rfl ?_
  exact ⟨_, _, none, 0, rfl, ⟨(HDO.2.2.2).row HXO, World.ownsRow_nil _ _ _ _⟩, HDO.2.1⟩
 ·
  have d1 : (s.op == 1) = false := by simp [e]
  have d2 : (s.op == 2) = false := by simp [e]
  have d3 : (s.op == 3) = false := by simp [e]
  have d4 : (s.op == 4) = false := by simp [e]
  have d5 : (s.op == 5) = false := by simp [e]
  have d6 : (s.op == 6) = true := by simp [e]
  obtain rfl := HR6.out e
  clear e
  refine hid ?_
  go_wp2
  have HD := HV.out.later (w' := W6.drew) (below_drewN (Below.refl _ _) 1)
  refine plan.regionS (S := fun w' => ∃ X, Iv w.heap.size (w.heap.size + 1) (w.heap.size + 1 + 1) B1 B2 (B2 + 1) w s ta tc la lc c (some ⟨gb, go_, none⟩) fc X w') ?_
  obtain ⟨wd0, hwd0⟩ : ∃ x, Hid (W6.drew = x) := ⟨_, hid rfl⟩
  rw [hwd0.out] at HD ⊢
  have hS : ∃ X, Iv w.heap.size (w.heap.size + 1) (w.heap.size + 1 + 1) B1 B2 (B2 + 1) w s ta tc la lc c (some ⟨gb, go_, none⟩) fc X wd0 := ⟨_, HD⟩
  refine plan.firstS 0 _ (.pointer (some ⟨w.heap.size + 1, 2, none⟩)) rfl (fun w' hS' => (by kernel_rfl)) hS ?_
  refine plan.firstS 1 _ (.int .i64 s.fd) rfl (fun w' hS' => hS'.elim fun X hX => exec_cell_int (ad := ⟨w.heap.size + 1, 2, none⟩) rfl (by kernel_rfl) (hX.step.cell 2) Tryz.isAgg3) hS ?_
  refine plan.firstS 2 _ (.pointer (some ⟨w.heap.size + 1, 5, none⟩)) rfl (fun w' hS' => (by kernel_rfl)) hS ?_
  refine plan.firstS 3 _ (.int .i64 s.a) rfl (fun w' hS' => hS'.elim fun X hX => exec_cell_int (ad := ⟨w.heap.size + 1, 5, none⟩) rfl (by kernel_rfl) (hX.step.cell 5) Tryz.isAgg3) hS ?_
  refine plan.firstS 4 _ (.pointer (some ⟨w.heap.size + 1, 4, none⟩)) rfl (fun w' hS' => (by kernel_rfl)) hS ?_
  refine plan.firstS 5 _ (.int .i64 s.tt) rfl (fun w' hS' => hS'.elim fun X hX => exec_cell_int (ad := ⟨w.heap.size + 1, 4, none⟩) rfl (by kernel_rfl) (hX.step.cell 4) Tryz.isAgg3) hS ?_
  refine plan.firstS 6 _ (zF c.old) rfl (fun w' hS' => hS'.elim fun X hX => exec_load_at (b := B2) (off := 0) rfl hX.old.whole Tryz.underlying26 rfl info_fd.out) hS ?_
  refine plan.firstS 7 _ (.pointer (some ⟨B2 + 1, 2, none⟩)) rfl (fun w' hS' => (by kernel_rfl)) hS ?_
  obtain ⟨wd1, hwd1⟩ : ∃ x, Hid (wd0.setCells (B2 + 1) 2 [.int .i64 s.fd] = x) := ⟨_, hid rfl⟩
  have HE := HD.put 2 [.int .i64 s.fd]
  rw [hwd1.out] at HE
  have hS2 : ∃ X, Iv w.heap.size (w.heap.size + 1) (w.heap.size + 1 + 1) B1 B2 (B2 + 1) w s ta tc la lc c (some ⟨gb, go_, none⟩) fc X wd1 := ⟨_, HE⟩
  refine plan.thenS (w1 := wd1) 8 _ rfl rfl rfl (by rw [← hwd1.out]; exact exec_put_i64 rfl (HD.back.cell 2) (HD.back.frozen 2)) hS2 ?_
  clear HD hS hwd1
  have HD := HE
  have hS := hS2
  clear HE hS2
  refine plan.firstS 9 _ (.pointer (some ⟨B2 + 1, 5, none⟩)) rfl (fun w' hS' => (by kernel_rfl)) hS ?_
  obtain ⟨wd2, hwd2⟩ : ∃ x, Hid (wd1.setCells (B2 + 1) 5 [.int .i64 s.a] = x) := ⟨_, hid rfl⟩
  have HE := HD.put 5 [.int .i64 s.a]
  rw [hwd2.out] at HE
  have hS2 : ∃ X, Iv w.heap.size (w.heap.size + 1) (w.heap.size + 1 + 1) B1 B2 (B2 + 1) w s ta tc la lc c (some ⟨gb, go_, none⟩) fc X wd2 := ⟨_, HE⟩
  refine plan.thenS (w1 := wd2) 10 _ rfl rfl rfl (by rw [← hwd2.out]; exact exec_put_i64 rfl (HD.back.cell 5) (HD.back.frozen 5)) hS2 ?_
  clear HD hS hwd2
  have HD := HE
  have hS := hS2
  clear HE hS2
  refine plan.firstS 11 _ (.pointer (some ⟨B2 + 1, 4, none⟩)) rfl (fun w' hS' => (by kernel_rfl)) hS ?_
  obtain ⟨wd3, hwd3⟩ : ∃ x, Hid (wd2.setCells (B2 + 1) 4 [.int .i64 s.tt] = x) := ⟨_, hid rfl⟩
  have HE := HD.put 4 [.int .i64 s.tt]
  rw [hwd3.out] at HE
  have hS2 : ∃ X, Iv w.heap.size (w.heap.size + 1) (w.heap.size + 1 + 1) B1 B2 (B2 + 1) w s ta tc la lc c (some ⟨gb, go_, none⟩) fc X wd3 := ⟨_, HE⟩
  refine plan.thenS (w1 := wd3) 12 _ rfl rfl rfl (by rw [← hwd3.out]; exact exec_put_i64 rfl (HD.back.cell 4) (HD.back.frozen 4)) hS2 ?_
  clear HD hS hwd3
  have HD := HE
  have hS := hS2
  clear HE hS2
  refine plan.firstS 13 _ (.pointer (some ⟨B2 + 1, 7, none⟩)) rfl (fun w' hS' => (by kernel_rfl)) hS ?_
  obtain ⟨wd4, hwd4⟩ : ∃ x, Hid (wd3.setCells (B2 + 1) 7 (zF c.old) = x) := ⟨_, hid rfl⟩
  have HE := HD.put 7 (zF c.old)
  rw [hwd4.out] at HE
  have hS2 : ∃ X, Iv w.heap.size (w.heap.size + 1) (w.heap.size + 1 + 1) B1 B2 (B2 + 1) w s ta tc la lc c (some ⟨gb, go_, none⟩) fc X wd4 := ⟨_, HE⟩
  refine plan.lastS (w1 := wd4) 14 _ rfl rfl rfl (by rw [← hwd4.out]; exact exec_put_agg (cells := (zF c.old)) rfl HD.back (by simp [put]) info_fd.out (by simp [Value.oneCell'])) hS2 ?_
  clear HD hS hwd4
  have HD := HE
  have hS := hS2
  clear HE hS2
  have HV9 : Hid (Iv w.heap.size (w.heap.size + 1) (w.heap.size + 1 + 1) B1 B2 (B2 + 1) w s ta tc la lc c (some ⟨gb, go_, none⟩) fc (spC ⟨s.op + 20, s.fm, s.fd, 0, s.tt, s.a, 0, c.old, step.va0, [], []⟩ (.slice none 0 0) (.slice none 0 0)) wd4) := hid HD
  clear HD hS HV
  walk_nrm
  have HRG := hid HV9.out.back.whole
  have HTH : Hid (wd4.there (w.heap.size + 1 + 1) 0 ((spC ⟨s.op + 20, s.fm, s.fd, 0, s.tt, s.a, 0, c.old, step.va0, [], []⟩ (.slice none 0 0) (.slice none 0 0))).toArray.size) := hid (HV9.out.res.there 0 16 (Nat.le_refl _))
  have HIS : Hid ((Tryz.prog.info? 32).map (·.size) = some ((spC ⟨s.op + 20, s.fm, s.fd, 0, s.tt, s.a, 0, c.old, step.va0, [], []⟩ (.slice none 0 0) (.slice none 0 0))).length) := hid info_st.out
  have HIG : Hid ((Tryz.prog.info? 32).map (·.size) = some ((spC ⟨s.op + 20, s.fm, s.fd, 0, s.tt, s.a, 0, c.old, step.va0, [], []⟩ (.slice none 0 0) (.slice none 0 0))).toArray.size) := hid info_st.out
  have HON : Hid (((spC ⟨s.op + 20, s.fm, s.fd, 0, s.tt, s.a, 0, c.old, step.va0, [], []⟩ (.slice none 0 0) (.slice none 0 0))).toArray.all (·.oneCell') = true) := hid (one_16 _ _ _ rfl rfl)
  go_wp2_with (first
   | (with_reducible refine wpList_load_mid rfl 32 (.tmp 9) rfl (B2 + 1) 0 rfl (spC ⟨s.op + 20, s.fm, s.fd, 0, s.tt, s.a, 0, c.old, step.va0, [], []⟩ (.slice none 0 0) (.slice none 0 0)) _ HRG.out Tryz.underlying32 rfl HIS.out ?_)
   | (with_reducible refine wpList_store_named rfl 32 (.tmp 4) (.tmp 113) rfl (w.heap.size + 1 + 1) 0 ((spC ⟨s.op + 20, s.fm, s.fd, 0, s.tt, s.a, 0, c.old, step.va0, [], []⟩ (.slice none 0 0) (.slice none 0 0))).toArray rfl rfl HTH.out HIG.out HON.out ?_))
  intro w10 hw10
  have HDO := HV9.out.done (spC ⟨s.op + 20, s.fm, s.fd, 0, s.tt, s.a, 0, c.old, step.va0, [], []⟩ (.slice none 0 0) (.slice none 0 0)) rfl
  rw [show wd4.setCells (w.heap.size + 1 + 1) 0 (spC ⟨s.op + 20, s.fm, s.fd, 0, s.tt, s.a, 0, c.old, step.va0, [], []⟩ (.slice none 0 0) (.slice none 0 0)) = w10 from hw10.out] at HDO
  go_wp2
  refine bodyPost_ret (results_cell (b := w.heap.size + 1 + 1) (o := 0) rfl rfl HDO.1.whole Tryz.underlying32 rfl info_st.out) rfl ?_
  exact ⟨none, 0, none, 0, rfl, OwnS.nil _ _ _ rfl rfl, HDO.2.1⟩
 ·
  have d1 : (s.op == 1) = false := by simp [e]
  have d2 : (s.op == 2) = false := by simp [e]
  have d3 : (s.op == 3) = false := by simp [e]
  have d4 : (s.op == 4) = false := by simp [e]
  have d5 : (s.op == 5) = false := by simp [e]
  have d6 : (s.op == 6) = false := by simp [e]
  have d7 : (s.op == 7) = true := by simp [e]
  obtain rfl := HR7.out e
  clear e
  refine hid ?_
  have u2 := HV.out.step.cell 2
  have b2 := HV.out.back.cell 2
  have g2 := HV.out.back.frozen 2
  have b3 := HV.out.back.cell 3
  have g3 := HV.out.back.frozen 3
  have HV9 : Hid (Iv w.heap.size (w.heap.size + 1) (w.heap.size + 1 + 1) B1 B2 (B2 + 1) w s ta tc la lc c (some ⟨gb, go_, none⟩) fc (spC ⟨s.op + 20, s.fm, s.fd, c.at_, 0, 0, 0, step.fd0, step.va0, [], []⟩ (.slice none 0 0) (.slice none 0 0)) ((W6.setCell ⟨B2 + 1, 2, none⟩ (.int .i64 s.fd)).setCell ⟨B2 + 1, 3, none⟩ (.int .i64 c.at_))) := hid (((HV.out).put 2 [.int .i64 s.fd]).put 3 [.int .i64 c.at_])
  have HRG := hid HV9.out.back.whole
  have HTH : Hid (((W6.setCell ⟨B2 + 1, 2, none⟩ (.int .i64 s.fd)).setCell ⟨B2 + 1, 3, none⟩ (.int .i64 c.at_)).there (w.heap.size + 1 + 1) 0 ((spC ⟨s.op + 20, s.fm, s.fd, c.at_, 0, 0, 0, step.fd0, step.va0, [], []⟩ (.slice none 0 0) (.slice none 0 0))).toArray.size) := hid (HV9.out.res.there 0 16 (Nat.le_refl _))
  have HIS : Hid ((Tryz.prog.info? 32).map (·.size) = some ((spC ⟨s.op + 20, s.fm, s.fd, c.at_, 0, 0, 0, step.fd0, step.va0, [], []⟩ (.slice none 0 0) (.slice none 0 0))).length) := hid info_st.out
  have HIG : Hid ((Tryz.prog.info? 32).map (·.size) = some ((spC ⟨s.op + 20, s.fm, s.fd, c.at_, 0, 0, 0, step.fd0, step.va0, [], []⟩ (.slice none 0 0) (.slice none 0 0))).toArray.size) := hid info_st.out
  have HON : Hid (((spC ⟨s.op + 20, s.fm, s.fd, c.at_, 0, 0, 0, step.fd0, step.va0, [], []⟩ (.slice none 0 0) (.slice none 0 0))).toArray.all (·.oneCell') = true) := hid (one_16 _ _ _ rfl rfl)
  go_wp2_with (first
   | (with_reducible refine wpList_load_mid rfl 32 (.tmp 9) rfl (B2 + 1) 0 rfl (spC ⟨s.op + 20, s.fm, s.fd, c.at_, 0, 0, 0, step.fd0, step.va0, [], []⟩ (.slice none 0 0) (.slice none 0 0)) _ HRG.out Tryz.underlying32 rfl HIS.out ?_)
   | (with_reducible refine wpList_store_named rfl 32 (.tmp 4) (.tmp 113) rfl (w.heap.size + 1 + 1) 0 ((spC ⟨s.op + 20, s.fm, s.fd, c.at_, 0, 0, 0, step.fd0, step.va0, [], []⟩ (.slice none 0 0) (.slice none 0 0))).toArray rfl rfl HTH.out HIG.out HON.out ?_))
  intro w10 hw10
  have HDO := HV9.out.done (spC ⟨s.op + 20, s.fm, s.fd, c.at_, 0, 0, 0, step.fd0, step.va0, [], []⟩ (.slice none 0 0) (.slice none 0 0)) rfl
  rw [show ((W6.setCell ⟨B2 + 1, 2, none⟩ (.int .i64 s.fd)).setCell ⟨B2 + 1, 3, none⟩ (.int .i64 c.at_)).setCells (w.heap.size + 1 + 1) 0 (spC ⟨s.op + 20, s.fm, s.fd, c.at_, 0, 0, 0, step.fd0, step.va0, [], []⟩ (.slice none 0 0) (.slice none 0 0)) = w10 from hw10.out] at HDO
  go_wp2
  refine bodyPost_ret (results_cell (b := w.heap.size + 1 + 1) (o := 0) rfl rfl HDO.1.whole Tryz.underlying32 rfl info_st.out) rfl ?_
  exact ⟨none, 0, none, 0, rfl, OwnS.nil _ _ _ rfl rfl, HDO.2.1⟩
 ·
  have d1 : (s.op == 1) = false := by simp [e]
  have d2 : (s.op == 2) = false := by simp [e]
  have d3 : (s.op == 3) = false := by simp [e]
  have d4 : (s.op == 4) = false := by simp [e]
  have d5 : (s.op == 5) = false := by simp [e]
  have d6 : (s.op == 6) = false := by simp [e]
  have d7 : (s.op == 7) = false := by simp [e]
  have d8 : (s.op == 8) = true := by simp [e]
  obtain rfl := HR8.out e
  clear e
  refine hid ?_
  go_wp2
  have HD := HV.out.later (w' := W6.drew) (below_drewN (Below.refl _ _) 1)
  refine plan.regionS (S := fun w' => ∃ X, Iv w.heap.size (w.heap.size + 1) (w.heap.size + 1 + 1) B1 B2 (B2 + 1) w s ta tc la lc c (some ⟨gb, go_, none⟩) fc X w') ?_
  obtain ⟨wd0, hwd0⟩ : ∃ x, Hid (W6.drew = x) := ⟨_, hid rfl⟩
  rw [hwd0.out] at HD ⊢
  have hS : ∃ X, Iv w.heap.size (w.heap.size + 1) (w.heap.size + 1 + 1) B1 B2 (B2 + 1) w s ta tc la lc c (some ⟨gb, go_, none⟩) fc X wd0 := ⟨_, HD⟩
  refine plan.firstS 0 _ (.pointer (some ⟨w.heap.size + 1, 4, none⟩)) rfl (fun w' hS' => (by kernel_rfl)) hS ?_
  refine plan.firstS 1 _ (.int .i64 s.tt) rfl (fun w' hS' => hS'.elim fun X hX => exec_cell_int (ad := ⟨w.heap.size + 1, 4, none⟩) rfl (by kernel_rfl) (hX.step.cell 4) Tryz.isAgg3) hS ?_
  refine plan.firstS 2 _ (.pointer (some ⟨w.heap.size + 1, 2, none⟩)) rfl (fun w' hS' => (by kernel_rfl)) hS ?_
  refine plan.firstS 3 _ (.int .i64 s.fd) rfl (fun w' hS' => hS'.elim fun X hX => exec_cell_int (ad := ⟨w.heap.size + 1, 2, none⟩) rfl (by kernel_rfl) (hX.step.cell 2) Tryz.isAgg3) hS ?_
  refine plan.firstS 4 _ (.pointer (some ⟨B2 + 1, 2, none⟩)) rfl (fun w' hS' => (by kernel_rfl)) hS ?_
  obtain ⟨wd1, hwd1⟩ : ∃ x, Hid (wd0.setCells (B2 + 1) 2 [.int .i64 s.tt] = x) := ⟨_, hid rfl⟩
  have HE := HD.put 2 [.int .i64 s.tt]
  rw [hwd1.out] at HE
  have hS2 : ∃ X, Iv w.heap.size (w.heap.size + 1) (w.heap.size + 1 + 1) B1 B2 (B2 + 1) w s ta tc la lc c (some ⟨gb, go_, none⟩) fc X wd1 := ⟨_, HE⟩
  refine plan.thenS (w1 := wd1) 5 _ rfl rfl rfl (by rw [← hwd1.out]; exact exec_put_i64 rfl (HD.back.cell 2) (HD.back.frozen 2)) hS2 ?_
  clear HD hS hwd1
  have HD := HE
  have hS := hS2
  clear HE hS2
  refine plan.firstS 6 _ (.pointer (some ⟨B2 + 1, 4, none⟩)) rfl (fun w' hS' => (by kernel_rfl)) hS ?_
  obtain ⟨wd2, hwd2⟩ : ∃ x, Hid (wd1.setCells (B2 + 1) 4 [.int .i64 s.fd] = x) := ⟨_, hid rfl⟩
  have HE := HD.put 4 [.int .i64 s.fd]
  rw [hwd2.out] at HE
  have hS2 : ∃ X, Iv w.heap.size (w.heap.size + 1) (w.heap.size + 1 + 1) B1 B2 (B2 + 1) w s ta tc la lc c (some ⟨gb, go_, none⟩) fc X wd2 := ⟨_, HE⟩
  refine plan.lastS (w1 := wd2) 7 _ rfl rfl rfl (by rw [← hwd2.out]; exact exec_put_i64 rfl (HD.back.cell 4) (HD.back.frozen 4)) hS2 ?_
  clear HD hS hwd2
  have HD := HE
  have hS := hS2
  clear HE hS2
  have HV9 : Hid (Iv w.heap.size (w.heap.size + 1) (w.heap.size + 1 + 1) B1 B2 (B2 + 1) w s ta tc la lc c (some ⟨gb, go_, none⟩) fc (spC ⟨s.op + 20, s.fm, s.tt, 0, s.fd, 0, 0, step.fd0, step.va0, [], []⟩ (.slice none 0 0) (.slice none 0 0)) wd2) := hid HD
  clear HD hS HV
  walk_nrm
  have HRG := hid HV9.out.back.whole
  have HTH : Hid (wd2.there (w.heap.size + 1 + 1) 0 ((spC ⟨s.op + 20, s.fm, s.tt, 0, s.fd, 0, 0, step.fd0, step.va0, [], []⟩ (.slice none 0 0) (.slice none 0 0))).toArray.size) := hid (HV9.out.res.there 0 16 (Nat.le_refl _))
  have HIS : Hid ((Tryz.prog.info? 32).map (·.size) = some ((spC ⟨s.op + 20, s.fm, s.tt, 0, s.fd, 0, 0, step.fd0, step.va0, [], []⟩ (.slice none 0 0) (.slice none 0 0))).length) := hid info_st.out
  have HIG : Hid ((Tryz.prog.info? 32).map (·.size) = some ((spC ⟨s.op + 20, s.fm, s.tt, 0, s.fd, 0, 0, step.fd0, step.va0, [], []⟩ (.slice none 0 0) (.slice none 0 0))).toArray.size) := hid info_st.out
  have HON : Hid (((spC ⟨s.op + 20, s.fm, s.tt, 0, s.fd, 0, 0, step.fd0, step.va0, [], []⟩ (.slice none 0 0) (.slice none 0 0))).toArray.all (·.oneCell') = true) := hid (one_16 _ _ _ rfl rfl)
  go_wp2_with (first
   | (with_reducible refine wpList_load_mid rfl 32 (.tmp 9) rfl (B2 + 1) 0 rfl (spC ⟨s.op + 20, s.fm, s.tt, 0, s.fd, 0, 0, step.fd0, step.va0, [], []⟩ (.slice none 0 0) (.slice none 0 0)) _ HRG.out Tryz.underlying32 rfl HIS.out ?_)
   | (with_reducible refine wpList_store_named rfl 32 (.tmp 4) (.tmp 113) rfl (w.heap.size + 1 + 1) 0 ((spC ⟨s.op + 20, s.fm, s.tt, 0, s.fd, 0, 0, step.fd0, step.va0, [], []⟩ (.slice none 0 0) (.slice none 0 0))).toArray rfl rfl HTH.out HIG.out HON.out ?_))
  intro w10 hw10
  have HDO := HV9.out.done (spC ⟨s.op + 20, s.fm, s.tt, 0, s.fd, 0, 0, step.fd0, step.va0, [], []⟩ (.slice none 0 0) (.slice none 0 0)) rfl
  rw [show wd2.setCells (w.heap.size + 1 + 1) 0 (spC ⟨s.op + 20, s.fm, s.tt, 0, s.fd, 0, 0, step.fd0, step.va0, [], []⟩ (.slice none 0 0) (.slice none 0 0)) = w10 from hw10.out] at HDO
  go_wp2
  refine bodyPost_ret (results_cell (b := w.heap.size + 1 + 1) (o := 0) rfl rfl HDO.1.whole Tryz.underlying32 rfl info_st.out) rfl ?_
  exact ⟨none, 0, none, 0, rfl, OwnS.nil _ _ _ rfl rfl, HDO.2.1⟩
 ·
  have d1 : (s.op == 1) = false := by simp [e]
  have d2 : (s.op == 2) = false := by simp [e]
  have d3 : (s.op == 3) = false := by simp [e]
  have d4 : (s.op == 4) = false := by simp [e]
  have d5 : (s.op == 5) = false := by simp [e]
  have d6 : (s.op == 6) = false := by simp [e]
  have d7 : (s.op == 7) = false := by simp [e]
  have d8 : (s.op == 8) = false := by simp [e]
  have d10 : (s.op == 10) = true := by simp [e]
  obtain rfl := HR10.out e
  clear e
  refine hid ?_
  have u1 := HV.out.form.cell 1
  have b15 := HV.out.back.cell 15
  have g15 := HV.out.back.frozen 15
  have HV9 : Hid (Iv w.heap.size (w.heap.size + 1) (w.heap.size + 1 + 1) B1 B2 (B2 + 1) w s ta tc la lc c (some ⟨gb, go_, none⟩) fc (spC ⟨s.op + 20, s.fm, 0, 0, 0, 0, 0, step.fd0, step.va0, [], c.L⟩ (.slice none 0 0) (.slice (some ⟨gb, go_, none⟩) c.L.length fc)) (W6.setCell ⟨B2 + 1, 15, none⟩ (.slice (some ⟨gb, go_, none⟩) c.L.length fc))) := hid ((HV.out).put 15 [.slice (some ⟨gb, go_, none⟩) c.L.length fc])
  have HRG := hid HV9.out.back.whole
  have HTH : Hid ((W6.setCell ⟨B2 + 1, 15, none⟩ (.slice (some ⟨gb, go_, none⟩) c.L.length fc)).there (w.heap.size + 1 + 1) 0 ((spC ⟨s.op + 20, s.fm, 0, 0, 0, 0, 0, step.fd0, step.va0, [], c.L⟩ (.slice none 0 0) (.slice (some ⟨gb, go_, none⟩) c.L.length fc))).toArray.size) := hid (HV9.out.res.there 0 16 (Nat.le_refl _))
  have HIS : Hid ((Tryz.prog.info? 32).map (·.size) = some ((spC ⟨s.op + 20, s.fm, 0, 0, 0, 0, 0, step.fd0, step.va0, [], c.L⟩ (.slice none 0 0) (.slice (some ⟨gb, go_, none⟩) c.L.length fc))).length) := hid info_st.out
  have HIG : Hid ((Tryz.prog.info? 32).map (·.size) = some ((spC ⟨s.op + 20, s.fm, 0, 0, 0, 0, 0, step.fd0, step.va0, [], c.L⟩ (.slice none 0 0) (.slice (some ⟨gb, go_, none⟩) c.L.length fc))).toArray.size) := hid info_st.out
  have HON : Hid (((spC ⟨s.op + 20, s.fm, 0, 0, 0, 0, 0, step.fd0, step.va0, [], c.L⟩ (.slice none 0 0) (.slice (some ⟨gb, go_, none⟩) c.L.length fc))).toArray.all (·.oneCell') = true) := hid (one_16 _ _ _ rfl rfl)
  go_wp2_with (first
   | (with_reducible refine wpList_load_mid rfl 32 (.tmp 9) rfl (B2 + 1) 0 rfl (spC ⟨s.op + 20, s.fm, 0, 0, 0, 0, 0, step.fd0, step.va0, [], c.L⟩ (.slice none 0 0) (.slice (some ⟨gb, go_, none⟩) c.L.length fc)) _ HRG.out Tryz.underlying32 rfl HIS.out ?_)
   | (with_reducible refine wpList_store_named rfl 32 (.tmp 4) (.tmp 113) rfl (w.heap.size + 1 + 1) 0 ((spC ⟨s.op + 20, s.fm, 0, 0, 0, 0, 0, step.fd0, step.va0, [], c.L⟩ (.slice none 0 0) (.slice (some ⟨gb, go_, none⟩) c.L.length fc))).toArray rfl rfl HTH.out HIG.out HON.out ?_))
  intro w10 hw10
  have HDO := HV9.out.done (spC ⟨s.op + 20, s.fm, 0, 0, 0, 0, 0, step.fd0, step.va0, [], c.L⟩ (.slice none 0 0) (.slice (some ⟨gb, go_, none⟩) c.L.length fc)) rfl
  rw [show (W6.setCell ⟨B2 + 1, 15, none⟩ (.slice (some ⟨gb, go_, none⟩) c.L.length fc)).setCells (w.heap.size + 1 + 1) 0 (spC ⟨s.op + 20, s.fm, 0, 0, 0, 0, 0, step.fd0, step.va0, [], c.L⟩ (.slice none 0 0) (.slice (some ⟨gb, go_, none⟩) c.L.length fc)) = w10 from hw10.out] at HDO
  go_wp2
  refine bodyPost_ret (results_cell (b := w.heap.size + 1 + 1) (o := 0) rfl rfl HDO.1.whole Tryz.underlying32 rfl info_st.out) rfl ?_
  exact ⟨none, 0, _, _, rfl, ⟨World.ownsRow_nil _ _ _ _, (HDO.2.2.1).row HV9.out.row⟩, HDO.2.1⟩
end Go.Proofs.YtaciegkblklokaaGreat.pair
