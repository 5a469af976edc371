/- Contracts and lemmas that the claims of this seat share: TypingBegin, TypingRef, TypingOnMath, PairMath, StepRow. Each says its own conditions. -/
import Derived.Test.YtaciegkblklokaaGreatCmH
import Derived.Test.YtaciegkblklokaaGreatCmJ
import Derived.Test.YtaciegkblklokaaGreatCmI
import Derived.Deep.RegionHeld3
import Derived.Test.YtaciegkblklokaaGreatCmC
import Derived.Test.YtaciegkblklokaaGreatCmA
import Derived.Test.YtaciegkblklokaaGreatCmF
import Derived.Test.YtaciegkblklokaaGreatCmB
import Derived.Conc.WalkWords
set_option linter.unusedVariables false
namespace Go.Proofs.YtaciegkblklokaaGreat.typing
open Go.RowKit Go.Proofs.YtaciegkblklokaaGreat.schema
open Go.Proofs.YtaciegkblklokaaGreat.field (Gives newB gives_from)
open Go.Proofs.YtaciegkblklokaaGreat.step (Lists)
theorem one_nil : ∀ v ∈ ([] : List Value), v.oneCell' = true := by simp
theorem one_cons {x : Value} {l : List Value} (h : x.oneCell' = true) (k : ∀ v ∈ l, v.oneCell' = true) : ∀ v ∈ x :: l, v.oneCell' = true := by
 intro v hv
 rcases List.mem_cons.1 hv with rfl | h2
 ·exact h
 ·exact k v h2
def KP (T B0 : Nat) (w : World) (fa : Option Addr) (fc : Nat) (L : List field.Fd) (w' : World) : Prop := w'.ownsRow T 26 5 (.slice fa L.length fc) L.length (fdV L) ∧ Below B0 w w'
theorem KP.cells {T B0 S o : Nat} {w w' : World} {fa : Option Addr} {fc : Nat} {L : List field.Fd} {vs : List Value} (h : KP T B0 w fa fc L w') (h1 : B0 ≤ S) (h2 : S < T) : KP T B0 w fa fc L (w'.setCells S o vs) :=
 ⟨ownsRow_heap h.1 (fun g hg => by have := World.ownsRow.lt h.1 g hg; exact heap_setCells S vs o w' g (by omega)), below_setCells h.2 h1 o vs⟩
theorem KP.cell {T B0 S o : Nat} {w w' : World} {fa : Option Addr} {fc : Nat} {L : List field.Fd} {v : Value} (h : KP T B0 w fa fc L w') (h1 : B0 ≤ S) (h2 : S < T) : KP T B0 w fa fc L (w'.setCell ⟨S, o, none⟩ v) := h.cells (vs := [v]) h1 h2
theorem KP.later {T B0 : Nat} {w w' w2 : World} {fa : Option Addr} {fc : Nat} {L : List field.Fd} (h : KP T B0 w fa fc L w') (hb : Below w'.heap.size w' w2) (hT : B0 ≤ w'.heap.size) : KP T B0 w fa fc L w2 := ⟨ownsRow_later h.1 hb, h.2.trans (hb.mono hT)⟩
theorem st_info : (Tryz.prog.info? 32).map (·.size) = some 16 := by kernel_rfl
theorem fids_map (F : List Fm) : fids F = (forms F).map (·.1) := fids_forms F
theorem begin_s (F : List schema.Form) (s : step.Sp) : (begin_ F s).s = s := by unfold begin_; split <;> rfl
theorem begin_at (F : List schema.Form) (s : step.Sp) : (begin_ F s).at_ = firstAt (ids (begin_ F s).L) s.fd ∧ (begin_ F s).old = oldAt (begin_ F s).L (begin_ F s).at_ := by
 unfold begin_
 split
 ·exact ⟨rfl, rfl⟩
 ·refine ⟨(firstAt_neg1 (by simp [ids])).symm, ?_⟩
  unfold oldAt
  rw [if_neg (by simp)]
theorem begin_len {F : List Fm} {w : World} (hF : Small w F) (s : step.Sp) : (begin_ (forms F) s).L.length ≤ 40 := by
 unfold begin_
 split
 ·rename_i p hp
  obtain ⟨q, hq, rfl⟩ := List.mem_map.1 (named_some hp).1
  exact (hF.2 q hq).2
 ·simp
theorem form_named (v : Int) (a : Option Addr) (cc : Nat) (F : List Fm) (s : step.Sp) (c : Ch) (hc : c = begin_ (forms F) s) (w : World) (h : FmL w a F) (hF : Small w F) :
  Calls Tryz.prog 40 #[zS v a F.length cc, .int .i64 s.fm] w fun e w' => ∃ fa fc, e = .returned (.tuple #[zS c.fi fa c.L.length fc, .bool c.kn]) ∧ w'.ownsRow w.heap.size 26 5 (.slice fa c.L.length fc) c.L.length (fdV c.L) ∧ Below w.heap.size w w' := by
 have hl : F.length ≤ maxLen := by have := hF.1; unfold maxLen; omega
 cases hn : named (forms F) s.fm with
 | none =>
  have e : c = ⟨s, 0, [], false, -1, step.fd0⟩ := by rw [hc]; unfold begin_; rw [hn]
  subst e
  refine (form_no v a cc F s.fm w h hl (by rw [fids_map]; exact named_none hn)).mono ?_
  rintro e w' ⟨rfl, hb⟩
  exact ⟨none, 0, rfl, World.ownsRow_nil _ _ _ _, hb⟩
 | some p =>
  have e : c = ⟨s, s.fm, p.2, true, firstAt (ids p.2) s.fd, oldAt p.2 (firstAt (ids p.2) s.fd)⟩ := by rw [hc]; unfold begin_; rw [hn]
  subst e
  obtain ⟨i, hi, hpi⟩ := List.find?_eq_some_iff_getElem.1 hn |>.2
  have hi2 : i < F.length := by rwa [forms_length] at hi
  have hq : F[i]? = some F[i] := List.getElem?_eq_getElem hi2
  have hp : F[i].p = p := by
   have := forms_at hq
   rw [List.getElem?_eq_getElem hi] at this
   exact (Option.some.inj this).symm.trans hpi.1
  have hid : F[i].id = s.fm := by
   have := (named_some hn).2
   rw [← hp] at this
   exact this
  refine (form_own v a cc F s.fm i F[i] w h hl hq hid ?_ (by have := (hF.2 _ (List.getElem_mem hi2)).2; omega)).mono ?_
  ·rw [fids_map]
   intro hm
   rw [← List.map_take] at hm
   obtain ⟨q, hq1, hq2⟩ := List.mem_map.1 hm
   obtain ⟨j, hj, hjq⟩ := List.mem_take_iff_getElem.1 hq1
   have := hpi.2 j (by omega)
   rw [hjq] at this
   simp [hq2] at this
  ·rintro e w' ⟨y, cap, rfl, h1, h2⟩
   have hL : F[i].fL = p.2 := by rw [← hp]; rfl
   rw [hL] at h1 ⊢
   exact ⟨y, cap, rfl, h1, h2⟩
set_option maxRecDepth 20000 in
set_option maxHeartbeats 3200000 in
theorem begin_any (v : Int) (a : Option Addr) (cc : Nat) (F : List Fm) (c : Ch) (hc : c = begin_ (forms F) c.s) (ta : Option Addr) (tc : Nat) (la : Option Addr) (lc : Nat) (w : World) (h : FmL w a F) (hF : Small w F) :
  Calls Tryz.prog 37 #[zS v a F.length cc, zP c.s ta tc la lc] w (fun e w' => ∃ fa fc, e = .returned (zH c ta tc la lc fa fc) ∧ field.Fds w' fa c.L ∧ Below w.heap.size w w') := by
 have hat : c.at_ = firstAt (ids c.L) c.s.fd := by have := (begin_at (forms F) c.s).1; rwa [← hc] at this
 have hold : c.old = oldAt c.L c.at_ := by have := (begin_at (forms F) c.s).2; rwa [← hc] at this
 have hln : c.L.length ≤ 40 := by have := begin_len hF c.s; rwa [← hc] at this
 obtain ⟨W, hW⟩ : ∃ W, W = (((((w.alloc (.cells (zS v a F.length cc) 24))).alloc (.cells (zP c.s ta tc la lc) 32)).alloc (.cells zY 77)).alloc (.cells zY 77)) := ⟨_, rfl⟩
 have hbw : Below w.heap.size w W := by rw [hW]; exact ((((Below.refl _ _).alloc (Nat.le_refl _) _).alloc (by simp) _).alloc (by simp; omega) _).alloc (by simp; omega) _
 have hsz : W.heap.size = w.heap.size + 4 := by rw [hW]; simp
 have k0 : Block W w.heap.size 24 (zS v a F.length cc) := by rw [hW]; exact (((Block.new w _ _).alloc _).alloc _).alloc _
 have k1 : Block W (w.heap.size + 1) 32 (zP c.s ta tc la lc) := by rw [hW]; have := ((Block.new ((w.alloc (.cells (zS v a F.length cc) 24))) 32 (zP c.s ta tc la lc)).alloc (.cells zY 77)).alloc (.cells zY 77); simpa using this
 have k2 : Block W (w.heap.size + 2) 77 zY := by rw [hW]; have := (Block.new (((w.alloc (.cells (zS v a F.length cc) 24))).alloc (.cells (zP c.s ta tc la lc) 32)) 77 zY).alloc (.cells zY 77); simpa using this
 have k3 : Block W (w.heap.size + 3) 77 zY := by rw [hW]; have := Block.new ((((w.alloc (.cells (zS v a F.length cc) 24))).alloc (.cells (zP c.s ta tc la lc) 32)).alloc (.cells zY 77)) 77 zY; simpa using this
 have HTH : Hid (W.there (w.heap.size + 3) 0 ((zG c ta tc la lc) : Array Value).size) := hid (k3.there 0 25 (by simp))
 have HRS : Hid (((((w.alloc (.cells (zS v a F.length cc) 24))).alloc (.cells (zP c.s ta tc la lc) 32)).alloc (.cells zY 77)).rangeAt (w.heap.size + 1) 0 (zP c.s ta tc la lc)) := hid (by
  have := ((Block.new ((w.alloc (.cells (zS v a F.length cc) 24))) 32 (zP c.s ta tc la lc)).alloc (.cells zY 77))
  have h2 : Block ((((w.alloc (.cells (zS v a F.length cc) 24))).alloc (.cells (zP c.s ta tc la lc) 32)).alloc (.cells zY 77)) (w.heap.size + 1) 32 (zP c.s ta tc la lc) := by simpa using this
  exact h2.whole)
 have HIS : Hid ((Tryz.prog.info? 32).map (·.size) = some ((zP c.s ta tc la lc) : List Value).length) := hid st_info
 have HIC : Hid ((Tryz.prog.info? 77).map (·.size) = some ((zG c ta tc la lc) : Array Value).size) := hid ch_info
 have HON : Hid (((zG c ta tc la lc) : Array Value).all (·.oneCell') = true) := hid (all_oneCell_toArray (by repeat (first | exact one_nil | refine one_cons rfl ?_)))
 have HAT := hid hat
 have HOLD := hid hold
 have K0 := hid k0
 have K1 := hid k1
 have K2 := hid k2
 have K3 := hid k3
 have HBW := hid hbw
 have HSZ := hid hsz
 have cFm := fun (w' : World) (hb : Below w.heap.size w w') => form_named v a cc F c.s c hc w' (h.below hb) (hF.below hb)
 clear hat hold k0 k1 k2 k3 hbw hsz h hF hc
 subst hW
 go_enter Tryz.func37, Tryz.ntmps37
 go_wp2_with (first
  | (with_reducible refine wpList_load_mid rfl 32 (.tmp 3) rfl (w.heap.size + 1) 0 rfl (zP c.s ta tc la lc) _ HRS.out Tryz.underlying32 rfl HIS.out ?_)
  | (with_reducible refine wpList_store_named rfl 77 (.tmp 5) (.tmp 7) rfl (w.heap.size + 3) 0 (zG c ta tc la lc) rfl rfl HTH.out HIC.out HON.out ?_))
 intro w1 hw1
 have HX : Hid (∀ w', Below w1.heap.size w1 w' → (Block w' w.heap.size 24 (zS v a F.length cc) ∧ Block w' (w.heap.size + 1) 32 (zP c.s ta tc la lc) ∧ Block w' (w.heap.size + 2) 77 zY ∧ Block w' (w.heap.size + 3) 77 (zG c ta tc la lc)) ∧ Below w.heap.size w w') := hid (fun w' hb => by
  have e3 : Block w1 (w.heap.size + 3) 77 (zG c ta tc la lc) := by
   have := K3.out.setCells (vs := (zG c ta tc la lc)) (o := 0)
   rw [put_all _ _ (by simp)] at this
   rw [← hw1.out]
   exact this
  have e0 : Block w1 w.heap.size 24 (zS v a F.length cc) := by rw [← hw1.out]; exact K0.out.aparts _ _ _ (by omega)
  have e1 : Block w1 (w.heap.size + 1) 32 (zP c.s ta tc la lc) := by rw [← hw1.out]; exact K1.out.aparts _ _ _ (by omega)
  have e2 : Block w1 (w.heap.size + 2) 77 zY := by rw [← hw1.out]; exact K2.out.aparts _ _ _ (by omega)
  refine ⟨⟨e0.later hb, e1.later hb, e2.later hb, e3.later hb⟩, ?_⟩
  have hb1 : Below w.heap.size w w1 := by rw [← hw1.out]; exact below_setCells HBW.out (by omega) _ _
  exact hb1.trans (hb.mono hb1.size))
 clear HRS HIS HTH HIC HON K0 K1 K2 K3 HBW HSZ hw1
 have hmx : c.L.length ≤ maxLen := by unfold maxLen; omega
 obtain ⟨B3, hB3⟩ : ∃ B3, w.heap.size + 1 + 1 + 1 = B3 := ⟨_, rfl⟩
 rw [hB3]
 obtain ⟨B2, hB2⟩ : ∃ B2, w.heap.size + 1 + 1 = B2 := ⟨_, rfl⟩
 rw [hB2]
 obtain ⟨B1, hB1⟩ : ∃ B1, w.heap.size + 1 = B1 := ⟨_, rfl⟩
 rw [hB1]
 obtain ⟨B0, hB0⟩ : ∃ B0, Hid (w.heap.size = B0) := ⟨_, rfl⟩
 rw [hB0.out] at hB1 hB2 hB3 HX cFm ⊢
 rw [show B0 + 1 = B1 by omega, show B0 + 2 = B2 by omega, show B0 + 3 = B3 by omega] at HX
 have n1 : B3 ≠ B2 := by omega
 have n2 : B2 ≠ B3 := by omega
 have n3 : B3 ≠ B1 := by omega
 have n4 : B1 ≠ B3 := by omega
 have n5 : B3 ≠ B0 := by omega
 have n6 : B0 ≠ B3 := by omega
 have HLB : Hid (B0 ≤ B2 ∧ B0 ≤ B3) := hid ⟨by omega, by omega⟩
 clear hB1 hB2 hB3
 have hHX := HX.out w1 (Below.refl _ _)
 have HW1 := hid hHX.2
 have z0 := hHX.1.1.cell 0
 have z1 := hHX.1.1.cell 1
 have z2 := hHX.1.2.1.cell 1
 have HS3 : Hid (B3 < w1.heap.size) := hid hHX.1.2.2.2.lt
 have HS2 : Hid (B2 < w1.heap.size) := hid hHX.1.2.2.1.lt
 have HS0 : Hid (B0 ≤ w1.heap.size) := hid (Nat.le_of_lt hHX.1.1.lt)
 clear hHX
 have HIF : Hid (∀ (fa : Option Addr) (fc : Nat), (Tryz.prog.info? 77).map (·.size) = some ([.int .i64 c.s.op, .int .i64 c.s.fm, .int .i64 c.s.fd, .int .i64 c.s.pl, .int .i64 c.s.tt, .int .i64 c.s.a, .int .i64 c.s.b, .int .i64 c.s.f.id, .int .i64 c.s.f.kind, .int .i64 c.s.f.lo, .int .i64 c.s.f.hi, .int .i64 c.s.f.most, .int .i64 c.s.v.n, .string c.s.v.s, .slice ta c.s.t.length tc, .slice la c.s.l.length lc, .int .i64 c.fi, .slice fa c.L.length fc, .bool c.kn, .int .i64 c.at_, .int .i64 0, .int .i64 0, .int .i64 0, .int .i64 0, .int .i64 0] : List Value).length) := hid (fun _ _ => ch_info)
 have HIF2 : Hid (∀ (fa : Option Addr) (fc : Nat), (Tryz.prog.info? 77).map (·.size) = some ((zH c ta tc la lc fa fc) : List Value).length) := hid (fun _ _ => ch_info)
 have HIG2 : Hid (∀ (fa : Option Addr) (fc : Nat), (Tryz.prog.info? 77).map (·.size) = some ((zH c ta tc la lc fa fc) : Array Value).size) := hid (fun _ _ => ch_info)
 have HON2 : Hid (∀ (fa : Option Addr) (fc : Nat), ((zH c ta tc la lc fa fc) : Array Value).all (·.oneCell') = true) := hid (fun fa fc => all_oneCell_toArray (by repeat (first | exact one_nil | refine one_cons rfl ?_)))
 have HIG : Hid (∀ (fa : Option Addr) (fc : Nat), (Tryz.prog.info? 77).map (·.size) = some (#[.int .i64 c.s.op, .int .i64 c.s.fm, .int .i64 c.s.fd, .int .i64 c.s.pl, .int .i64 c.s.tt, .int .i64 c.s.a, .int .i64 c.s.b, .int .i64 c.s.f.id, .int .i64 c.s.f.kind, .int .i64 c.s.f.lo, .int .i64 c.s.f.hi, .int .i64 c.s.f.most, .int .i64 c.s.v.n, .string c.s.v.s, .slice ta c.s.t.length tc, .slice la c.s.l.length lc, .int .i64 c.fi, .slice fa c.L.length fc, .bool c.kn, .int .i64 c.at_, .int .i64 0, .int .i64 0, .int .i64 0, .int .i64 0, .int .i64 0] : Array Value).size) := hid (fun _ _ => ch_info)
 have HON : Hid (∀ (fa : Option Addr) (fc : Nat), (#[.int .i64 c.s.op, .int .i64 c.s.fm, .int .i64 c.s.fd, .int .i64 c.s.pl, .int .i64 c.s.tt, .int .i64 c.s.a, .int .i64 c.s.b, .int .i64 c.s.f.id, .int .i64 c.s.f.kind, .int .i64 c.s.f.lo, .int .i64 c.s.f.hi, .int .i64 c.s.f.most, .int .i64 c.s.v.n, .string c.s.v.s, .slice ta c.s.t.length tc, .slice la c.s.l.length lc, .int .i64 c.fi, .slice fa c.L.length fc, .bool c.kn, .int .i64 c.at_, .int .i64 0, .int .i64 0, .int .i64 0, .int .i64 0, .int .i64 0] : Array Value).all (·.oneCell') = true) := hid (fun fa fc => all_oneCell_toArray (by repeat (first | exact one_nil | refine one_cons rfl ?_)))
 by_cases h0 : 0 ≤ c.at_
 ·have d0 : decide (c.at_ ≥ 0) = true := decide_eq_true h0
  have h1 : c.at_ < c.L.length := by have := HAT.out; rw [this] at h0 ⊢; have := (firstAt_lt h0).1; rw [ids_length] at this; omega
  have HEQ : Hid (∀ p, c.L[c.at_.toNat]? = some p → p = c.old) := hid (fun p hp => by rw [HOLD.out]; unfold oldAt; rw [if_pos h0, List.getD_eq_getElem?_getD, hp]; rfl)
  go_wp2_with (first
   | (go_at_call 40; ((with_reducible refine (cFm _ HW1.out).mono ?_); rintro e w2 ⟨fa, fc, rfl, ho2, hb2⟩; obtain ⟨⟨b0, b1, b2, b3⟩, hbo⟩ := HX.out w2 hb2; have y2 := b1.cell 2; have y16 := b3.cell 16; have y17 := b3.cell 17; have y18 := b3.cell 18; have f16 := b3.frozen 16; have f17 := b3.frozen 17; have f18 := b3.frozen 18; have HKP := hid (((show KP w1.heap.size B0 w fa fc c.L w2 from ⟨ho2, hbo⟩).cell (o := 16) (v := .int .i64 c.fi) HLB.out.2 HS3.out).cell (o := 17) (v := .slice fa c.L.length fc) HLB.out.2 HS3.out |>.cell (o := 18) (v := .bool c.kn) HLB.out.2 HS3.out); have HK3 := hid (((b3.setCell 16 (.int .i64 c.fi)).setCell 17 (.slice fa c.L.length fc)).setCell 18 (.bool c.kn)); have HK2 := hid (((b2.apart B3 16 (.int .i64 c.fi) n2).apart B3 17 (.slice fa c.L.length fc) n2).apart B3 18 (.bool c.kn) n2); have cA := at_any c.fi fa fc c.L c.s.fd _ (own_fds HKP.out.1).1 hmx; rw [← HAT.out] at cA; have HSZ := hid (Nat.le_trans HS0.out (Nat.le_trans hb2.size (by simp : w2.heap.size ≤ (((w2.setCell ⟨B3, 16, none⟩ (.int .i64 c.fi)).setCell ⟨B3, 17, none⟩ (.slice fa c.L.length fc)).setCell ⟨B3, 18, none⟩ (.bool c.kn)).heap.size))); clear ho2 hb2 b0 b1 b2 b3 hbo))
   | (go_at_call 41; ((with_reducible refine cA.mono ?_); rintro e w3 ⟨rfl, hb3⟩; have hk3 : Block w3 B3 77 [.int .i64 c.s.op, .int .i64 c.s.fm, .int .i64 c.s.fd, .int .i64 c.s.pl, .int .i64 c.s.tt, .int .i64 c.s.a, .int .i64 c.s.b, .int .i64 c.s.f.id, .int .i64 c.s.f.kind, .int .i64 c.s.f.lo, .int .i64 c.s.f.hi, .int .i64 c.s.f.most, .int .i64 c.s.v.n, .string c.s.v.s, .slice ta c.s.t.length tc, .slice la c.s.l.length lc, .int .i64 c.fi, .slice fa c.L.length fc, .bool c.kn, .int .i64 0, .int .i64 0, .int .i64 0, .int .i64 0, .int .i64 0, .int .i64 0] := HK3.out.later hb3; have hk2 := HK2.out.later hb3; have x17 := hk3.cell 17; have x19 := hk3.cell 19; have g19 := hk3.frozen 19; have hkp3 := HKP.out.later hb3 HSZ.out; obtain ⟨gb, go_, p, rfl, hgl, hp, p0, p1, p2, p3, p4⟩ := (own_fds hkp3.1).1.at (i := c.at_.toNat) (by omega); have hgb := (World.ownsRow.lt hkp3.1 gb rfl).1; have hs3 := HS3.out; have n7 : gb ≠ B3 := (by omega); have n8 : B3 ≠ gb := (by omega); obtain rfl : p = c.old := HEQ.out p hp; have HKQ := hid (hkp3.cell (S := B3) (o := 19) (v := .int .i64 c.at_) HLB.out.2 HS3.out); have hm2 := hk2.apart B3 19 (.int .i64 c.at_) n2; have hm3 : Block (w3.setCell ⟨B3, 19, none⟩ (.int .i64 c.at_)) B3 77 [.int .i64 c.s.op, .int .i64 c.s.fm, .int .i64 c.s.fd, .int .i64 c.s.pl, .int .i64 c.s.tt, .int .i64 c.s.a, .int .i64 c.s.b, .int .i64 c.s.f.id, .int .i64 c.s.f.kind, .int .i64 c.s.f.lo, .int .i64 c.s.f.hi, .int .i64 c.s.f.most, .int .i64 c.s.v.n, .string c.s.v.s, .slice ta c.s.t.length tc, .slice la c.s.l.length lc, .int .i64 c.fi, .slice (some ⟨gb, go_, none⟩) c.L.length fc, .bool c.kn, .int .i64 c.at_, .int .i64 0, .int .i64 0, .int .i64 0, .int .i64 0, .int .i64 0] := hk3.setCell 19 (.int .i64 c.at_); have x20 := hk3.cell 20; have x21 := hk3.cell 21; have x22 := hk3.cell 22; have x23 := hk3.cell 23; have x24 := hk3.cell 24; have g20 := hk3.frozen 20; have g21 := hk3.frozen 21; have g22 := hk3.frozen 22; have g23 := hk3.frozen 23; have g24 := hk3.frozen 24; clear hkp3 hgb hs3; have hq2 := (((((hm2.apart B3 20 (.int .i64 c.old.id) n2).apart B3 21 (.int .i64 c.old.kind) n2).apart B3 22 (.int .i64 c.old.lo) n2).apart B3 23 (.int .i64 c.old.hi) n2).apart B3 24 (.int .i64 c.old.most) n2); have hq3 : Block ((((((w3.setCell ⟨B3, 19, none⟩ (.int .i64 c.at_)).setCell ⟨B3, 20, none⟩ (.int .i64 c.old.id)).setCell ⟨B3, 21, none⟩ (.int .i64 c.old.kind)).setCell ⟨B3, 22, none⟩ (.int .i64 c.old.lo)).setCell ⟨B3, 23, none⟩ (.int .i64 c.old.hi)).setCell ⟨B3, 24, none⟩ (.int .i64 c.old.most)) B3 77 (zH c ta tc la lc (some ⟨gb, go_, none⟩) fc) := (((((hm3.setCell 20 (.int .i64 c.old.id)).setCell 21 (.int .i64 c.old.kind)).setCell 22 (.int .i64 c.old.lo)).setCell 23 (.int .i64 c.old.hi)).setCell 24 (.int .i64 c.old.most)); have HKR := hid (((((HKQ.out.cell (S := B3) (o := 20) (v := .int .i64 c.old.id) HLB.out.2 HS3.out).cell (S := B3) (o := 21) (v := .int .i64 c.old.kind) HLB.out.2 HS3.out).cell (S := B3) (o := 22) (v := .int .i64 c.old.lo) HLB.out.2 HS3.out).cell (S := B3) (o := 23) (v := .int .i64 c.old.hi) HLB.out.2 HS3.out).cell (S := B3) (o := 24) (v := .int .i64 c.old.most) HLB.out.2 HS3.out); have HTH := hid (hq2.there 0 ((zH c ta tc la lc (some ⟨gb, go_, none⟩) fc) : Array Value).size (by simp)); have HRG := hid hq3.whole; have HM2 := hid hq2; clear hb3 hk3 hk2 hm2 hm3 hq2 hq3 hp))
   | (with_reducible refine wpList_load_mid rfl 77 (.tmp 5) rfl B3 0 rfl (zH c ta tc la lc (some ⟨gb, go_, none⟩) fc) _ HRG.out Tryz.underlying77 rfl (HIF2.out _ _) ?_)
   | (with_reducible refine wpList_store_named rfl 77 (.tmp 4) (.tmp 34) rfl B2 0 (zH c ta tc la lc (some ⟨gb, go_, none⟩) fc) rfl rfl HTH.out (HIG2.out _ _) (HON2.out _ _) ?_))
  intro w4 hw4
  go_wp2
  have hB4 : Block w4 B2 77 (zH c ta tc la lc (some ⟨gb, go_, none⟩) fc) := by
   have := HM2.out.setCells (vs := (zH c ta tc la lc (some ⟨gb, go_, none⟩) fc)) (o := 0)
   rw [put_all _ _ (by simp)] at this
   rw [← hw4.out]
   exact this
  have hkp := HKR.out.cells (S := B2) (o := 0) (vs := (zH c ta tc la lc (some ⟨gb, go_, none⟩) fc)) HLB.out.1 HS2.out
  have hw5 := hw4.out
  rw [hw5] at hkp
  refine bodyPost_ret (results_cell (b := B2) (o := 0) rfl rfl hB4.whole Tryz.underlying77 rfl ch_info) rfl ?_
  exact ⟨_, _, rfl, (own_fds hkp.1).1, by rw [hB0.out]; exact hkp.2⟩
 ·have d0 : decide (c.at_ ≥ 0) = false := decide_eq_false h0
  have HOE : Hid (c.old = step.fd0) := hid (by have := HOLD.out; unfold oldAt at this; rwa [if_neg h0] at this)
  clear h0
  go_wp2_with (first
   | (go_at_call 40; ((with_reducible refine (cFm _ HW1.out).mono ?_); rintro e w2 ⟨fa, fc, rfl, ho2, hb2⟩; obtain ⟨⟨b0, b1, b2, b3⟩, hbo⟩ := HX.out w2 hb2; have y2 := b1.cell 2; have y16 := b3.cell 16; have y17 := b3.cell 17; have y18 := b3.cell 18; have f16 := b3.frozen 16; have f17 := b3.frozen 17; have f18 := b3.frozen 18; have HKP := hid (((show KP w1.heap.size B0 w fa fc c.L w2 from ⟨ho2, hbo⟩).cell (o := 16) (v := .int .i64 c.fi) HLB.out.2 HS3.out).cell (o := 17) (v := .slice fa c.L.length fc) HLB.out.2 HS3.out |>.cell (o := 18) (v := .bool c.kn) HLB.out.2 HS3.out); have HK3 := hid (((b3.setCell 16 (.int .i64 c.fi)).setCell 17 (.slice fa c.L.length fc)).setCell 18 (.bool c.kn)); have HK2 := hid (((b2.apart B3 16 (.int .i64 c.fi) n2).apart B3 17 (.slice fa c.L.length fc) n2).apart B3 18 (.bool c.kn) n2); have cA := at_any c.fi fa fc c.L c.s.fd _ (own_fds HKP.out.1).1 hmx; rw [← HAT.out] at cA; have HSZ := hid (Nat.le_trans HS0.out (Nat.le_trans hb2.size (by simp : w2.heap.size ≤ (((w2.setCell ⟨B3, 16, none⟩ (.int .i64 c.fi)).setCell ⟨B3, 17, none⟩ (.slice fa c.L.length fc)).setCell ⟨B3, 18, none⟩ (.bool c.kn)).heap.size))); clear ho2 hb2 b0 b1 b2 b3 hbo))
   | (go_at_call 41; ((with_reducible refine cA.mono ?_); rintro e w3 ⟨rfl, hb3⟩; have hk3 : Block w3 B3 77 [.int .i64 c.s.op, .int .i64 c.s.fm, .int .i64 c.s.fd, .int .i64 c.s.pl, .int .i64 c.s.tt, .int .i64 c.s.a, .int .i64 c.s.b, .int .i64 c.s.f.id, .int .i64 c.s.f.kind, .int .i64 c.s.f.lo, .int .i64 c.s.f.hi, .int .i64 c.s.f.most, .int .i64 c.s.v.n, .string c.s.v.s, .slice ta c.s.t.length tc, .slice la c.s.l.length lc, .int .i64 c.fi, .slice fa c.L.length fc, .bool c.kn, .int .i64 0, .int .i64 0, .int .i64 0, .int .i64 0, .int .i64 0, .int .i64 0] := HK3.out.later hb3; have hk2 := HK2.out.later hb3; have x17 := hk3.cell 17; have x19 := hk3.cell 19; have g19 := hk3.frozen 19; have HKQ := hid ((HKP.out.later hb3 HSZ.out).cell (S := B3) (o := 19) (v := .int .i64 c.at_) HLB.out.2 HS3.out); have hm2 := hk2.apart B3 19 (.int .i64 c.at_) n2; have hm3 : Block (w3.setCell ⟨B3, 19, none⟩ (.int .i64 c.at_)) B3 77 [.int .i64 c.s.op, .int .i64 c.s.fm, .int .i64 c.s.fd, .int .i64 c.s.pl, .int .i64 c.s.tt, .int .i64 c.s.a, .int .i64 c.s.b, .int .i64 c.s.f.id, .int .i64 c.s.f.kind, .int .i64 c.s.f.lo, .int .i64 c.s.f.hi, .int .i64 c.s.f.most, .int .i64 c.s.v.n, .string c.s.v.s, .slice ta c.s.t.length tc, .slice la c.s.l.length lc, .int .i64 c.fi, .slice fa c.L.length fc, .bool c.kn, .int .i64 c.at_, .int .i64 0, .int .i64 0, .int .i64 0, .int .i64 0, .int .i64 0] := hk3.setCell 19 (.int .i64 c.at_); have HTH := hid (hm2.there 0 (#[.int .i64 c.s.op, .int .i64 c.s.fm, .int .i64 c.s.fd, .int .i64 c.s.pl, .int .i64 c.s.tt, .int .i64 c.s.a, .int .i64 c.s.b, .int .i64 c.s.f.id, .int .i64 c.s.f.kind, .int .i64 c.s.f.lo, .int .i64 c.s.f.hi, .int .i64 c.s.f.most, .int .i64 c.s.v.n, .string c.s.v.s, .slice ta c.s.t.length tc, .slice la c.s.l.length lc, .int .i64 c.fi, .slice fa c.L.length fc, .bool c.kn, .int .i64 c.at_, .int .i64 0, .int .i64 0, .int .i64 0, .int .i64 0, .int .i64 0] : Array Value).size (by simp)); have HRG := hid hm3.whole; have HM2 := hid hm2; clear hb3 hk3 hk2 hm2 hm3))
   | (with_reducible refine wpList_load_mid rfl 77 (.tmp 5) rfl B3 0 rfl [.int .i64 c.s.op, .int .i64 c.s.fm, .int .i64 c.s.fd, .int .i64 c.s.pl, .int .i64 c.s.tt, .int .i64 c.s.a, .int .i64 c.s.b, .int .i64 c.s.f.id, .int .i64 c.s.f.kind, .int .i64 c.s.f.lo, .int .i64 c.s.f.hi, .int .i64 c.s.f.most, .int .i64 c.s.v.n, .string c.s.v.s, .slice ta c.s.t.length tc, .slice la c.s.l.length lc, .int .i64 c.fi, .slice fa c.L.length fc, .bool c.kn, .int .i64 c.at_, .int .i64 0, .int .i64 0, .int .i64 0, .int .i64 0, .int .i64 0] _ HRG.out Tryz.underlying77 rfl (HIF.out _ _) ?_)
   | (with_reducible refine wpList_store_named rfl 77 (.tmp 4) (.tmp 34) rfl B2 0 #[.int .i64 c.s.op, .int .i64 c.s.fm, .int .i64 c.s.fd, .int .i64 c.s.pl, .int .i64 c.s.tt, .int .i64 c.s.a, .int .i64 c.s.b, .int .i64 c.s.f.id, .int .i64 c.s.f.kind, .int .i64 c.s.f.lo, .int .i64 c.s.f.hi, .int .i64 c.s.f.most, .int .i64 c.s.v.n, .string c.s.v.s, .slice ta c.s.t.length tc, .slice la c.s.l.length lc, .int .i64 c.fi, .slice fa c.L.length fc, .bool c.kn, .int .i64 c.at_, .int .i64 0, .int .i64 0, .int .i64 0, .int .i64 0, .int .i64 0] rfl rfl HTH.out (HIG.out _ _) (HON.out _ _) ?_))
  intro w4 hw4
  go_wp2
  have hB4 : Block w4 B2 77 [.int .i64 c.s.op, .int .i64 c.s.fm, .int .i64 c.s.fd, .int .i64 c.s.pl, .int .i64 c.s.tt, .int .i64 c.s.a, .int .i64 c.s.b, .int .i64 c.s.f.id, .int .i64 c.s.f.kind, .int .i64 c.s.f.lo, .int .i64 c.s.f.hi, .int .i64 c.s.f.most, .int .i64 c.s.v.n, .string c.s.v.s, .slice ta c.s.t.length tc, .slice la c.s.l.length lc, .int .i64 c.fi, .slice fa c.L.length fc, .bool c.kn, .int .i64 c.at_, .int .i64 0, .int .i64 0, .int .i64 0, .int .i64 0, .int .i64 0] := by
   have := HM2.out.setCells (vs := [.int .i64 c.s.op, .int .i64 c.s.fm, .int .i64 c.s.fd, .int .i64 c.s.pl, .int .i64 c.s.tt, .int .i64 c.s.a, .int .i64 c.s.b, .int .i64 c.s.f.id, .int .i64 c.s.f.kind, .int .i64 c.s.f.lo, .int .i64 c.s.f.hi, .int .i64 c.s.f.most, .int .i64 c.s.v.n, .string c.s.v.s, .slice ta c.s.t.length tc, .slice la c.s.l.length lc, .int .i64 c.fi, .slice fa c.L.length fc, .bool c.kn, .int .i64 c.at_, .int .i64 0, .int .i64 0, .int .i64 0, .int .i64 0, .int .i64 0]) (o := 0)
   rw [put_all _ _ (by simp)] at this
   rw [← hw4.out]
   exact this
  have hkp := HKQ.out.cells (S := B2) (o := 0) (vs := [.int .i64 c.s.op, .int .i64 c.s.fm, .int .i64 c.s.fd, .int .i64 c.s.pl, .int .i64 c.s.tt, .int .i64 c.s.a, .int .i64 c.s.b, .int .i64 c.s.f.id, .int .i64 c.s.f.kind, .int .i64 c.s.f.lo, .int .i64 c.s.f.hi, .int .i64 c.s.f.most, .int .i64 c.s.v.n, .string c.s.v.s, .slice ta c.s.t.length tc, .slice la c.s.l.length lc, .int .i64 c.fi, .slice fa c.L.length fc, .bool c.kn, .int .i64 c.at_, .int .i64 0, .int .i64 0, .int .i64 0, .int .i64 0, .int .i64 0]) HLB.out.1 HS2.out
  have hw5 := hw4.out
  rw [hw5] at hkp
  refine bodyPost_ret (results_cell (b := B2) (o := 0) rfl rfl hB4.whole Tryz.underlying77 rfl ch_info) rfl ?_
  exact ⟨_, _, by rw [HOE.out], (own_fds hkp.1).1, by rw [hB0.out]; exact hkp.2⟩
end Go.Proofs.YtaciegkblklokaaGreat.typing
namespace Go.Proofs.YtaciegkblklokaaGreat.typing
open Go.RowKit Go.Proofs.YtaciegkblklokaaGreat.schema Go.Proofs.YtaciegkblklokaaGreat.field Go.Proofs.YtaciegkblklokaaGreat.step
theorem cut_take {L : List field.Fd} {k : Nat} (h : k ≤ L.length) : (cutL L k).take k = L.take k := by
 unfold cutL
 rw [List.take_append_of_le_length (by simp; omega), List.take_take, Nat.min_self]
theorem cut_drop {L : List field.Fd} {k : Nat} (h : k ≤ L.length) : (cutL L k).drop k = L.drop (k + 1) := by
 unfold cutL
 have h2 := List.drop_left (l₁ := L.take k) (l₂ := L.drop (k + 1))
 rwa [List.length_take, Nat.min_eq_left h] at h2
theorem puts_cut {L : List field.Fd} {k : Nat} (h : k < L.length) (m : List field.Fd) (hm : m.length ≤ 2) : puts (cutL L k) k m = L.take k ++ (m ++ L.drop (k + 1)) := by
 match m, hm with
 | [], _ => rfl
 | [a], _ =>
  unfold puts puts putL
  rw [cut_take (by omega), cut_drop (by omega)]
 | [a, b], _ =>
  unfold puts puts puts putL
  rw [cut_take (by omega), cut_drop (by omega)]
  have hl : (L.take k).length = k := by simp; omega
  have e1 : (L.take k ++ ([a] ++ L.drop (k + 1))).take (k + 1) = L.take k ++ [a] := by
   rw [← List.append_assoc]
   exact List.take_left' (by simp [hl])
  have e2 : (L.take k ++ ([a] ++ L.drop (k + 1))).drop (k + 1) = L.drop (k + 1) := by
   rw [← List.append_assoc]
   exact List.drop_left' (by simp [hl])
  rw [e1, e2]
  simp
theorem old_right {v : Int} {F : List schema.Form} {x y : Int} {p : schema.Form} (hr : Right v F) (hp : named F x = some p) (hk : 0 ≤ firstAt (ids p.2) y) :
  (firstAt (ids p.2) y).toNat < p.2.length ∧ (oldAt p.2 (firstAt (ids p.2) y)).Right := by
 have h1 := (firstAt_lt hk).1
 rw [ids_length] at h1
 refine ⟨h1, ?_⟩
 unfold oldAt
 rw [if_pos hk, List.getD_eq_getElem?_getD, List.getElem?_eq_getElem h1]
 exact (hr.2.2.1 p (named_some hp).1).2.2.1.1 _ (List.getElem_mem _)
theorem low_high (c : Ch) : low c ≤ high c := by
 unfold low high
 split <;> split <;> omega
theorem mn_comm (a b : Int) : mn a b = mn b a := by
 unfold mn
 split <;> split <;> omega
theorem low_of (c d : Ch) (h1 : c.s = d.s) (h2 : c.old = d.old) : low c = low d ∧ high c = high d := by
 unfold low high scA scB
 rw [h1, h2]
 exact ⟨rfl, rfl⟩
def fieldsR (F : List schema.Form) (s : Sp) : List field.Fd × Nat :=
 if s.op = 9 then (s.l, 0) else match named F s.fm with
  | none => ([], 8)
  | some p =>
   if s.op = 1 then (putL p.2 s.pl.toNat s.f, 0) else if s.op = 10 then ([], 0)
   else if (types (oldAt p.2 (firstAt (ids p.2) s.fd)) s).2 = false then ([], 17)
   else if puts (cutL p.2 (firstAt (ids p.2) s.fd).toNat) (if s.op = 7 then s.pl.toNat else (firstAt (ids p.2) s.fd).toNat) (types (oldAt p.2 (firstAt (ids p.2) s.fd)) s).1 = [] then ([], 7)
   else (puts (cutL p.2 (firstAt (ids p.2) s.fd).toNat) (if s.op = 7 then s.pl.toNat else (firstAt (ids p.2) s.fd).toNat) (types (oldAt p.2 (firstAt (ids p.2) s.fd)) s).1, 0)
def refOn (v : Int) (F : List schema.Form) (s : Sp) : Int × List schema.Form × Nat :=
 if Fit v F s then (if names F s = 0 then (if (fieldsR F s).2 = 0 then (if Right v (formsR F s.fm (fieldsR F s).1) then (v, formsR F s.fm (fieldsR F s).1, 0) else (0, [], 7)) else (0, [], (fieldsR F s).2)) else (0, [], names F s)) else (0, [], 2)
theorem types_eq (f : field.Fd) (hf : f.Right) (s : Sp) (c : Ch) (hs : c.s = s) (ho : c.old = f) (hop : s.op ≠ 1 ∧ s.op ≠ 9 ∧ s.op ≠ 10) (hop2 : 1 ≤ s.op ∧ s.op ≤ 10) :
  (types f s).2 = suits c ∧ (suits c = true → (types f s).1 = heirs c) ∧ (types f s).1.length ≤ 2 := by
 obtain ⟨e1, e2⟩ := low_of c ⟨s, 0, [], false, 0, f⟩ hs ho
 subst ho
 subst hs
 have hlh := low_high c
 unfold types suits heirs
 rw [← e1, ← e2]
 unfold field.Fd.Right at hf
 have hc : c.s.op = 2 ∨ c.s.op = 3 ∨ c.s.op = 4 ∨ c.s.op = 5 ∨ c.s.op = 6 ∨ c.s.op = 7 ∨ c.s.op = 8 := by omega
 rcases hc with h | h | h | h | h | h | h
 ·simp [h]
 ·simp [h]
 ·simp only [h]
  refine ⟨?_, ?_, by simp⟩
  ·simp only [field.Fd.Right]
   simp [hf.1.1, hf.1.2, hlh]
  ·simp
   intro hk h1 h2
   obtain ⟨⟨i1, i2⟩, hf⟩ := hf
   cases hc2 : c.old with
   | mk id kind lo hi most =>
    simp only [hc2] at hk hf ⊢
    obtain rfl : kind = 1 := hk
    obtain rfl : most = 0 := by omega
    simp
 ·simp only [h]
  refine ⟨by simp, ?_, by simp⟩
  simp
  intro hk h1
  cases hc2 : c.old with
  | mk id kind lo hi most =>
   simp only [hc2] at hk hf ⊢
   obtain rfl : kind = 3 := hk
   obtain rfl : lo = 0 := by omega
   obtain rfl : hi = 0 := by omega
   simp
 ·simp only [h]
  refine ⟨by simp, ?_, by simp⟩
  simp
  intro hk h1
  refine ⟨?_, mn_comm _ _⟩
  cases hc2 : c.old with
  | mk id kind lo hi most =>
   simp only [hc2] at hk h1 hf ⊢
   obtain rfl : kind = 1 := hk
   obtain rfl : lo = 0 := h1
   obtain rfl : most = 0 := by omega
   simp
 ·simp [h]
 ·simp [h]
theorem not_right_nil {v : Int} {F : List schema.Form} {k : Nat} {x : Int} (h : k < F.length) : ¬ Right v (F.set k (x, [])) := by
 intro hr
 have := (hr.2.2.1 (x, []) (by rw [List.mem_iff_getElem?]; exact ⟨k, by simp [h]⟩)).2.1.1
 simp at this
theorem fit_op {v : Int} {F : List schema.Form} {s : Sp} (h : Fit v F s) : 1 ≤ s.op ∧ s.op ≤ 10 := ⟨(mem_span h.2.1.2.1).1, h.2.2⟩
theorem fit_fine {v : Int} {F : List schema.Form} {s : Sp} (h : Fit v F s) {m : Nat} (hm : m ∈ step.mem s.op) : s.Fine m := h.2.1.1 m hm
theorem refOn_eq (v : Int) (F : List schema.Form) (s : Sp) : refOn v F s = on v F s := by
 unfold refOn on
 by_cases hf : Fit v F s
 ·rw [if_pos hf, if_pos hf]
  have hop := fit_op hf
  have hso := right_sorted hf.1
  by_cases h9 : s.op = 9
  ·have hl : s.l ≠ [] := by
    have := fit_fine hf (m := 11) (by rw [h9]; decide)
    unfold step.Sp.Fine at this
    simp at this
    intro e
    have := this.2.1.1
    rw [e] at this
    simp at this
   cases hn : named F s.fm with
   | none =>
    have e1 : names F s = 0 := by unfold names; rw [if_pos h9, hn]; rfl
    have e2 : fieldsR F s = (s.l, 0) := by unfold fieldsR; rw [if_pos h9]
    have e3 : err (begin_ F s) = 0 := by unfold begin_ err found twice beyond suits; rw [hn]; simp [h9]
    have e4 : applied F (begin_ F s) = formsR F s.fm s.l := by
     have : (begin_ F s).s = s := by unfold begin_; rw [hn]
     unfold applied formsR
     rw [this, if_pos h9, decide_eq_false hl, go_put hso (named_none hn)]
    rw [e1, e2, e3, e4]
    simp
   | some p =>
    have e1 : names F s = 9 := by unfold names; rw [if_pos h9, hn]; rfl
    have e3 : err (begin_ F s) = 9 := by unfold begin_ err found twice beyond suits; rw [hn]; simp [h9]
    rw [e1, e3]
    simp
  ·cases hn : named F s.fm with
   | none =>
    have e1 : names F s = 8 := by unfold names; rw [if_neg h9, hn]
    have e3 : err (begin_ F s) = 8 := by
     unfold begin_ err found; rw [hn]
     simp [h9]
    rw [e1, e3]
    simp
   | some p =>
    obtain ⟨hp1, hp2⟩ := named_some hn
    have hB : begin_ F s = ⟨s, s.fm, p.2, true, firstAt (ids p.2) s.fd, oldAt p.2 (firstAt (ids p.2) s.fd)⟩ := by unfold begin_; rw [hn]
    rw [hB]
    have hN : names F s = if nf s.op = true ∧ firstAt (ids p.2) s.fd < 0 then 8 else if (s.op = 1 ∧ 0 ≤ firstAt (ids p.2) s.f.id) ∨ ((s.op = 6 ∨ s.op = 8) ∧ 0 ≤ firstAt (ids p.2) s.tt) then 9
      else if (s.op = 1 ∧ (p.2.length : Int) < s.pl) ∨ (s.op = 7 ∧ (p.2.length : Int) ≤ s.pl) then 3 else 0 := by unfold names; rw [if_neg h9, hn]
    have hpl : pos F s.fm < F.length := by
     have := pos_at hso hp1
     rw [hp2] at this
     exact (List.getElem?_eq_some_iff.1 this).1
    have hset : ∀ l, setF F (pos F s.fm) l = F.set (pos F s.fm) (s.fm, l) := fun l => setF_at hso hn l
    have hgo : ∀ l, l ≠ [] → formsR F s.fm l = F.set (pos F s.fm) (s.fm, l) := fun l hl => by
     unfold formsR
     rw [decide_eq_false hl, ← hp2]
     exact go_set hso hp1 l
    by_cases h10 : s.op = 10
    ·have e1 : names F s = 0 := by rw [hN]; simp [h10, nf]
     have e2 : fieldsR F s = ([], 0) := by unfold fieldsR; rw [if_neg h9, hn]; simp [h10]
     have e3 : err ⟨s, s.fm, p.2, true, firstAt (ids p.2) s.fd, oldAt p.2 (firstAt (ids p.2) s.fd)⟩ = 0 := by unfold err found twice beyond suits; simp [h10]
     have e4 : applied F ⟨s, s.fm, p.2, true, firstAt (ids p.2) s.fd, oldAt p.2 (firstAt (ids p.2) s.fd)⟩ = formsR F s.fm [] := by
      unfold applied formsR
      simp only [h10]
      have := go_cut hso hp1 []
      rw [hp2] at this
      simp [this]
     rw [e1, e2, e3, e4]
     simp
    ·by_cases h1 : s.op = 1
     ·have e3 : err ⟨s, s.fm, p.2, true, firstAt (ids p.2) s.fd, oldAt p.2 (firstAt (ids p.2) s.fd)⟩ = names F s := by
       rw [hN]; unfold err found twice beyond suits nf; simp [h1]
      have e2 : fieldsR F s = (putL p.2 s.pl.toNat s.f, 0) := by unfold fieldsR; rw [if_neg h9, hn]; simp [h1]
      have e4 : applied F ⟨s, s.fm, p.2, true, firstAt (ids p.2) s.fd, oldAt p.2 (firstAt (ids p.2) s.fd)⟩ = formsR F s.fm (putL p.2 s.pl.toNat s.f) := by
       rw [hgo _ (by unfold putL; simp), ← hset]
       unfold applied fields
       simp [h1]
      rw [e2, e3, e4]
      simp
     ·by_cases hk : firstAt (ids p.2) s.fd < 0
      ·have e1 : names F s = 8 := by rw [hN, if_pos ⟨by unfold nf; simp [h1, h9, h10], hk⟩]
       have e3 : err ⟨s, s.fm, p.2, true, firstAt (ids p.2) s.fd, oldAt p.2 (firstAt (ids p.2) s.fd)⟩ = 8 := by
        unfold err found
        simp only [h1, h9, h10]
        have : ¬ 0 ≤ firstAt (ids p.2) s.fd := by omega
        simp [this]
       rw [e1, e3]
       simp
      ·have hk0 : 0 ≤ firstAt (ids p.2) s.fd := by omega
       obtain ⟨hk2, hor⟩ := old_right hf.1 hn hk0
       obtain ⟨C, hC⟩ : ∃ C : Ch, C = ⟨s, s.fm, p.2, true, firstAt (ids p.2) s.fd, oldAt p.2 (firstAt (ids p.2) s.fd)⟩ := ⟨_, rfl⟩
       obtain ⟨t1, t2, t3⟩ := types_eq _ hor s C (by rw [hC]) (by rw [hC]) ⟨h1, h9, h10⟩ hop
       have hfd : found C = true := by unfold found; rw [hC]; simp [h1, h9, h10, hk0]
       rw [← hC]
       have hCs : C.s = s := by rw [hC]
       have hCL : C.L = p.2 := by rw [hC]
       have hCa : C.at_ = firstAt (ids p.2) s.fd := by rw [hC]
       have hN2 : names F s = if twice C = true then 9 else if beyond C = true then 3 else 0 := by
        rw [hN, if_neg (by intro h; exact hk h.2)]
        unfold twice beyond
        rw [hCs, hCL]
        simp only [h1, h9]
        by_cases h6 : s.op = 6 ∨ s.op = 8
        ·have h7 : ¬ s.op = 7 := by omega
         simp [h6, h7]
        ·by_cases h7 : s.op = 7
         ·simp [h7]
          congr 1
          simp
          omega
         ·simp [h6, h7]
       have hE : err C = if names F s = 0 then (if suits C = false then 17 else 0) else names F s := by
        unfold err
        rw [hfd, hN2]
        by_cases hx : twice C = true
        ·simp [hx]
        ·by_cases hy : beyond C = true
         ·simp [hx, hy]
         ·simp [hx, hy]
       have hF : fieldsR F s = if suits C = false then ([], 17) else if fields C = [] then ([], 7) else (fields C, 0) := by
        have : fieldsR F s = if (types (oldAt p.2 (firstAt (ids p.2) s.fd)) s).2 = false then ([], 17)
          else if puts (cutL p.2 (firstAt (ids p.2) s.fd).toNat) (if s.op = 7 then s.pl.toNat else (firstAt (ids p.2) s.fd).toNat) (types (oldAt p.2 (firstAt (ids p.2) s.fd)) s).1 = [] then ([], 7)
          else (puts (cutL p.2 (firstAt (ids p.2) s.fd).toNat) (if s.op = 7 then s.pl.toNat else (firstAt (ids p.2) s.fd).toNat) (types (oldAt p.2 (firstAt (ids p.2) s.fd)) s).1, 0) := by
         unfold fieldsR; rw [if_neg h9, hn]; simp [h1, h10]
        rw [this, t1]
        by_cases hs : suits C = false
        ·simp [hs]
        ·rw [if_neg hs, if_neg hs]
         have hst : suits C = true := by simpa using hs
         rw [t2 hst]
         have : puts (cutL p.2 (firstAt (ids p.2) s.fd).toNat) (if s.op = 7 then s.pl.toNat else (firstAt (ids p.2) s.fd).toNat) (heirs C) = fields C := by
          unfold fields
          rw [hCs, hCL, hCa, if_neg h1]
          by_cases h7 : s.op = 7
          ·rw [if_pos h7, if_pos h7]
           unfold heirs
           rw [hCs]
           simp only [h7]
           simp [puts]
          ·rw [if_neg h7, if_neg h7]
           rw [t2 hst] at t3
           exact puts_cut hk2 _ t3
         rw [this]
       have hA : applied F C = F.set (pos F s.fm) (s.fm, fields C) := by
        unfold applied
        rw [hCs, if_neg h9, if_neg h10, hset]
       rw [hE, hF, hA]
       by_cases hn0 : names F s = 0
       ·rw [hn0]
        by_cases hs : suits C = false
        ·simp [hs]
        ·by_cases hl : fields C = []
         ·have := not_right_nil (v := v) (x := s.fm) hpl
          rw [hl]
          simp [hs, this]
         ·rw [hgo _ (by rw [if_neg hs, if_neg hl]; exact hl)]
          simp [hs, hl]
       ·simp [hn0]
 ·rw [if_neg hf, if_neg hf]
end Go.Proofs.YtaciegkblklokaaGreat.typing
namespace Go.Proofs.YtaciegkblklokaaGreat.typing
open Go.RowKit Go.Proofs.YtaciegkblklokaaGreat.schema
open Go.Proofs.YtaciegkblklokaaGreat.field (Gives newB gives_from)
open Go.Proofs.YtaciegkblklokaaGreat.step (Lists)
theorem begin_some {F : List schema.Form} {c : Ch} (hc : c = begin_ F c.s) (h : c.kn = true ∨ 0 ≤ c.at_) : ∃ p, named F c.s.fm = some p ∧ c.L = p.2 := by
 cases hn : named F c.s.fm with
 | none =>
  have : c = ⟨c.s, 0, [], false, -1, step.fd0⟩ := by rw [hc, begin_s]; unfold begin_; rw [hn]
  rw [this] at h
  simp at h
 | some p =>
  have : c = ⟨c.s, c.s.fm, p.2, true, firstAt (ids p.2) c.s.fd, oldAt p.2 (firstAt (ids p.2) c.s.fd)⟩ := by rw [hc, begin_s]; unfold begin_; rw [hn]
  exact ⟨p, rfl, by rw [this]⟩
theorem old_span {v : Int} {F : List schema.Form} {c : Ch} (hr : Right v F) (hc : c = begin_ F c.s) : (-1099511627776 ≤ c.old.lo ∧ c.old.lo ≤ 1099511627776) ∧ (-1099511627776 ≤ c.old.hi ∧ c.old.hi ≤ 1099511627776) := by
 have h1 := (begin_at F c.s).1
 have h2 := (begin_at F c.s).2
 rw [← hc] at h1 h2
 by_cases hk : 0 ≤ c.at_
 ·obtain ⟨p, hp, hL⟩ := begin_some hc (.inr hk)
  rw [h1, hL] at hk
  have := (old_right hr hp hk).2
  rw [← hL, ← h1, ← h2] at this
  have := right_span this
  omega
 ·rw [h2]
  unfold oldAt
  rw [if_neg hk]
  simp
theorem fit_bd {v : Int} {F : List schema.Form} {c : Ch} (hf : Fit v F c.s) (hc : c = begin_ F c.s) : (c.s.op = 4 → Bd c) ∧ (c.s.op = 6 → Bq c) := by
 obtain ⟨h1, h2⟩ := old_span hf.1 hc
 refine ⟨fun h => ?_, fun h => ?_⟩
 ·have := fit_fine hf (m := 5) (by rw [h]; decide)
  unfold step.Sp.Fine at this
  simp at this
  exact ⟨by omega, by omega, h1, h2⟩
 ·have := fit_fine hf (m := 4) (by rw [h]; decide)
  unfold step.Sp.Fine at this
  simp at this
  exact ⟨by omega, h2⟩
theorem err_zero {c : Ch} (h : err c = 0) : found c = true ∧ twice c = false ∧ beyond c = false ∧ suits c = true := by
 unfold err at h
 cases h1 : found c <;> cases h2 : twice c <;> cases h3 : beyond c <;> cases h4 : suits c <;> simp [h1, h2, h3, h4] at h ⊢
theorem fit_places {v : Int} {F : List schema.Form} {c : Ch} (hf : Fit v F c.s) (hc : c = begin_ F c.s) (h0 : err c = 0) (h9 : ¬ c.s.op = 9) (h10 : ¬ c.s.op = 10) : Places c ∧ ∃ p, named F c.s.fm = some p := by
 obtain ⟨e1, e2, e3, e4⟩ := err_zero h0
 have hat := (begin_at F c.s).1
 rw [← hc] at hat
 by_cases h1 : c.s.op = 1
 ·have hk : c.kn = true := by unfold found at e1; simpa [h9, h1] using e1
  obtain ⟨p, hp, _⟩ := begin_some hc (.inl hk)
  have hfi := fit_fine hf (m := 2) (by rw [h1]; decide)
  unfold step.Sp.Fine at hfi
  simp at hfi
  unfold beyond at e3
  simp [h1] at e3
  exact ⟨⟨fun _ => ⟨by omega, by omega⟩, fun h => by omega, fun h => absurd h1 h⟩, p, hp⟩
 ·have hk : 0 ≤ c.at_ := by unfold found at e1; simpa [h9, h1, h10] using e1
  obtain ⟨p, hp, _⟩ := begin_some hc (.inr hk)
  have hlt : c.at_ < c.L.length := by
   rw [hat] at hk ⊢
   have := (firstAt_lt hk).1
   rw [ids_length] at this
   omega
  refine ⟨⟨fun h => absurd h h1, fun h7 => ?_, fun _ => ⟨hk, hlt⟩⟩, p, hp⟩
  have hfi := fit_fine hf (m := 2) (by rw [h7]; decide)
  unfold step.Sp.Fine at hfi
  simp at hfi
  unfold beyond at e3
  simp [h7] at e3
  omega
theorem applied_any (v : Int) (a : Option Addr) (cc : Nat) (F : List Fm) (c : Ch) (hc : c = begin_ (forms F) c.s) (ta : Option Addr) (tc : Nat) (la : Option Addr) (lc : Nat) (fa : Option Addr) (fc : Nat) (w : World)
  (hm : Fms w a F) (hF : Small w F) (hf : Fit v (forms F) c.s) (h0 : err c = 0) (hla : field.Fds w la c.s.l) (hL : c.s.l.length ≤ 40) (hfa : field.Fds w fa c.L) (hcl : c.L.length ≤ 40) :
  Calls Tryz.prog 39 #[zH c ta tc la lc fa fc, zS v a F.length cc] w (ClonedAs v (applied (forms F) c) w) := by
 have hs := right_sorted hf.1
 by_cases h9 : c.s.op = 9
 ·exact applied_form c ta tc la lc fa fc w v a cc F hm hF hs h9 hla hL
 ·by_cases h10 : c.s.op = 10
  ·have hk : c.kn = true := by
    have e1 := (err_zero h0).1
    unfold found at e1
    simpa [h9, h10] using e1
   obtain ⟨p, hp, _⟩ := begin_some hc (.inl hk)
   exact applied_end c ta tc la lc fa fc w v a cc F hm hF hs h10 (by rw [hp]; simp)
  ·obtain ⟨hP, p, hp⟩ := fit_places hf hc h0 h9 h10
   obtain ⟨hb4, hb6⟩ := fit_bd hf hc
   exact applied_other c ta tc la lc fa fc w v a cc F hm hF hs h9 h10 p hp hfa hcl hP hb4 hb6
end Go.Proofs.YtaciegkblklokaaGreat.typing
namespace Go.Proofs.YtaciegkblklokaaGreat.pair
open Go.RowKit Go.Proofs.YtaciegkblklokaaGreat.schema Go.Proofs.YtaciegkblklokaaGreat.step Go.Proofs.YtaciegkblklokaaGreat.typing
def fieldsAt (F : List schema.Form) (x : Int) : List field.Fd := match named F x with
 | some p => p.2
 | none => []
def inv (F : List schema.Form) (s : Sp) : Sp :=
 if s.op = 9 then ⟨29, s.fm, 0, 0, 0, 0, 0, fd0, va0, [], []⟩ else if s.op = 10 then ⟨30, s.fm, 0, 0, 0, 0, 0, fd0, va0, [], fieldsAt F s.fm⟩
 else if s.op = 1 then ⟨21, s.fm, s.f.id, 0, 0, 0, 0, fd0, va0, [], []⟩
 else if s.op = 2 then ⟨22, s.fm, 0, firstAt (ids (fieldsAt F s.fm)) s.fd, 0, 0, 0, oldAt (fieldsAt F s.fm) (firstAt (ids (fieldsAt F s.fm)) s.fd), s.v, [], []⟩
 else if s.op = 3 then ⟨23, s.fm, s.fd, 0, 0, 0, 0, oldAt (fieldsAt F s.fm) (firstAt (ids (fieldsAt F s.fm)) s.fd), va0, [], []⟩
 else if s.op = 4 then ⟨24, s.fm, s.fd, 0, 0, s.a, s.b, oldAt (fieldsAt F s.fm) (firstAt (ids (fieldsAt F s.fm)) s.fd), va0, [], []⟩
 else if s.op = 5 then ⟨25, s.fm, s.fd, 0, 0, 0, 0, fd0, va0, s.t, []⟩
 else if s.op = 6 then ⟨26, s.fm, s.fd, 0, s.tt, s.a, 0, oldAt (fieldsAt F s.fm) (firstAt (ids (fieldsAt F s.fm)) s.fd), va0, [], []⟩
 else if s.op = 7 then ⟨27, s.fm, s.fd, firstAt (ids (fieldsAt F s.fm)) s.fd, 0, 0, 0, fd0, va0, [], []⟩
 else ⟨28, s.fm, s.tt, 0, s.fd, 0, 0, fd0, va0, [], []⟩
def invert (v : Int) (F : List schema.Form) (s : Sp) : Sp × Nat := if (on v F s).2.2 = 0 then (inv F s, 0) else (Sp.zero, (on v F s).2.2)
def backs : Int → List schema.Form → List Sp → List Sp → List Sp × Nat
 | _, _, [], A => (A, 0)
 | v, F, s :: r, A => if (on v F s).2.2 = 0 then backs (on v F s).1 (on v F s).2.1 r (inv F s :: A) else ([], (on v F s).2.2)
def diff : Nat → List Sp → List Sp → Nat × Nat
 | _, [], [] => (0, 0)
 | k, a :: r, b :: q => if a = b then diff (k + 1) r q else (k, 18)
 | k, [], _ :: _ => (k, 18)
 | k, _ :: _, [] => (k, 18)
def check (v : Int) (F : List schema.Form) (L B : List Sp) : Nat × Nat := if (all 0 v F L).2.2.2 = 0 then diff 0 (backs v F L []).1 B else ((all 0 v F L).2.2.1, (all 0 v F L).2.2.2)
theorem diff_same : ∀ (k : Nat) (A B : List Sp), (diff k A B).2 = 0 ↔ A = B
 | _, [], [] => by simp [diff]
 | k, a :: r, b :: q => by
  unfold diff
  by_cases h : a = b
  ·subst h
   rw [if_pos rfl, diff_same (k + 1) r q]
   simp
  ·rw [if_neg h]
   simp [h]
 | k, [], _ :: _ => by simp [diff]
 | k, _ :: _, [] => by simp [diff]
theorem diff_zero : ∀ (k : Nat) (A : List Sp), diff k A A = (0, 0)
 | _, [] => rfl
 | k, a :: r => by unfold diff; rw [if_pos rfl]; exact diff_zero (k + 1) r
theorem backs_err : ∀ (k : Nat) (v : Int) (F : List schema.Form) (L A : List Sp), (backs v F L A).2 = (all k v F L).2.2.2
 | _, _, _, [], _ => rfl
 | k, v, F, s :: r, A => by
  unfold backs all
  by_cases h : (on v F s).2.2 = 0
  ·rw [if_pos h, if_pos h]
   exact backs_err (k + 1) _ _ r _
  ·rw [if_neg h, if_neg h]
theorem backs_len : ∀ (v : Int) (F : List schema.Form) (L A : List Sp), (backs v F L A).2 = 0 → (backs v F L A).1.length = A.length + L.length
 | _, _, [], A, _ => by simp [backs]
 | v, F, s :: r, A, h => by
  unfold backs at h ⊢
  by_cases h0 : (on v F s).2.2 = 0
  ·rw [if_pos h0] at h ⊢
   rw [backs_len _ _ r _ h]
   simp; omega
  ·rw [if_neg h0] at h
   exact absurd h h0
theorem backs_bad : ∀ (v : Int) (F : List schema.Form) (L A : List Sp), (backs v F L A).2 ≠ 0 → (backs v F L A).1 = []
 | _, _, [], A, h => absurd rfl h
 | v, F, s :: r, A, h => by
  unfold backs at h ⊢
  by_cases h0 : (on v F s).2.2 = 0
  ·rw [if_pos h0] at h ⊢
   exact backs_bad _ _ r _ h
  ·rw [if_neg h0]
theorem on_err0 {v : Int} {F : List schema.Form} {s : Sp} (h : (on v F s).2.2 = 0) : err (begin_ F s) = 0 := by
 have hf := (on_ok h).1
 unfold on at h
 rw [if_pos hf] at h
 by_cases he : err (begin_ F s) = 0
 ·exact he
 ·rw [if_neg he] at h
  exact h
theorem right_of {s : Sp} {M : List Nat} (hm : mem s.op = M) (h1 : ∀ m ∈ M, s.Fine m) (h2 : M ≠ []) (h3 : M.foldl Sp.clear { s with op := 0 } = Sp.zero) : s.Right := by
 unfold Sp.Right
 rw [hm]
 exact ⟨h1, h2, h3⟩
theorem fine0 {s : Sp} (h : 0 ≤ s.fm ∧ s.fm ≤ 200) : s.Fine 0 := by unfold Sp.Fine; exact h
theorem fine1 {s : Sp} (h : 0 ≤ s.fd ∧ s.fd ≤ 255) : s.Fine 1 := by unfold Sp.Fine; simpa using h
theorem fine2 {s : Sp} (h : 0 ≤ s.pl ∧ s.pl ≤ 8) : s.Fine 2 := by unfold Sp.Fine; simpa using h
theorem fine3 {s : Sp} (h : (0 ≤ s.tt ∧ s.tt ≤ 255) ∧ s.tt ≠ s.fd) : s.Fine 3 := by unfold Sp.Fine; simpa using h
theorem fine4 {s : Sp} (h : 2 ≤ s.a ∧ s.a ≤ 1048576) : s.Fine 4 := by unfold Sp.Fine; simpa using h
theorem fine5 {s : Sp} (h : ((-1048576 ≤ s.a ∧ s.a ≤ 1048576) ∧ s.a ≠ 0) ∧ (-1099511627776 ≤ s.b ∧ s.b ≤ 1099511627776)) : s.Fine 5 := by unfold Sp.Fine; simpa using h
theorem fine7 {s : Sp} (h : Table s.t 1000) : s.Fine 7 := by unfold Sp.Fine; simpa using h
theorem fine8 {s : Sp} (h : s.f.Right ∧ s.f.id = s.fd) : s.Fine 8 := by unfold Sp.Fine; simpa using h
theorem fine9 {s : Sp} (h : s.f.Has s.v) : s.Fine 9 := by unfold Sp.Fine; simpa using h
theorem fine11 {s : Sp} (h : schema.Fine (s.fm, s.l)) : s.Fine 11 := by unfold Sp.Fine; simpa using h
theorem table_wide {t : List Int} {a : Int} (h : Table t a) (ha : a ≤ 1000) : Table t 1000 := ⟨h.1, fun n hn => by have := h.2.1 n hn; omega, h.2.2⟩
theorem inv_right {v : Int} {F : List schema.Form} {s : Sp} (h : (on v F s).2.2 = 0) : (inv F s).Right ∧ (inv F s).op = s.op + 20 := by
 have hf := (on_ok h).1
 obtain ⟨e1, e2, e3, e4⟩ := err_zero (on_err0 h)
 have hop := fit_op hf
 have hfine := hf.2.1.1
 have hfm : 0 ≤ s.fm ∧ s.fm ≤ 200 := by
  have : s.Fine 0 := hfine 0 (by
   have h10 : s.op = 1 ∨ s.op = 2 ∨ s.op = 3 ∨ s.op = 4 ∨ s.op = 5 ∨ s.op = 6 ∨ s.op = 7 ∨ s.op = 8 ∨ s.op = 9 ∨ s.op = 10 := by omega
   rcases h10 with h | h | h | h | h | h | h | h | h | h <;> rw [h] <;> decide)
  unfold Sp.Fine at this
  exact this
 by_cases h9 : s.op = 9
 ·have hi : inv F s = ⟨29, s.fm, 0, 0, 0, 0, 0, fd0, va0, [], []⟩ := by unfold inv; rw [if_pos h9]
  rw [hi]
  refine ⟨right_of (M := [0]) rfl (fun m hm => ?_) (by decide) rfl, by rw [h9]; rfl⟩
  obtain rfl : m = 0 := by simpa using hm
  exact fine0 hfm
 cases hn : named F s.fm with
 | none =>
  exfalso
  have hb : begin_ F s = ⟨s, 0, [], false, -1, fd0⟩ := by unfold begin_; rw [hn]
  rw [hb] at e1
  unfold found at e1
  simp [h9] at e1
 | some p =>
  obtain ⟨hp1, hp2⟩ := named_some hn
  have hb : begin_ F s = ⟨s, s.fm, p.2, true, firstAt (ids p.2) s.fd, oldAt p.2 (firstAt (ids p.2) s.fd)⟩ := by unfold begin_; rw [hn]
  rw [hb] at e1 e4
  have hpF := hf.1.2.2.1 p hp1
  have hfa : fieldsAt F s.fm = p.2 := by unfold fieldsAt; rw [hn]
  by_cases h10 : s.op = 10
  ·have hi : inv F s = ⟨30, s.fm, 0, 0, 0, 0, 0, fd0, va0, [], p.2⟩ := by unfold inv; rw [if_neg h9, if_pos h10, hfa]
   rw [hi]
   refine ⟨right_of (M := [0, 11]) rfl (fun m hm => ?_) (by decide) rfl, by rw [h10]; rfl⟩
   have hm' : m = 0 ∨ m = 11 := by simpa using hm
   rcases hm' with rfl | rfl
   ·exact fine0 hfm
   ·exact fine11 (by show schema.Fine (s.fm, p.2); rw [← hp2]; exact hpF)
  by_cases h1 : s.op = 1
  ·have hi : inv F s = ⟨21, s.fm, s.f.id, 0, 0, 0, 0, fd0, va0, [], []⟩ := by unfold inv; rw [if_neg h9, if_neg h10, if_pos h1]
   have hv : s.f.Has s.v := by
    have : s.Fine 9 := hfine 9 (by rw [h1]; decide)
    unfold Sp.Fine at this
    simpa using this
   rw [hi]
   refine ⟨right_of (M := [0, 1]) rfl (fun m hm => ?_) (by decide) rfl, by rw [h1]; rfl⟩
   have hm' : m = 0 ∨ m = 1 := by simpa using hm
   rcases hm' with rfl | rfl
   ·exact fine0 hfm
   ·exact fine1 hv.1.1
  have hk : 0 ≤ firstAt (ids p.2) s.fd := by unfold found at e1; simpa [h9, h1, h10] using e1
  obtain ⟨hl, hor⟩ := old_right hf.1 hn hk
  have hl8 := hpF.2.1.2
  have hid : (oldAt p.2 (firstAt (ids p.2) s.fd)).id = s.fd := by
   have h2 := (firstAt_lt hk).2
   unfold oldAt
   rw [if_pos hk]
   generalize (firstAt (ids p.2) s.fd).toNat = j at *
   rw [List.getD_eq_getElem?_getD, List.getElem?_eq_getElem hl, Option.getD_some]
   unfold ids at h2
   rw [List.getElem?_map, List.getElem?_eq_getElem hl] at h2
   simpa using h2
  have hfd : 0 ≤ s.fd ∧ s.fd ≤ 255 := by rw [← hid]; exact hor.1
  have hat : firstAt (ids p.2) s.fd ≤ 8 := by omega
  unfold inv
  rw [hfa, if_neg h9, if_neg h10, if_neg h1]
  unfold suits at e4
  simp only at e4
  generalize oldAt p.2 (firstAt (ids p.2) s.fd) = o at *
  generalize firstAt (ids p.2) s.fd = k at *
  have hcase : s.op = 2 ∨ s.op = 3 ∨ s.op = 4 ∨ s.op = 5 ∨ s.op = 6 ∨ s.op = 7 ∨ s.op = 8 := by omega
  rcases hcase with h2 | h3 | h4 | h5 | h6 | h7 | h8
  ·rw [if_pos h2]
   refine ⟨right_of (M := [0, 2, 9]) rfl (fun m hm => ?_) (by decide) rfl, by rw [h2]; rfl⟩
   have hm' : m = 0 ∨ m = 2 ∨ m = 9 := by simpa using hm
   rcases hm' with rfl | rfl | rfl
   ·exact fine0 hfm
   ·exact fine2 ⟨hk, hat⟩
   ·exact fine9 (by simpa [h2] using e4)
  ·rw [if_neg (show ¬ s.op = 2 by omega), if_pos h3]
   refine ⟨right_of (M := [0, 1, 8]) rfl (fun m hm => ?_) (by decide) rfl, by rw [h3]; rfl⟩
   have hm' : m = 0 ∨ m = 1 ∨ m = 8 := by simpa using hm
   rcases hm' with rfl | rfl | rfl
   ·exact fine0 hfm
   ·exact fine1 hfd
   ·exact fine8 ⟨hor, hid⟩
  ·rw [if_neg (show ¬ s.op = 2 by omega), if_neg (show ¬ s.op = 3 by omega), if_pos h4]
   have hm5 := hfine 5 (by rw [h4]; decide)
   unfold Sp.Fine at hm5
   simp only [Nat.reduceEqDiff, if_false, if_true] at hm5
   refine ⟨right_of (M := [0, 1, 5, 8]) rfl (fun m hm => ?_) (by decide) rfl, by rw [h4]; rfl⟩
   have hm' : m = 0 ∨ m = 1 ∨ m = 5 ∨ m = 8 := by simpa using hm
   rcases hm' with rfl | rfl | rfl | rfl
   ·exact fine0 hfm
   ·exact fine1 hfd
   ·exact fine5 hm5
   ·exact fine8 ⟨hor, hid⟩
  ·rw [if_neg (show ¬ s.op = 2 by omega), if_neg (show ¬ s.op = 3 by omega), if_neg (show ¬ s.op = 4 by omega), if_pos h5]
   have hm6 := hfine 6 (by rw [h5]; decide)
   unfold Sp.Fine at hm6
   simp only [Nat.reduceEqDiff, if_false, if_true] at hm6
   refine ⟨right_of (M := [0, 1, 7]) rfl (fun m hm => ?_) (by decide) rfl, by rw [h5]; rfl⟩
   have hm' : m = 0 ∨ m = 1 ∨ m = 7 := by simpa using hm
   rcases hm' with rfl | rfl | rfl
   ·exact fine0 hfm
   ·exact fine1 hfd
   ·exact fine7 (table_wide hm6.2 hm6.1.2)
  ·rw [if_neg (show ¬ s.op = 2 by omega), if_neg (show ¬ s.op = 3 by omega), if_neg (show ¬ s.op = 4 by omega), if_neg (show ¬ s.op = 5 by omega), if_pos h6]
   have hm4 := hfine 4 (by rw [h6]; decide)
   unfold Sp.Fine at hm4
   simp only [Nat.reduceEqDiff, if_false, if_true] at hm4
   have hm3 := hfine 3 (by rw [h6]; decide)
   unfold Sp.Fine at hm3
   simp only [Nat.reduceEqDiff, if_false, if_true] at hm3
   refine ⟨right_of (M := [0, 1, 4, 3, 8]) rfl (fun m hm => ?_) (by decide) rfl, by rw [h6]; rfl⟩
   have hm' : m = 0 ∨ m = 1 ∨ m = 4 ∨ m = 3 ∨ m = 8 := by simpa using hm
   rcases hm' with rfl | rfl | rfl | rfl | rfl
   ·exact fine0 hfm
   ·exact fine1 hfd
   ·exact fine4 hm4
   ·exact fine3 hm3
   ·exact fine8 ⟨hor, hid⟩
  ·rw [if_neg (show ¬ s.op = 2 by omega), if_neg (show ¬ s.op = 3 by omega), if_neg (show ¬ s.op = 4 by omega), if_neg (show ¬ s.op = 5 by omega), if_neg (show ¬ s.op = 6 by omega), if_pos h7]
   refine ⟨right_of (M := [0, 1, 2]) rfl (fun m hm => ?_) (by decide) rfl, by rw [h7]; rfl⟩
   have hm' : m = 0 ∨ m = 1 ∨ m = 2 := by simpa using hm
   rcases hm' with rfl | rfl | rfl
   ·exact fine0 hfm
   ·exact fine1 hfd
   ·exact fine2 ⟨hk, hat⟩
  ·rw [if_neg (show ¬ s.op = 2 by omega), if_neg (show ¬ s.op = 3 by omega), if_neg (show ¬ s.op = 4 by omega), if_neg (show ¬ s.op = 5 by omega), if_neg (show ¬ s.op = 6 by omega), if_neg (show ¬ s.op = 7 by omega)]
   have hm3 := hfine 3 (by rw [h8]; decide)
   unfold Sp.Fine at hm3
   simp only [Nat.reduceEqDiff, if_false, if_true] at hm3
   refine ⟨right_of (M := [0, 1, 3]) rfl (fun m hm => ?_) (by decide) rfl, by rw [h8]; rfl⟩
   have hm' : m = 0 ∨ m = 1 ∨ m = 3 := by simpa using hm
   rcases hm' with rfl | rfl | rfl
   ·exact fine0 hfm
   ·exact fine1 hm3.1
   ·exact fine3 ⟨hfd, fun e => hm3.2 e.symm⟩
end Go.Proofs.YtaciegkblklokaaGreat.pair
namespace Go.Proofs.YtaciegkblklokaaGreat.step
open Go.RowKit
abbrev Z16 : List Value := zZ
def stV : List St → List Value
 | [] => []
 | p :: L => p.C ++ stV L
theorem stV_append : ∀ a b, stV (a ++ b) = stV a ++ stV b
 | [], _ => rfl
 | p :: a, b => by rw [List.cons_append, stV, stV, stV_append a b, List.append_assoc]
theorem C_len (p : St) : p.C.length = 16 := rfl
theorem stV_length : ∀ L, (stV L).length = L.length * 16
 | [] => rfl
 | p :: L => by rw [stV, List.length_append, C_len, stV_length L, List.length_cons]; omega
theorem stV_at : ∀ (L : List St) (i : Nat) (p : St) (c : Nat), L[i]? = some p → c < 16 → (stV L)[i * 16 + c]? = p.C[c]?
 | [], i, p, c, h, _ => by simp at h
 | q :: L, 0, p, c, h, hc => by
  simp at h; subst h
  rw [stV, List.getElem?_append_left (by rw [C_len]; omega)]
  simp
 | q :: L, i + 1, p, c, h, hc => by
  rw [stV, List.getElem?_append_right (by rw [C_len]; omega)]
  rw [← stV_at L i p c (by simpa using h) hc]
  congr 1
  rw [C_len]; omega
theorem own_sts {w : World} {base n : Nat} {a : Option Addr} {cap : Nat} {L : List St} {e : TypeId} (h : w.ownsRow base e 16 (.slice a n cap) n (stV L)) : Sts w a L := by
 obtain ⟨hl, hr⟩ := h
 have hn : n = L.length := by have := stV_length L; rw [hl] at this; omega
 rcases hr with ⟨hv, h0⟩ | ⟨b, cap', cur, hv, _, hg, hcp, _, _, htake⟩
 ·cases hv
  exact .inl (List.eq_nil_of_length_eq_zero (by omega))
 ·cases hv
  refine .inr ⟨b, 0, rfl, (Array.getElem?_eq_some_iff.1 hg).1, fun i p hp c x hx => ?_⟩
  have hi : i < L.length := (List.getElem?_eq_some_iff.1 hp).1
  have hc : c < 16 := (List.getElem?_eq_some_iff.1 hx).1
  have h1 := stV_at L i p c hp hc
  rw [hx, ← htake, List.getElem?_take, if_pos (by omega)] at h1
  rw [show 0 + i * 16 + c = 0 + (i * 16 + c) by omega, cell_of_row w b _ cur _ _ hg, Nat.zero_add, ← h1, Array.getElem?_toList]
theorem st_info_all : (Tryz.prog.info? 32).map (fun i => (i.zero, i.size, i.bytes)) = some (some (.agg ⟨Z16⟩), 16, 168) := by kernel_rfl
theorem st_info_parts : ∃ i, Tryz.prog.info? 32 = some i ∧ i.zero = some (.agg ⟨Z16⟩) ∧ i.size = 16 ∧ i.bytes = 168 := by
 obtain ⟨i, hi, he⟩ := Option.map_eq_some_iff.1 st_info_all
 simp only [Prod.mk.injEq] at he
 exact ⟨i, hi, he.1, he.2.1, he.2.2⟩
theorem C_one (p : St) : ∀ v ∈ p.C, v.oneCell' = true := by
 intro v hv
 simp only [St.C, spC, List.mem_cons, List.not_mem_nil, or_false] at hv
 rcases hv with rfl | rfl | rfl | rfl | rfl | rfl | rfl | rfl | rfl | rfl | rfl | rfl | rfl | rfl | rfl | rfl <;> rfl
theorem stV_get : ∀ (L : List St) (j : Nat) (u : Value), (stV L)[j]? = some u → ∃ i p c, L[i]? = some p ∧ j = i * 16 + c ∧ c < 16 ∧ p.C[c]? = some u
 | [], j, u, h => by simp [stV] at h
 | p :: L, j, u, h => by
  rw [stV] at h
  by_cases hj : j < 16
  ·rw [List.getElem?_append_left (by rw [C_len]; exact hj)] at h
   exact ⟨0, p, j, rfl, by omega, hj, h⟩
  ·rw [List.getElem?_append_right (by rw [C_len]; omega), C_len] at h
   obtain ⟨i, q, c, h1, h2, h3, h4⟩ := stV_get L (j - 16) u h
   exact ⟨i + 1, q, c, by simpa using h1, by omega, h3, h4⟩
theorem stV_one : ∀ L, ∀ u ∈ stV L, u.oneCell' = true
 | [], u, h => by cases h
 | p :: L, u, h => by
  rw [stV] at h
  rcases List.mem_append.1 h with h | h
  ·exact C_one p u h
  ·exact stV_one L u h
theorem sts_news {w : World} {a : Option Addr} {L : List St} (h : Sts w a L) : L.length = 0 ∨ ∃ ad, a = some ad ∧ ∀ j u, (stV L)[j]? = some u → w.cell? (ad.add j) = some u := by
 rcases h with h | ⟨b, off, ha, hlt, hc⟩
 ·exact .inl (by rw [h]; rfl)
 ·refine .inr ⟨_, ha, fun j u hj => ?_⟩
  obtain ⟨i, p, c, h1, rfl, h3, h4⟩ := stV_get L j u hj
  have := hc i p h1 c u h4
  have e : (⟨b, off, none⟩ : Addr).add (i * 16 + c) = ⟨b, off + i * 16 + c, none⟩ := by
   rw [Addr.add_lit, Nat.add_assoc]
  rw [e]
  exact this
theorem block_own {w : World} {B g : Nat} {p : St} (hb : Block w g 32 p.C) (hB : B ≤ g) : w.ownsRow B 32 16 (.slice (some ⟨g, 0, none⟩) 1 1) 1 p.C :=
 ⟨rfl, .inr ⟨g, 1, p.C.toArray, rfl, hB, hb, Nat.le_refl _, by unfold maxLen; omega, rfl, rfl⟩⟩
end Go.Proofs.YtaciegkblklokaaGreat.step
