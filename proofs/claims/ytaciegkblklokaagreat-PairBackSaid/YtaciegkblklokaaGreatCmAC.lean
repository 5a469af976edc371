/- Contracts and lemmas that the claims of this seat share: PairRefCheck, PairAwake, SchemaBig, PairGreat, TypingLawKit. Each says its own conditions. -/
import Derived.Test.YtaciegkblklokaaGreatCmAB
import Derived.Test.YtaciegkblklokaaGreatCmP
import Derived.Test.YtaciegkblklokaaGreatCmA
import Derived.Test.YtaciegkblklokaaGreatCmF
import Derived.Test.YtaciegkblklokaaGreatCmY
import Derived.Test.YtaciegkblklokaaGreatCmI
set_option linter.unusedVariables false
namespace Go.Proofs.YtaciegkblklokaaGreat.pair
open Go.RowKit Go.Proofs.YtaciegkblklokaaGreat.schema Go.Proofs.YtaciegkblklokaaGreat.typing
open Go.Proofs.YtaciegkblklokaaGreat.field (Gives newB gives_from)
open Go.Proofs.YtaciegkblklokaaGreat.step (Sp St StL sps sps_length sps_at step_range eq_succ Lists exec_indexP)
set_option maxRecDepth 20000 in
set_option maxHeartbeats 3200000 in
theorem refCheck_any (v : Int) (a : Option Addr) (cap : Nat) (F : List Fm) (la : Option Addr) (lc : Nat) (L : List St) (ba : Option Addr) (bc : Nat) (M : List St) (w : World) (h : FmL w a F) (hF : Small w F) (hl : StL w la L) (hn : L.length ≤ 60) (h40 : ∀ p ∈ L, p.s.l.length ≤ 40) (hT : ∀ p ∈ L, p.s.t.length ≤ 1000000) (hm : StL w ba M) (hM : M.length ≤ maxLen) :
  Calls Tryz.prog 16 #[zS v a F.length cap, .slice la L.length lc, .slice ba M.length bc] w (Gives (.tuple #[.int .i64 ((check v (forms F) (sps L) (sps M)).1 : Nat), .int .i64 ((check v (forms F) (sps L) (sps M)).2 : Nat)]) w) := by
 have hmm : (M.length : Int) ≤ 9223372036854775807 := by unfold maxLen at hM; omega
 have hb := newB w (.cells (zS v a F.length cap) 24)
 have HX := hid (boxS v a F cap w)
 have cA := refAll_any v a cap F la lc L ((w.alloc (.cells (zS v a F.length cap) 24))) (h.below hb) (hF.below hb) (hl.below hb) hn h40
 have cK := fun (w' : World) (hb' : Below w.heap.size w w') => refBack_any v a cap F la lc L w' (h.below hb') (hF.below hb') (hl.below hb') hn h40 hT
 have hlen := backs_length (v := v) (F := forms F) (L := sps L)
 rw [sps_length] at hlen
 unfold check
 generalize backs v (forms F) (sps L) [] = R at *
 generalize all 0 v (forms F) (sps L) = A at *
 obtain ⟨Q, n0⟩ := R
 obtain ⟨v2, PF, ix, n⟩ := A
 simp only at hlen ⊢
 unfold AllAs at cA
 unfold BackAs at cK
 simp only at cA cK
 have HMM := hid hm
 have HB := hid hb
 clear h hF hl h40 hT hb hM hm
 by_cases h0 : n = 0
 ·subst h0
  rw [if_pos rfl]
  obtain ⟨X, hX⟩ : ∃ X, Hid (diff 0 Q (sps M) = X) := ⟨_, rfl⟩
  rw [hX.out]
  have HQL : Hid (Q.length ≤ 60) := hid (by omega)
  unfold Gives
  clear hlen hn
  go_enter Tryz.func16, Tryz.ntmps16
  go_wp2_with (first
   | (go_at_call 17; ((with_reducible refine cA.mono ?_); rintro e w2 ⟨x, xc, G, rfl, hG, hfo, hb2⟩; have hN2 := newB w2 (.cells (zS v2 x G.length xc) 24); have hb3 := hb2.trans (hN2.mono hb2.size); have hx := HX.out _ hb3; have z0 := hx.1; have z1 := hx.2.1; have cL := cK _ hx.2.2; have HB3 := hid hx.2.2; clear hx hb3 hN2 hb2 hG hfo cA cK))
   | (go_at_call 12; ((with_reducible refine cL.mono ?_); rintro e w4 ⟨q, qc, P, rfl, hs, hP, hb4⟩; have HP0 := hid hP; have HS := hid hs; have HB4 : Hid (Below w.heap.size w w4) := hid (HB3.out.trans (hb4.mono HB3.out.size)); clear hb4 hP hs)))
  have hpl : P.length ≤ 60 := by have h1 := congrArg List.length HS.out; rw [sps_length] at h1; have := HQL.out; omega
  have hml : (P.length : Int) ≤ 60 := by omega
  obtain ⟨mn, hmn⟩ : ∃ mn : Nat, mn = min P.length M.length := ⟨_, rfl⟩
  have HMIN := hid hmn
  have HP := HP0
  have HG0 : Hid (StL w4 ba M) := hid (HMM.out.below HB4.out)
  have HG := HG0
  have HLN := hid (sps_length P)
  have HMN := hid (sps_length M)
  have hQ : Q = sps P := HS.out.symm
  subst hQ
  have em : ∀ ts t W, (Builtin.min_ ts t #[.int .i64 (P.length : Int), .int .i64 (M.length : Int)]).run Tryz.prog W = .ok (.int .i64 (mn : Int)) W := fun ts t W => by
   rw [run_min_int2, hmn]
   congr 2
   omega
  clear hmn HP0 HG0 HQL hpl HS
  go_loopw [13] (fun n wr => ∃ k : Nat, k ≤ mn ∧ n = .int .i64 (k : Int) ∧ Hid ((sps P).take k = (sps M).take k) ∧ Hid (Below w4.heap.size w4 wr)) (fun n _ => mn - (intOf n).toNat)
  case atStart => exact ⟨0, Nat.zero_le _, rfl, hid rfl, hid (Below.refl _ _)⟩
  case round =>
   obtain ⟨k, hk, rfl, HEQ, HB⟩ := hrel
   by_cases hlt : k < mn
   ·have i1 : (k : Int) < P.length := by have := HMIN.out; omega
    have i2 : (k : Int) < M.length := by have := HMIN.out; omega
    obtain ⟨g, off, p, rfl, hbl, hp, hlp, c0⟩ := step_range HP.out (below_drew HB.out) (k := k) (by have := HMIN.out; omega)
    obtain ⟨g', off', q, rfl, hbl', hq, hlq, d0⟩ := step_range HG.out (below_drew HB.out) (k := k) (by have := HMIN.out; omega)
    have hlt1 : Hid (k < P.length) := hid (by have := HMIN.out; omega)
    have hlt2 : Hid (k < M.length) := hid (by have := HMIN.out; omega)
    have HS := hid (eq_succ (sps_at hp) (sps_at hq))
    have HNE := hid (fun (hpq : ¬ p.s = q.s) => diff_ne HEQ.out (sps_at hp) (sps_at hq) hpq)
    obtain ⟨s, ta, tc, la, lc⟩ := p
    obtain ⟨u, ua, uc, va, vc⟩ := q
    simp only at HS HNE c0 d0 hlp hlq
    have HP1 : Hid (wr.drew.rangeAt g (off + k * 16) (zP s ta tc la lc)) := hid c0
    have HP2 : Hid (wr.drew.rangeAt g' (off' + k * 16) (zP u ua uc va vc)) := hid d0
    have HL1 := hid hbl
    have HL2 := hid hbl'
    have cS := step.refSame_any s ta tc la lc u ua uc va vc wr.drew hlp hlq
    unfold Gives at cS
    clear hp hq hlp hlq c0 d0
    by_cases hpq : s = u
    ·rw [decide_eq_true hpq] at cS
     have HPQ := hid hpq
     clear hpq
     go_wp2
     refine plan.regionS (S := fun w' => Below wr.drew.heap.size wr.drew w') ?_
     have hS := Below.refl wr.drew.heap.size wr.drew
     refine plan.firstS 0 _ (.slice (some ⟨g, off, none⟩) P.length qc) rfl (fun w' hS' => (by kernel_rfl)) hS ?_
     refine plan.firstS 1 _ (.int .i64 (k : Int)) rfl (fun w' hS' => (by kernel_rfl)) hS ?_
     refine plan.firstS 2 _ (.pointer (some ⟨g, off + k * 16, none⟩)) rfl (fun w' hS' => exec_indexP (cap := qc) rfl hlt1.out) hS ?_
     refine plan.firstS 3 _ (zP s ta tc la lc) rfl (fun w' hS' => exec_load_at (b := g) (off := off + k * 16) rfl (range_later HP1.out hS' HL1.out) Tryz.underlying32 rfl info_st.out) hS ?_
     refine plan.firstS 4 _ (.slice (some ⟨g', off', none⟩) M.length bc) rfl (fun w' hS' => (by kernel_rfl)) hS ?_
     refine plan.firstS 5 _ (.int .i64 (k : Int)) rfl (fun w' hS' => (by kernel_rfl)) hS ?_
     refine plan.firstS 6 _ (.pointer (some ⟨g', off' + k * 16, none⟩)) rfl (fun w' hS' => exec_indexP (cap := bc) rfl hlt2.out) hS ?_
     refine plan.firstS 7 _ (zP u ua uc va vc) rfl (fun w' hS' => exec_load_at (b := g') (off := off' + k * 16) rfl (range_later HP2.out hS' HL2.out) Tryz.underlying32 rfl info_st.out) hS ?_
     refine plan.callS 8 _ 13 #[zP s ta tc la lc, zP u ua uc va vc] rfl (cS.mono ?_)
     rintro e w3 ⟨rfl, hb3⟩
     refine ⟨_, rfl, hb3, ?_⟩
     refine plan.firstS 9 _ (.bool false) rfl (fun w' hS' => (by kernel_rfl)) hb3 ?_
     refine plan.doneS ?_
     have HB3 := hid ((below_drew HB.out).trans (hb3.mono (below_drew HB.out).size))
     clear hb3 hS cS
     walk_nrm
     go_wp2
     exact ⟨⟨k + 1, by omega, by go_num, hid (HS.out.2 ⟨HEQ.out, HPQ.out⟩), HB3⟩, by simp [intOf]; omega⟩
    ·rw [decide_eq_false hpq] at cS
     obtain rfl : (k, 18) = X := by rw [← hX.out]; exact (HNE.out hpq).symm
     clear hpq
     go_wp2
     refine plan.regionS (S := fun w' => Below wr.drew.heap.size wr.drew w') ?_
     have hS := Below.refl wr.drew.heap.size wr.drew
     refine plan.firstS 0 _ (.slice (some ⟨g, off, none⟩) P.length qc) rfl (fun w' hS' => (by kernel_rfl)) hS ?_
     refine plan.firstS 1 _ (.int .i64 (k : Int)) rfl (fun w' hS' => (by kernel_rfl)) hS ?_
     refine plan.firstS 2 _ (.pointer (some ⟨g, off + k * 16, none⟩)) rfl (fun w' hS' => exec_indexP (cap := qc) rfl hlt1.out) hS ?_
     refine plan.firstS 3 _ (zP s ta tc la lc) rfl (fun w' hS' => exec_load_at (b := g) (off := off + k * 16) rfl (range_later HP1.out hS' HL1.out) Tryz.underlying32 rfl info_st.out) hS ?_
     refine plan.firstS 4 _ (.slice (some ⟨g', off', none⟩) M.length bc) rfl (fun w' hS' => (by kernel_rfl)) hS ?_
     refine plan.firstS 5 _ (.int .i64 (k : Int)) rfl (fun w' hS' => (by kernel_rfl)) hS ?_
     refine plan.firstS 6 _ (.pointer (some ⟨g', off' + k * 16, none⟩)) rfl (fun w' hS' => exec_indexP (cap := bc) rfl hlt2.out) hS ?_
     refine plan.firstS 7 _ (zP u ua uc va vc) rfl (fun w' hS' => exec_load_at (b := g') (off := off' + k * 16) rfl (range_later HP2.out hS' HL2.out) Tryz.underlying32 rfl info_st.out) hS ?_
     refine plan.callS 8 _ 13 #[zP s ta tc la lc, zP u ua uc va vc] rfl (cS.mono ?_)
     rintro e w3 ⟨rfl, hb3⟩
     refine ⟨_, rfl, hb3, ?_⟩
     refine plan.firstS 9 _ (.bool true) rfl (fun w' hS' => (by kernel_rfl)) hb3 ?_
     refine plan.doneS ?_
     have HB3 := hid ((below_drew HB.out).trans (hb3.mono (below_drew HB.out).size))
     clear hb3 hS cS
     walk_nrm
     go_wp2
     go_ret2
     exact ⟨rfl, HB4.out.trans (HB3.out.mono HB4.out.size)⟩
   ·obtain rfl : k = mn := by omega
    have hmin : k = min (sps P).length (sps M).length := by rw [HLN.out, HMN.out]; exact HMIN.out
    by_cases hlen : P.length = M.length
    ·obtain rfl : (0, 0) = X := by rw [← hX.out]; exact (diff_eq HEQ.out hmin (by rw [HLN.out, HMN.out]; exact hlen)).symm
     have hd : ((P.length : Int) != (M.length : Int)) = false := by simp; omega
     have hd1 : decide ((k : Int) < (P.length : Int)) = false := decide_eq_false (by have := HMIN.out; omega)
     have hd2 : ¬ ((k : Int) < (P.length : Int)) := by have := HMIN.out; omega
     clear hmin hlen
     go_wp2
     go_ret2
     exact ⟨rfl, HB4.out.trans (HB.out.mono HB4.out.size)⟩
    ·obtain rfl : (k, 18) = X := by rw [← hX.out]; exact (diff_len HEQ.out hmin (by rw [HLN.out, HMN.out]; exact hlen)).symm
     have hd : ((P.length : Int) != (M.length : Int)) = true := by simp; omega
     by_cases hpk : k < P.length
     ·have hd1 : decide ((k : Int) < (P.length : Int)) = true := decide_eq_true (by omega)
      have hd3 : (k : Int) < (P.length : Int) := by omega
      have hd2 : decide ((k : Int) < (M.length : Int)) = false := decide_eq_false (by have := HMIN.out; omega)
      have hd4 : ¬ (k : Int) < (M.length : Int) := by have := HMIN.out; omega
      clear hmin hlen hpk
      go_wp2
      go_ret2
      exact ⟨rfl, HB4.out.trans (HB.out.mono HB4.out.size)⟩
     ·have hd1 : decide ((k : Int) < (P.length : Int)) = false := decide_eq_false (by omega)
      have hd3 : ¬ (k : Int) < (P.length : Int) := by omega
      clear hmin hlen hpk
      go_wp2
      go_ret2
      exact ⟨rfl, HB4.out.trans (HB.out.mono HB4.out.size)⟩
 ·rw [if_neg h0]
  have hne : (((n : Nat) : Int) != 0) = true := by simpa using h0
  unfold Gives
  clear h0 cK hn hlen
  go_enter Tryz.func16, Tryz.ntmps16
  go_wp2_with (go_at_call 17; ((with_reducible refine cA.mono ?_); rintro e w2 ⟨x, xc, G, rfl, hG, hfo, hb2⟩; have hN2 := newB w2 (.cells (zS v2 x G.length xc) 24); have HB2 := hid (hb2.trans (hN2.mono hb2.size)); clear hb2 hN2 hG hfo))
  go_ret2
  exact ⟨rfl, HB.out.trans (HB2.out.mono HB.out.size)⟩
end Go.Proofs.YtaciegkblklokaaGreat.pair
namespace Go.Proofs.YtaciegkblklokaaGreat.pair
open Go.RowKit Go.Proofs.YtaciegkblklokaaGreat.schema Go.Proofs.YtaciegkblklokaaGreat.typing
open Go.Proofs.YtaciegkblklokaaGreat.field (newB)
open Go.Proofs.YtaciegkblklokaaGreat.step (OwnS)
def fA : field.Fd := ⟨3, 2, 0, 0, 0⟩
def sA : step.Sp := ⟨8, 0, 3, 0, 8, 0, 0, step.fd0, step.va0, [], []⟩
theorem inv_awake : invert 1 [(0, [fA])] sA = (⟨28, 0, 8, 0, 3, 0, 0, step.fd0, step.va0, [], []⟩, 0) := by decide +kernel
set_option maxRecDepth 20000 in
set_option maxHeartbeats 1600000 in
theorem awake_any (w : World) : Calls Tryz.prog 8 #[] w (Yes w) := by
 obtain ⟨q, hq⟩ : ∃ q : Fm, Hid (q = ⟨0, some ⟨w.heap.size, 0, none⟩, 1, [fA]⟩) := ⟨_, hid rfl⟩
 obtain ⟨W, hW⟩ : ∃ W, W = ((w.alloc (.cells #[.int .i64 3, .int .i64 2, .int .i64 0, .int .i64 0, .int .i64 0] 26)).alloc (.cells #[.int .i64 0, .slice (some ⟨w.heap.size, 0, none⟩) 1 1] 58)).alloc (.cells #[.int .i64 1, .slice (some ⟨w.heap.size + 1, 0, none⟩) 1 1] 24) := ⟨_, rfl⟩
 have kF : Block W w.heap.size 26 [.int .i64 3, .int .i64 2, .int .i64 0, .int .i64 0, .int .i64 0] := by rw [hW]; exact ((Block.new w _ _).alloc _).alloc _
 have kM : Block W (w.heap.size + 1) 58 [.int .i64 0, .slice (some ⟨w.heap.size, 0, none⟩) 1 1] := by
  rw [hW]
  have := (Block.new (w.alloc (.cells #[.int .i64 3, .int .i64 2, .int .i64 0, .int .i64 0, .int .i64 0] 26)) 58 [.int .i64 0, .slice (some ⟨w.heap.size, 0, none⟩) 1 1]).alloc (.cells #[.int .i64 1, .slice (some ⟨w.heap.size + 1, 0, none⟩) 1 1] 24)
  simpa using this
 have hb : Below w.heap.size w W := by
  rw [hW]
  have h1 := newB w (.cells #[.int .i64 3, .int .i64 2, .int .i64 0, .int .i64 0, .int .i64 0] 26)
  have h2 := h1.alloc h1.size (.cells #[.int .i64 0, .slice (some ⟨w.heap.size, 0, none⟩) 1 1] 58)
  exact h2.alloc h2.size _
 have hfd : field.Fds W (some ⟨w.heap.size, 0, none⟩) [fA] := by
  refine .inr ⟨w.heap.size, 0, rfl, kF.lt, fun i p hp => ?_⟩
  cases i with
  | zero => simp at hp; subst hp; exact ⟨kF.cell 0, kF.cell 1, kF.cell 2, kF.cell 3, kF.cell 4⟩
  | succ i => simp at hp
 have hfm : FmL W (some ⟨w.heap.size + 1, 0, none⟩) [q] := by
  refine ⟨.inr ⟨w.heap.size + 1, 0, rfl, kM.lt, fun i p hp => ?_⟩, fun p hp => ?_⟩
  ·cases i with
   | zero => simp at hp; subst hp; rw [hq.out]; exact ⟨kM.cell 0, kM.cell 1⟩
   | succ i => simp at hp
  ·rw [List.mem_singleton.1 hp, hq.out]; exact ⟨hfd, Nat.le_refl 1, by show (1 : Nat) ≤ maxLen; unfold maxLen; omega⟩
 have hsm : Small W [q] := ⟨by simp, fun p hp => by rw [List.mem_singleton.1 hp, hq.out]; exact ⟨hfd, by simp⟩⟩
 have cO := invert_any 1 (some ⟨w.heap.size + 1, 0, none⟩) 1 [q] sA none 0 none 0 W hfm hsm ⟨.inl rfl, .inl rfl, Nat.zero_le _, Nat.zero_le _⟩ (by simp [sA]) (by simp [sA])
 rw [show forms [q] = [(0, [fA])] by rw [hq.out]; rfl, inv_awake] at cO
 unfold InvertAs at cO
 replace cO : Calls Tryz.prog 9 #[.agg #[.int .i64 1, .slice (some ⟨w.heap.size + 1, 0, none⟩) 1 1], .agg #[.int .i64 8, .int .i64 0, .int .i64 3, .int .i64 0, .int .i64 8, .int .i64 0, .int .i64 0, .int .i64 0, .int .i64 0, .int .i64 0, .int .i64 0, .int .i64 0, .int .i64 0, .string ⟨#[]⟩, .slice none 0 0, .slice none 0 0]] W (fun e w' => ∃ xa xc ya yc, e = .returned (.tuple #[.agg #[.int .i64 28, .int .i64 0, .int .i64 8, .int .i64 0, .int .i64 3, .int .i64 0, .int .i64 0, .int .i64 0, .int .i64 0, .int .i64 0, .int .i64 0, .int .i64 0, .int .i64 0, .string ⟨#[]⟩, .slice xa 0 xc, .slice ya 0 yc], .int .i64 0]) ∧ OwnS W.heap.size w' ⟨⟨28, 0, 8, 0, 3, 0, 0, step.fd0, step.va0, [], []⟩, xa, xc, ya, yc⟩ ∧ Below W.heap.size W w') := cO
 have HB := hid hb
 clear kF kM hb hfd hfm hsm hq
 subst hW
 go_enter Tryz.func8, Tryz.ntmps8
 go_wp2_with (go_at_call 9; ((with_reducible refine cO.mono ?_); rintro e w1 ⟨xa, xc, ya, yc, rfl, _, hb1⟩; have HB1 := hid hb1; clear hb1 cO))
 go_ret
 have h9 := HB.out.trans (HB1.out.mono HB.out.size)
 exact ⟨rfl, h9.alloc h9.size _⟩
end Go.Proofs.YtaciegkblklokaaGreat.pair
namespace Go.Proofs.YtaciegkblklokaaGreat.schema
open Go.RowKit
open Go.Proofs.YtaciegkblklokaaGreat.field (Gives newB)
def big (p : Form) : Bool := decide (40 < p.2.length)
def greatB (P : List Form) : Bool := (P.take 41).any big || decide (40 < P.length)
theorem greatB_no {P : List Form} (h : greatB P = false) : P.length ≤ 40 ∧ ∀ p ∈ P, p.2.length ≤ 40 := by
 unfold greatB at h
 rw [Bool.or_eq_false_iff] at h
 have h1 : P.length ≤ 40 := by have := h.2; simp at this; omega
 refine ⟨h1, fun p hp => ?_⟩
 have h2 := h.1
 rw [List.take_of_length_le (by omega), List.any_eq_false] at h2
 have := h2 p hp
 unfold big at this
 simp at this
 omega
end Go.Proofs.YtaciegkblklokaaGreat.schema
namespace Go.Proofs.YtaciegkblklokaaGreat.pair
open Go.RowKit Go.Proofs.YtaciegkblklokaaGreat.schema
open Go.Proofs.YtaciegkblklokaaGreat.field (Gives newB)
theorem great_any (v : Int) (a : Option Addr) (cap : Nat) (F : List Fm) (la : Option Addr) (lc : Nat) (L : List step.St) (w : World) (h : FmL w a F) (hF : F.length ≤ maxLen) (hl : step.StL w la L) (hL : L.length ≤ maxLen) : Calls Tryz.prog 6 #[zS v a F.length cap, .slice la L.length lc] w (Gives (.bool (greatB (forms F) || decide (step.GreatL (step.sps L)))) w) := by
 have hml : (F.length : Int) ≤ 9223372036854775807 := by unfold maxLen at hF; omega
 have HX := hid (boxS v a F cap w)
 have HF := hid (h.below (newB w (.cells (zS v a F.length cap) 24)))
 have HL := hid (forms_length F)
 have cG := fun (w' : World) (hb : Below (w.alloc (.cells (zS v a F.length cap) 24)).heap.size (w.alloc (.cells (zS v a F.length cap) 24)) w') => step.great_any la lc L w' ((hl.below (newB w _)).below hb) hL
 obtain ⟨g, hg⟩ : ∃ g : Bool, Hid (decide (step.GreatL (step.sps L)) = g) := ⟨_, hid rfl⟩
 rw [hg.out] at cG ⊢
 obtain ⟨r, hr⟩ : ∃ r : Bool, Hid ((greatB (forms F) || g) = r) := ⟨_, hid rfl⟩
 rw [hr.out]
 unfold Gives at cG ⊢
 clear h hF hl hL
 go_enter Tryz.func6, Tryz.ntmps6
 go_wp2
 generalize (w.alloc (.cells (zS v a F.length cap) 24)) = W0 at *
 go_loopw [5] (fun n wr => ∃ k : Nat, k ≤ F.length ∧ k ≤ 41 ∧ n = .int .i64 (k : Int) ∧ W0 = wr ∧ Hid (((forms F).take k).any big = false)) (fun n _ => 41 - (intOf n).toNat)
 case atStart => exact ⟨0, Nat.zero_le _, Nat.zero_le _, rfl, rfl, hid (by simp)⟩
 case round =>
  obtain ⟨k, hk, hk2, rfl, rfl, hno⟩ := hrel
  obtain ⟨z0, z1, hbo⟩ := HX.out _ (Below.refl _ _)
  have HBO := hid hbo
  clear hbo
  by_cases h1 : k < F.length
  ·by_cases h2 : k < 41
   ·obtain ⟨b, off, p, rfl, hbl, hp, c0, c1, _, hfl⟩ := form_at HF.out (Below.refl _ _) h1
    have i1 : (k : Int) < F.length := by omega
    have i2 : (k : Int) < 41 := by omega
    have hpl : (p.fL.length : Int) ≤ 9223372036854775807 := by unfold maxLen at hfl; omega
    have hstep : ((forms F).take (k + 1)).any big = (((forms F).take k).any big || big p.p) := by
     rw [take_succ_at (forms_at hp)]; simp
    rw [hno.out, Bool.false_or] at hstep
    have HST := hid hstep
    have HBG : Hid (big p.p = true → greatB (forms F) = true) := hid fun hb => by
     unfold greatB
     rw [show ((forms F).take 41).any big = true from ?_, Bool.true_or]
     rw [List.any_eq_true]
     exact ⟨p.p, List.mem_of_getElem? (i := k) (by rw [List.getElem?_take, if_pos h2]; exact forms_at hp), hb⟩
    clear hstep hp c0
    by_cases h3 : 40 < p.fL.length
    ·obtain rfl : true = r := by rw [← hr.out, HBG.out (by unfold big; exact decide_eq_true h3)]; rfl
     have hd : decide ((p.fL.length : Int) > 40) = true := decide_eq_true (by omega)
     go_wp2
     go_ret
     exact ⟨rfl, HBO.out⟩
    ·have HNO := hid (show big p.p = false by unfold big; exact decide_eq_false h3)
     have hd : decide ((p.fL.length : Int) > 40) = false := decide_eq_false (by omega)
     clear h3
     go_wp2
     exact ⟨⟨k + 1, by omega, by omega, by go_num, trivial, hid (by rw [HST.out]; exact HNO.out)⟩, by simp [intOf]; omega⟩
   ·obtain rfl : k = 41 := by omega
    obtain rfl : true = r := by rw [← hr.out]; unfold greatB; rw [show decide (40 < (forms F).length) = true from decide_eq_true (by rw [forms_length]; omega), Bool.or_true]; rfl
    have hd : decide ((F.length : Int) > 40) = true := decide_eq_true (by omega)
    have i1 : (41 : Int) < F.length := by omega
    go_wp2
    go_ret
    exact ⟨rfl, HBO.out⟩
  ·obtain rfl : k = F.length := by omega
   have hgb : greatB (forms F) = decide (40 < F.length) := by
    unfold greatB
    have := hno.out
    rw [List.take_of_length_le (by rw [forms_length]; exact Nat.le_refl _)] at this
    rw [List.take_of_length_le (by rw [forms_length]; exact hk2), this, Bool.false_or, forms_length]
   by_cases h4 : 40 < F.length
   ·obtain rfl : true = r := by rw [← hr.out, hgb, decide_eq_true h4]; rfl
    have hd : decide ((F.length : Int) > 40) = true := decide_eq_true (by omega)
    have i3 : (40 : Int) < F.length := by omega
    clear h4 hgb
    go_wp2
    go_ret
    exact ⟨rfl, HBO.out⟩
   ·obtain rfl : g = r := by rw [← hr.out, hgb, decide_eq_false h4]; rfl
    have hd : decide ((F.length : Int) > 40) = false := decide_eq_false (by omega)
    have i3 : ¬ (40 : Int) < F.length := by omega
    have cG2 := cG _ (Below.refl _ _)
    clear h4 hgb cG
    go_wp2_with (go_at_call 7; ((with_reducible refine cG2.mono ?_); rintro e w2 ⟨rfl, hb2⟩))
    go_ret
    exact ⟨rfl, HBO.out.trans (hb2.mono HBO.out.size)⟩
end Go.Proofs.YtaciegkblklokaaGreat.pair
namespace Go.Proofs.YtaciegkblklokaaGreat.typing
open Go.RowKit Go.Proofs.YtaciegkblklokaaGreat.schema
open Go.Proofs.YtaciegkblklokaaGreat.step (St Sts StL sps GreatL great_not)
theorem one_list (p : St) (W : World) (t : TypeId) : Sts (W.alloc (.cells p.C.toArray t)) (some ⟨W.heap.size, 0, none⟩) [p] := by
 have hB := Block.new W t p.C
 refine .inr ⟨_, 0, rfl, hB.lt, fun i x hx j v hv => ?_⟩
 have hj : j < 16 := (List.getElem?_eq_some_iff.1 hv).1
 rw [Nat.zero_add, hB.cell]
 match i, hx with
 | 0, hx =>
  simp only [List.getElem?_cons_zero, Option.some.injEq] at hx
  subst hx
  rw [show 0 * 16 + j = j by omega]
  exact hv
 | n + 1, hx => simp at hx
theorem small_of {w : World} {a : Option Addr} {F : List Fm} {L : List St} (h : FmL w a F) (hg : (greatB (forms F) || decide (GreatL (sps L))) = false) : Small w F ∧ ∀ p ∈ L, p.s.l.length ≤ 40 := by
 simp only [Bool.or_eq_false_iff, decide_eq_false_iff_not] at hg
 obtain ⟨h1, h2⟩ := greatB_no hg.1
 have h3 := (great_not hg.2).2
 rw [forms_length] at h1
 exact ⟨⟨h1, fun p hp => ⟨(h.2 p hp).rf, h2 p.p (List.mem_map_of_mem hp)⟩⟩, fun p hp => (h3 p.s (List.mem_map_of_mem hp)).2⟩
end Go.Proofs.YtaciegkblklokaaGreat.typing
