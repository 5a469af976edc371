/- Contracts and lemmas that the claims of this seat share: StepRefSameL, PairDiff, PairCheck, PairRefBack, TypingRefAll. Each says its own conditions. -/
import Derived.Test.YtaciegkblklokaaGreatCmAA
import Derived.Test.YtaciegkblklokaaGreatCmY
import Derived.Test.YtaciegkblklokaaGreatCmH
import Derived.Test.YtaciegkblklokaaGreatCmF
import Derived.Test.YtaciegkblklokaaGreatCmZ
import Derived.Test.YtaciegkblklokaaGreatCmO
import Derived.Test.YtaciegkblklokaaGreatCmX
import Derived.Test.YtaciegkblklokaaGreatCmG
import Derived.Conc.WalkWords
import Derived.Test.YtaciegkblklokaaGreatCmL
set_option linter.unusedVariables false
namespace Go.Proofs.YtaciegkblklokaaGreat.step
open Go.RowKit
open Go.Proofs.YtaciegkblklokaaGreat.field (Gives newB gives_from)
open Go.Proofs.YtaciegkblklokaaGreat.schema (below_out below_drew exec_load_at range_later take_succ_at)
theorem eq_succ {L M : List Sp} {k : Nat} {p q : Sp} (hp : L[k]? = some p) (hq : M[k]? = some q) : L.take (k + 1) = M.take (k + 1) ↔ L.take k = M.take k ∧ p = q := by
 rw [take_succ_at hp, take_succ_at hq]
 constructor
 ·intro h
  have := List.append_inj' h rfl
  exact ⟨this.1, by simpa using this.2⟩
 ·rintro ⟨h1, h2⟩; rw [h1, h2]
set_option maxRecDepth 20000 in
set_option maxHeartbeats 1600000 in
theorem refSameList_any (a : Option Addr) (c : Nat) (L : List St) (b : Option Addr) (d : Nat) (M : List St) (w : World) (h : StL w a L) (h' : StL w b M) (hL : L.length ≤ maxLen) (hM : M.length ≤ maxLen) :
  Calls Tryz.prog 14 #[.slice a L.length c, .slice b M.length d] w (Gives (.bool (decide (sps L = sps M))) w) := by
 have hml : (L.length : Int) ≤ 9223372036854775807 := by unfold maxLen at hL; omega
 have hmm : (M.length : Int) ≤ 9223372036854775807 := by unfold maxLen at hM; omega
 have HF := hid h
 have HG := hid h'
 have HLN := hid (sps_length L)
 have HMN := hid (sps_length M)
 obtain ⟨r, hr⟩ : ∃ r : Bool, Hid (decide (sps L = sps M) = r) := ⟨_, rfl⟩
 rw [hr.out]
 unfold Gives
 clear h h' hL hM
 by_cases hlen : L.length = M.length
 ·have HLEN := hid hlen
  rw [← hlen]
  clear hlen hmm
  go_enter Tryz.func14, Tryz.ntmps14
  go_wp2
  go_loopw [5] (fun n wr => ∃ k : Nat, k ≤ L.length ∧ n = .int .i64 (k : Int) ∧ Hid ((sps L).take k = (sps M).take k) ∧ Hid (Below w.heap.size w wr)) (fun n _ => L.length - (intOf n).toNat)
  case atStart => exact ⟨0, Nat.zero_le _, rfl, hid rfl, hid (Below.refl _ _)⟩
  case round =>
   obtain ⟨k, hk, rfl, HEQ, HB⟩ := hrel
   by_cases hlt : k < L.length
   ·obtain ⟨g, off, p, rfl, hbl, hp, hlp, c0⟩ := step_range HF.out (below_drew HB.out) hlt
    obtain ⟨g', off', q, rfl, hbl', hq, hlq, d0⟩ := step_range HG.out (below_drew HB.out) (k := k) (by rw [← HLEN.out]; exact hlt)
    have i1 : (k : Int) < L.length := by omega
    have HS := hid (eq_succ (sps_at hp) (sps_at hq))
    have HNE := hid (fun (hpq : ¬ p.s = q.s) => show ¬ sps L = sps M from fun e => by have h1 := sps_at hp; rw [e] at h1; exact hpq (Option.some.inj (h1.symm.trans (sps_at hq))))
    obtain ⟨s, ta, tc, la, lc⟩ := p
    obtain ⟨u, ua, uc, va, vc⟩ := q
    simp only at HS HNE c0 d0 hlp hlq
    have cS := refSame_any s ta tc la lc u ua uc va vc wr.drew hlp hlq
    unfold Gives at cS
    have HP1 : Hid (wr.drew.rangeAt g (off + k * 16) (zP s ta tc la lc)) := hid c0
    have HP2 : Hid (wr.drew.rangeAt g' (off' + k * 16) (zP u ua uc va vc)) := hid d0
    have HL1 := hid hbl
    have HL2 := hid hbl'
    clear hp hq hlp hlq c0 d0
    by_cases hpq : s = u
    ·rw [decide_eq_true hpq] at cS
     have HPQ := hid hpq
     clear hpq
     go_wp2
     refine plan.regionS (S := fun w' => Below wr.drew.heap.size wr.drew w') ?_
     have hS := Below.refl wr.drew.heap.size wr.drew
     refine plan.firstS 0 _ (.slice (some ⟨g, off, none⟩) L.length c) rfl (fun w' hS' => (by kernel_rfl)) hS ?_
     refine plan.firstS 1 _ (.int .i64 (k : Int)) rfl (fun w' hS' => (by kernel_rfl)) hS ?_
     refine plan.firstS 2 _ (.pointer (some ⟨g, off + k * 16, none⟩)) rfl (fun w' hS' => exec_indexP (cap := c) rfl hlt) hS ?_
     refine plan.firstS 3 _ (zP s ta tc la lc) rfl (fun w' hS' => exec_load_at (b := g) (off := off + k * 16) rfl (range_later HP1.out hS' HL1.out) Tryz.underlying32 rfl info_st.out) hS ?_
     refine plan.firstS 4 _ (.slice (some ⟨g', off', none⟩) L.length d) rfl (fun w' hS' => (by kernel_rfl)) hS ?_
     refine plan.firstS 5 _ (.int .i64 (k : Int)) rfl (fun w' hS' => (by kernel_rfl)) hS ?_
     refine plan.firstS 6 _ (.pointer (some ⟨g', off' + k * 16, none⟩)) rfl (fun w' hS' => exec_indexP (cap := d) rfl hlt) hS ?_
     refine plan.firstS 7 _ (zP u ua uc va vc) rfl (fun w' hS' => exec_load_at (b := g') (off := off' + k * 16) rfl (range_later HP2.out hS' HL2.out) Tryz.underlying32 rfl info_st.out) hS ?_
     refine plan.callS 8 _ 13 #[zP s ta tc la lc, zP u ua uc va vc] rfl (cS.mono ?_)
     rintro e w3 ⟨rfl, hb3⟩
     refine ⟨_, rfl, hb3, ?_⟩
     refine plan.firstS 9 _ (.bool false) rfl (fun w' hS' => (by kernel_rfl)) hb3 ?_
     refine plan.doneS ?_
     have HB3 := hid ((below_drew HB.out).trans (hb3.mono (below_drew HB.out).size))
     clear hb3 hS cS
     walk_nrm
     go_wp2
     exact ⟨⟨k + 1, by omega, by go_num, hid (HS.out.2 ⟨HEQ.out, HPQ.out⟩), HB3⟩, by simp [intOf]; omega⟩
    ·rw [decide_eq_false hpq] at cS
     obtain rfl : false = r := by rw [← hr.out]; exact (decide_eq_false (HNE.out hpq)).symm
     clear hpq
     go_wp2
     refine plan.regionS (S := fun w' => Below wr.drew.heap.size wr.drew w') ?_
     have hS := Below.refl wr.drew.heap.size wr.drew
     refine plan.firstS 0 _ (.slice (some ⟨g, off, none⟩) L.length c) rfl (fun w' hS' => (by kernel_rfl)) hS ?_
     refine plan.firstS 1 _ (.int .i64 (k : Int)) rfl (fun w' hS' => (by kernel_rfl)) hS ?_
     refine plan.firstS 2 _ (.pointer (some ⟨g, off + k * 16, none⟩)) rfl (fun w' hS' => exec_indexP (cap := c) rfl hlt) hS ?_
     refine plan.firstS 3 _ (zP s ta tc la lc) rfl (fun w' hS' => exec_load_at (b := g) (off := off + k * 16) rfl (range_later HP1.out hS' HL1.out) Tryz.underlying32 rfl info_st.out) hS ?_
     refine plan.firstS 4 _ (.slice (some ⟨g', off', none⟩) L.length d) rfl (fun w' hS' => (by kernel_rfl)) hS ?_
     refine plan.firstS 5 _ (.int .i64 (k : Int)) rfl (fun w' hS' => (by kernel_rfl)) hS ?_
     refine plan.firstS 6 _ (.pointer (some ⟨g', off' + k * 16, none⟩)) rfl (fun w' hS' => exec_indexP (cap := d) rfl hlt) hS ?_
     refine plan.firstS 7 _ (zP u ua uc va vc) rfl (fun w' hS' => exec_load_at (b := g') (off := off' + k * 16) rfl (range_later HP2.out hS' HL2.out) Tryz.underlying32 rfl info_st.out) hS ?_
     refine plan.callS 8 _ 13 #[zP s ta tc la lc, zP u ua uc va vc] rfl (cS.mono ?_)
     rintro e w3 ⟨rfl, hb3⟩
     refine ⟨_, rfl, hb3, ?_⟩
     refine plan.firstS 9 _ (.bool true) rfl (fun w' hS' => (by kernel_rfl)) hb3 ?_
     refine plan.doneS ?_
     have HB3 := hid ((below_drew HB.out).trans (hb3.mono (below_drew HB.out).size))
     clear hb3 hS cS
     walk_nrm
     go_wp2
     go_ret
     exact ⟨rfl, HB3.out⟩
   ·obtain rfl : k = L.length := by omega
    obtain rfl : true = r := by
     rw [← hr.out]
     have := HEQ.out
     rw [List.take_of_length_le (by rw [HLN.out]; exact Nat.le_refl _), List.take_of_length_le (by rw [HMN.out, HLEN.out]; exact Nat.le_refl _)] at this
     exact (decide_eq_true this).symm
    go_wp2
    go_ret
    exact ⟨rfl, HB.out⟩
 ·obtain rfl : false = r := by rw [← hr.out]; exact (decide_eq_false (fun e => hlen (by rw [← HLN.out, e, HMN.out]))).symm
  have hd : ((L.length : Int) != (M.length : Int)) = true := by simp; omega
  have hd2 : ((L.length : Int) == (M.length : Int)) = false := by rw [beq_eq_false_iff_ne]; omega
  clear hlen
  go_enter Tryz.func14, Tryz.ntmps14
  go_wp2
  go_ret
  exact ⟨rfl, Below.refl _ _⟩
end Go.Proofs.YtaciegkblklokaaGreat.step
namespace Go.Proofs.YtaciegkblklokaaGreat.pair
open Go.RowKit Go.Proofs.YtaciegkblklokaaGreat.schema Go.Proofs.YtaciegkblklokaaGreat.typing
open Go.Proofs.YtaciegkblklokaaGreat.field (Gives newB gives_from)
open Go.Proofs.YtaciegkblklokaaGreat.step (Sp St StL sps sps_length sps_at step_at step_range eq_succ Lists exec_indexP)
theorem diff_app : ∀ (X : List Sp) (j : Nat) (A B : List Sp), diff j (X ++ A) (X ++ B) = diff (j + X.length) A B
 | [], j, A, B => rfl
 | x :: X, j, A, B => by
  rw [List.cons_append, List.cons_append, diff, if_pos rfl, diff_app X (j + 1) A B, List.length_cons]
  congr 1; omega
theorem diff_ne {A B : List Sp} {k : Nat} {p q : Sp} (h : A.take k = B.take k) (hA : A[k]? = some p) (hB : B[k]? = some q) (hne : ¬ p = q) : diff 0 A B = (k, 18) := by
 obtain ⟨hlA, hA'⟩ := List.getElem?_eq_some_iff.1 hA
 obtain ⟨hlB, hB'⟩ := List.getElem?_eq_some_iff.1 hB
 have e1 : A = A.take k ++ p :: A.drop (k + 1) := by rw [← hA']; simp
 have e2 : B = A.take k ++ q :: B.drop (k + 1) := by rw [← hB', h]; simp
 have hl : (A.take k).length = k := by rw [List.length_take]; omega
 rw [e1]
 conv => lhs; arg 3; rw [e2]
 rw [diff_app, diff, if_neg hne, hl, Nat.zero_add]
theorem diff_len {A B : List Sp} {m : Nat} (h : A.take m = B.take m) (hm : m = min A.length B.length) (hne : ¬ A.length = B.length) : diff 0 A B = (m, 18) := by
 have e1 : A = A.take m ++ A.drop m := (List.take_append_drop m A).symm
 have e2 : B = A.take m ++ B.drop m := by rw [h, List.take_append_drop]
 have hl : (A.take m).length = m := by rw [List.length_take]; omega
 rw [e1]
 conv => lhs; arg 3; rw [e2]
 rw [diff_app, hl, Nat.zero_add]
 rcases Nat.lt_or_ge A.length B.length with h1 | h1
 ·have ha : A.drop m = [] := List.drop_of_length_le (by omega)
  obtain ⟨y, r, hb⟩ : ∃ y r, B.drop m = y :: r := by
   cases hb : B.drop m with
   | nil => have := congrArg List.length hb; rw [List.length_drop] at this; simp at this; omega
   | cons y r => exact ⟨y, r, rfl⟩
  rw [ha, hb, diff]
 ·have hb : B.drop m = [] := List.drop_of_length_le (by omega)
  obtain ⟨y, r, ha⟩ : ∃ y r, A.drop m = y :: r := by
   cases ha : A.drop m with
   | nil => have := congrArg List.length ha; rw [List.length_drop] at this; simp at this; omega
   | cons y r => exact ⟨y, r, rfl⟩
  rw [ha, hb, diff]
theorem diff_eq {A B : List Sp} {m : Nat} (h : A.take m = B.take m) (hm : m = min A.length B.length) (he : A.length = B.length) : diff 0 A B = (0, 0) := by
 have e : A = B := by
  rw [List.take_of_length_le (by omega), List.take_of_length_le (by omega)] at h
  exact h
 rw [e]
 exact diff_zero 0 B
def dv (A B : List Sp) : Int := if (diff 0 A B).2 = 0 then -1 else ((diff 0 A B).1 : Int)
set_option maxRecDepth 20000 in
set_option maxHeartbeats 1600000 in
theorem difference_any (a : Option Addr) (c : Nat) (L : List St) (b : Option Addr) (d : Nat) (M : List St) (w : World) (h : StL w a L) (h' : StL w b M) (hL : L.length ≤ maxLen) (hM : M.length ≤ maxLen) :
  Calls Tryz.prog 25 #[.slice a L.length c, .slice b M.length d, .func (.func 26) #[] #[]] w (Gives (.int .i64 (dv (sps L) (sps M))) w) := by
 have hml : (L.length : Int) ≤ 9223372036854775807 := by unfold maxLen at hL; omega
 have hmm : (M.length : Int) ≤ 9223372036854775807 := by unfold maxLen at hM; omega
 have HF := hid h
 have HG := hid h'
 have HLN := hid (sps_length L)
 have HMN := hid (sps_length M)
 obtain ⟨mn, hmn⟩ : ∃ mn : Nat, mn = min L.length M.length := ⟨_, rfl⟩
 have HMIN := hid hmn
 have em : ∀ ts t W, (Builtin.min_ ts t #[.int .i64 (L.length : Int), .int .i64 (M.length : Int)]).run Tryz.prog W = .ok (.int .i64 (mn : Int)) W := fun ts t W => by
  rw [run_min_int2, hmn]
  congr 2
  omega
 obtain ⟨r, hr⟩ : ∃ r : Int, Hid (dv (sps L) (sps M) = r) := ⟨_, rfl⟩
 rw [hr.out]
 unfold Gives
 have hmnl : (mn : Int) ≤ 9223372036854775807 := by omega
 clear h h' hL hM hmn
 go_enter Tryz.func25, Tryz.ntmps25
 go_wp2
 go_loopw [13] (fun n wr => ∃ k : Nat, k ≤ mn ∧ n = .int .i64 (k : Int) ∧ Hid ((sps L).take k = (sps M).take k) ∧ Hid (Below w.heap.size w wr)) (fun n _ => mn - (intOf n).toNat)
 case atStart => exact ⟨0, Nat.zero_le _, rfl, hid rfl, hid (Below.refl _ _)⟩
 case round =>
  obtain ⟨k, hk, rfl, HEQ, HB⟩ := hrel
  by_cases hlt : k < mn
  ·have i1 : (k : Int) < mn := by omega
   obtain ⟨g, off, p, rfl, hbl, hp, hlp, c0⟩ := step_range HF.out (below_drew HB.out) (k := k) (by have := HMIN.out; omega)
   obtain ⟨g', off', q, rfl, hbl', hq, hlq, d0⟩ := step_range HG.out (below_drew HB.out) (k := k) (by have := HMIN.out; omega)
   have hlt1 : Hid (k < L.length) := hid (by have := HMIN.out; omega)
   have hlt2 : Hid (k < M.length) := hid (by have := HMIN.out; omega)
   have HS := hid (eq_succ (sps_at hp) (sps_at hq))
   have HNE := hid (fun (hpq : ¬ p.s = q.s) => diff_ne HEQ.out (sps_at hp) (sps_at hq) hpq)
   obtain ⟨s, ta, tc, la, lc⟩ := p
   obtain ⟨u, ua, uc, va, vc⟩ := q
   simp only at HS HNE c0 d0 hlp hlq
   have HP1 : Hid (wr.drew.rangeAt g (off + k * 16) (zP s ta tc la lc)) := hid c0
   have HP2 : Hid (wr.drew.rangeAt g' (off' + k * 16) (zP u ua uc va vc)) := hid d0
   have HL1 := hid hbl
   have HL2 := hid hbl'
   have cS := step.same_any s ta tc la lc u ua uc va vc wr.drew hlp hlq
   unfold Gives at cS
   clear hp hq hlp hlq c0 d0
   by_cases hpq : s = u
   ·rw [decide_eq_true hpq] at cS
    have HPQ := hid hpq
    clear hpq
    go_wp2
    refine plan.regionS (S := fun w' => Below wr.drew.heap.size wr.drew w') ?_
    have hS := Below.refl wr.drew.heap.size wr.drew
    refine plan.firstS 0 _ (.func (.func 26) #[] #[]) rfl (fun w' hS' => (by kernel_rfl)) hS ?_
    refine plan.firstS 1 _ (.slice (some ⟨g, off, none⟩) L.length c) rfl (fun w' hS' => (by kernel_rfl)) hS ?_
    refine plan.firstS 2 _ (.int .i64 (k : Int)) rfl (fun w' hS' => (by kernel_rfl)) hS ?_
    refine plan.firstS 3 _ (.pointer (some ⟨g, off + k * 16, none⟩)) rfl (fun w' hS' => exec_indexP (cap := c) rfl hlt1.out) hS ?_
    refine plan.firstS 4 _ (zP s ta tc la lc) rfl (fun w' hS' => exec_load_at (b := g) (off := off + k * 16) rfl (range_later HP1.out hS' HL1.out) Tryz.underlying32 rfl info_st.out) hS ?_
    refine plan.firstS 5 _ (.slice (some ⟨g', off', none⟩) M.length d) rfl (fun w' hS' => (by kernel_rfl)) hS ?_
    refine plan.firstS 6 _ (.int .i64 (k : Int)) rfl (fun w' hS' => (by kernel_rfl)) hS ?_
    refine plan.firstS 7 _ (.pointer (some ⟨g', off' + k * 16, none⟩)) rfl (fun w' hS' => exec_indexP (cap := d) rfl hlt2.out) hS ?_
    refine plan.firstS 8 _ (zP u ua uc va vc) rfl (fun w' hS' => exec_load_at (b := g') (off := off' + k * 16) rfl (range_later HP2.out hS' HL2.out) Tryz.underlying32 rfl info_st.out) hS ?_
    refine plan.callS 9 _ 26 #[zP s ta tc la lc, zP u ua uc va vc] rfl (cS.mono ?_)
    rintro e w3 ⟨rfl, hb3⟩
    refine ⟨_, rfl, hb3, ?_⟩
    refine plan.firstS 10 _ (.bool false) rfl (fun w' hS' => (by kernel_rfl)) hb3 ?_
    refine plan.doneS ?_
    have HB3 := hid ((below_drew HB.out).trans (hb3.mono (below_drew HB.out).size))
    clear hb3 hS cS
    walk_nrm
    go_wp2
    exact ⟨⟨k + 1, by omega, by go_num, hid (HS.out.2 ⟨HEQ.out, HPQ.out⟩), HB3⟩, by simp [intOf]; omega⟩
   ·rw [decide_eq_false hpq] at cS
    obtain rfl : (k : Int) = r := by rw [← hr.out]; unfold dv; rw [HNE.out hpq]; rfl
    clear hpq
    go_wp2
    refine plan.regionS (S := fun w' => Below wr.drew.heap.size wr.drew w') ?_
    have hS := Below.refl wr.drew.heap.size wr.drew
    refine plan.firstS 0 _ (.func (.func 26) #[] #[]) rfl (fun w' hS' => (by kernel_rfl)) hS ?_
    refine plan.firstS 1 _ (.slice (some ⟨g, off, none⟩) L.length c) rfl (fun w' hS' => (by kernel_rfl)) hS ?_
    refine plan.firstS 2 _ (.int .i64 (k : Int)) rfl (fun w' hS' => (by kernel_rfl)) hS ?_
    refine plan.firstS 3 _ (.pointer (some ⟨g, off + k * 16, none⟩)) rfl (fun w' hS' => exec_indexP (cap := c) rfl hlt1.out) hS ?_
    refine plan.firstS 4 _ (zP s ta tc la lc) rfl (fun w' hS' => exec_load_at (b := g) (off := off + k * 16) rfl (range_later HP1.out hS' HL1.out) Tryz.underlying32 rfl info_st.out) hS ?_
    refine plan.firstS 5 _ (.slice (some ⟨g', off', none⟩) M.length d) rfl (fun w' hS' => (by kernel_rfl)) hS ?_
    refine plan.firstS 6 _ (.int .i64 (k : Int)) rfl (fun w' hS' => (by kernel_rfl)) hS ?_
    refine plan.firstS 7 _ (.pointer (some ⟨g', off' + k * 16, none⟩)) rfl (fun w' hS' => exec_indexP (cap := d) rfl hlt2.out) hS ?_
    refine plan.firstS 8 _ (zP u ua uc va vc) rfl (fun w' hS' => exec_load_at (b := g') (off := off' + k * 16) rfl (range_later HP2.out hS' HL2.out) Tryz.underlying32 rfl info_st.out) hS ?_
    refine plan.callS 9 _ 26 #[zP s ta tc la lc, zP u ua uc va vc] rfl (cS.mono ?_)
    rintro e w3 ⟨rfl, hb3⟩
    refine ⟨_, rfl, hb3, ?_⟩
    refine plan.firstS 10 _ (.bool true) rfl (fun w' hS' => (by kernel_rfl)) hb3 ?_
    refine plan.doneS ?_
    have HB3 := hid ((below_drew HB.out).trans (hb3.mono (below_drew HB.out).size))
    clear hb3 hS cS
    walk_nrm
    go_wp2
    go_ret
    exact ⟨rfl, HB3.out⟩
  ·obtain rfl : k = mn := by omega
   have hmin : k = min (sps L).length (sps M).length := by rw [HLN.out, HMN.out]; exact HMIN.out
   by_cases hlen : L.length = M.length
   ·obtain rfl : -1 = r := by rw [← hr.out]; unfold dv; rw [diff_eq HEQ.out hmin (by rw [HLN.out, HMN.out]; exact hlen)]; rfl
    have hd : ((L.length : Int) != (M.length : Int)) = false := by simp; omega
    clear hmin hlen
    go_wp2
    go_ret
    exact ⟨rfl, HB.out⟩
   ·obtain rfl : (k : Int) = r := by rw [← hr.out]; unfold dv; rw [diff_len HEQ.out hmin (by rw [HLN.out, HMN.out]; exact hlen)]; rfl
    have hd : ((L.length : Int) != (M.length : Int)) = true := by simp; omega
    clear hmin hlen
    go_wp2
    go_ret
    exact ⟨rfl, HB.out⟩
end Go.Proofs.YtaciegkblklokaaGreat.pair
namespace Go.Proofs.YtaciegkblklokaaGreat.pair
open Go.RowKit Go.Proofs.YtaciegkblklokaaGreat.schema Go.Proofs.YtaciegkblklokaaGreat.typing
open Go.Proofs.YtaciegkblklokaaGreat.field (Gives newB gives_from)
open Go.Proofs.YtaciegkblklokaaGreat.step (Sp St StL sps sps_length)
def BackAs (b : List Sp × Nat) (w : World) (e : Ending) (w' : World) : Prop :=
 ∃ q qc P, e = .returned (.tuple #[.slice q (List.length (α := St) P) qc, .int .i64 (b.2 : Nat)]) ∧ sps P = b.1 ∧ StL w' q P ∧ Below w.heap.size w w'
theorem back_any (v : Int) (a : Option Addr) (cap : Nat) (F : List Fm) (la : Option Addr) (lc : Nat) (L : List St) (w : World) (h : FmL w a F) (hF : Small w F) (hl : StL w la L) (hn : L.length ≤ 60) (h40 : ∀ p ∈ L, p.s.l.length ≤ 40) (hT : ∀ p ∈ L, p.s.t.length ≤ 1000000) :
  Calls Tryz.prog 11 #[zS v a F.length cap, .slice la L.length lc] w (BackAs (backs v (forms F) (sps L) []) w) := by
 have hb := newB w (.cells (zS v a F.length cap) 24)
 have cI := inverses_any v a cap F la lc L ((w.alloc (.cells (zS v a F.length cap) 24))) (h.below hb) (hF.below hb) (hl.below hb) hn h40 hT
 generalize backs v (forms F) (sps L) [] = R at *
 generalize (all 0 v (forms F) (sps L)).2.2.1 = K at *
 unfold InvsAs at cI
 unfold BackAs
 have HB := hid hb
 clear h hF hl hn h40 hT hb
 go_enter Tryz.func11, Tryz.ntmps11
 go_wp2_with (go_at_call 24; ((with_reducible refine cI.mono ?_); rintro e w2 ⟨q, qc, P, rfl, hs, hP, hb2⟩; have HS := hid hs; have HP := hid hP; have HB2 := hid hb2; clear hs hP hb2))
 go_ret2
 exact ⟨q, qc, P, rfl, HS.out, HP.out, HB.out.trans (HB2.out.mono HB.out.size)⟩
theorem diff_18' : ∀ (k : Nat) (A B : List Sp), (diff k A B).2 = 0 ∨ (diff k A B).2 = 18
 | _, [], [] => .inl rfl
 | k, a :: r, b :: q => by
  unfold diff
  by_cases h : a = b
  ·rw [if_pos h]; exact diff_18' (k + 1) r q
  ·rw [if_neg h]; exact .inr rfl
 | _, [], _ :: _ => .inr rfl
 | _, _ :: _, [] => .inr rfl
theorem diff_18 {A B : List Sp} {x y : Nat} (h : diff 0 A B = (x, y)) (hy : ¬ y = 0) : y = 18 := by
 rcases diff_18' 0 A B with h1 | h1
 ·rw [h] at h1; exact absurd h1 hy
 ·rw [h] at h1; exact h1
theorem backs_length {v : Int} {F : List schema.Form} {L : List Sp} : (backs v F L []).1.length ≤ L.length := by
 by_cases h : (backs v F L []).2 = 0
 ·rw [backs_len v F L [] h]; simp
 ·rw [backs_bad v F L [] h]; simp
set_option maxRecDepth 20000 in
theorem check_any (v : Int) (a : Option Addr) (cap : Nat) (F : List Fm) (la : Option Addr) (lc : Nat) (L : List St) (ba : Option Addr) (bc : Nat) (M : List St) (w : World) (h : FmL w a F) (hF : Small w F) (hl : StL w la L) (hn : L.length ≤ 60) (h40 : ∀ p ∈ L, p.s.l.length ≤ 40) (hT : ∀ p ∈ L, p.s.t.length ≤ 1000000) (hm : StL w ba M) (hM : M.length ≤ maxLen) :
  Calls Tryz.prog 15 #[zS v a F.length cap, .slice la L.length lc, .slice ba M.length bc] w (Gives (.tuple #[.int .i64 ((check v (forms F) (sps L) (sps M)).1 : Nat), .int .i64 ((check v (forms F) (sps L) (sps M)).2 : Nat)]) w) := by
 have hb := newB w (.cells (zS v a F.length cap) 24)
 have cI := inverses_any v a cap F la lc L ((w.alloc (.cells (zS v a F.length cap) 24))) (h.below hb) (hF.below hb) (hl.below hb) hn h40 hT
 have cD := fun (q : Option Addr) (qc : Nat) (P : List St) (w' : World) (hb' : Below ((w.alloc (.cells (zS v a F.length cap) 24))).heap.size ((w.alloc (.cells (zS v a F.length cap) 24))) w') (hP : StL w' q P) (hPl : P.length ≤ maxLen) => difference_any q qc P ba bc M w' hP ((hm.below hb).below hb') hPl hM
 have he := backs_err 0 v (forms F) (sps L) []
 have hlen := backs_length (v := v) (F := forms F) (L := sps L)
 rw [sps_length] at hlen
 unfold check
 rw [← he]
 generalize backs v (forms F) (sps L) [] = R at *
 generalize (all 0 v (forms F) (sps L)).2.2.1 = K at *
 obtain ⟨Q, n⟩ := R
 simp only at he hlen ⊢
 unfold InvsAs at cI
 have HB := hid hb
 clear h hF hl h40 hT hb he hm hM
 by_cases h0 : n = 0
 ·subst h0
  rw [if_pos rfl]
  obtain ⟨X, hX⟩ : ∃ X, Hid (diff 0 Q (sps M) = X) := ⟨_, rfl⟩
  have HL : Hid (Q.length ≤ 60) := hid (by omega)
  rw [hX.out]
  unfold Gives at cD ⊢
  by_cases hz : X.2 = 0
  ·have HZ : Hid (dv Q (sps M) = -1) := hid (by unfold dv; rw [hX.out, if_pos hz])
   obtain ⟨x1, x2⟩ := X
   simp only at hz
   subst hz
   have hx1 : x1 = 0 := by
    by_cases hq : Q = sps M
    ·have h1 := hX.out
     rw [hq, diff_zero] at h1
     exact (congrArg Prod.fst h1).symm
    ·have := (diff_same 0 Q (sps M)).1 (by rw [hX.out])
     exact absurd this hq
   subst hx1
   clear hlen hn
   go_enter Tryz.func15, Tryz.ntmps15
   go_wp2_with (first
    | (go_at_call 24; ((with_reducible refine cI.mono ?_); rintro e w2 ⟨q, qc, P, rfl, hs, hP, hb2⟩; have cE := cD q qc P w2 hb2 hP (by have h1 := congrArg List.length hs; rw [sps_length] at h1; have := HL.out; unfold maxLen; simp only at h1; omega); rw [show sps P = Q from hs, HZ.out] at cE; have HB2 := hid hb2; clear hs hP hb2 cD cI))
    | (go_at_call 25; ((with_reducible refine cE.mono ?_); rintro e w3 ⟨rfl, hb3⟩; have HB3 := hid hb3; clear hb3)))
   go_ret2
   exact ⟨rfl, (HB.out.trans (HB2.out.mono HB.out.size)).trans (HB3.out.mono (HB.out.trans (HB2.out.mono HB.out.size)).size)⟩
  ·obtain ⟨x1, x2⟩ := X
   simp only at hz
   have HZ : Hid (dv Q (sps M) = (x1 : Int)) := hid (by unfold dv; rw [hX.out, if_neg hz])
   have h18 : x2 = 18 := diff_18 hX.out hz
   subst h18
   have hd : decide ((x1 : Int) ≥ 0) = true := decide_eq_true (by omega)
   clear hlen hn hz
   go_enter Tryz.func15, Tryz.ntmps15
   go_wp2_with (first
    | (go_at_call 24; ((with_reducible refine cI.mono ?_); rintro e w2 ⟨q, qc, P, rfl, hs, hP, hb2⟩; have cE := cD q qc P w2 hb2 hP (by have h1 := congrArg List.length hs; rw [sps_length] at h1; have := HL.out; unfold maxLen; simp only at h1; omega); rw [show sps P = Q from hs, HZ.out] at cE; have HB2 := hid hb2; clear hs hP hb2 cD cI))
    | (go_at_call 25; ((with_reducible refine cE.mono ?_); rintro e w3 ⟨rfl, hb3⟩; have HB3 := hid hb3; clear hb3)))
   go_ret2
   exact ⟨rfl, (HB.out.trans (HB2.out.mono HB.out.size)).trans (HB3.out.mono (HB.out.trans (HB2.out.mono HB.out.size)).size)⟩
 ·rw [if_neg h0]
  have hne : (((n : Nat) : Int) != 0) = true := by simpa using h0
  unfold Gives
  clear h0 cD hn hlen
  go_enter Tryz.func15, Tryz.ntmps15
  go_wp2_with (go_at_call 24; ((with_reducible refine cI.mono ?_); rintro e w2 ⟨q, qc, P, rfl, hs, hP, hb2⟩; have HB2 := hid hb2; clear hs hP hb2))
  go_ret2
  exact ⟨rfl, HB.out.trans (HB2.out.mono HB.out.size)⟩
end Go.Proofs.YtaciegkblklokaaGreat.pair
namespace Go.Proofs.YtaciegkblklokaaGreat.pair
open Go.RowKit Go.Proofs.YtaciegkblklokaaGreat.schema Go.Proofs.YtaciegkblklokaaGreat.typing
open Go.Proofs.YtaciegkblklokaaGreat.field (newB)
open Go.Proofs.YtaciegkblklokaaGreat.step (Sp St StL sps sps_length sps_at step_range Lists OwnS intV Z16 st_fd st_int spC stV stV_append stV_length stV_one own_sts st_info_parts C_one C_len own_after sts_news block_own exec_indexP)
theorem Ivs.set {S : Nat} {v v3 : Int} {x y : Option Addr} {xc yc : Nat} {G H : List Fm} {P : List St} {ua : Option Addr} {uc : Nat} {w wr : World} (h : Ivs S v x xc G P ua uc w wr) (hH : FmL wr y H) (hne : ∀ z, y = some z → z.block ≠ S) (hs : H.length ≤ 40 ∧ ∀ q ∈ H, q.fL.length ≤ 40) :
  Ivs S v3 y yc H P ua uc w (wr.setCells S 0 (zS v3 y H.length yc)) := by
 refine ⟨?_, fml_set2 (S := S) (o := 1) (fml_set2 (S := S) (o := 0) hH (fun _ => hne) h.box (by simp)) (fun _ => hne) (h.box.setCell 0 (.int .i64 v3)) (by simp), hs, (own_after (own_after h.row (by omega)) (by omega)), fun p hp => (((h.each p hp).after (by omega)).after (by omega)), below_setCells h.below (Nat.le_refl _) 0 _⟩
 have := h.box.setCells (vs := (zS v3 y H.length yc)) (o := 0)
 rwa [put_all _ _ (by rfl)] at this
theorem Ivs.front {S : Nat} {v : Int} {x : Option Addr} {xc : Nat} {G : List Fm} {P : List St} {ua ua2 : Option Addr} {uc uc2 : Nat} {w w7 w9 : World} {p : St} (h : Ivs S v x xc G P ua uc w w7) (hp : OwnS (S + 1) w7 p) (hb : Below w7.heap.size w7 w9)
  (ho : w9.ownsRow (S + 1) 32 16 (.slice ua2 (1 + P.length) uc2) (1 + P.length) (p.C ++ stV P)) : Ivs S v x xc G (p :: P) ua2 uc2 w w9 := by
 have hl := h.later hb
 refine ⟨hl.box, hl.fml, hl.small, ?_, fun r hr => ?_, hl.below⟩
 ·rw [show (p :: P).length = 1 + P.length by simp; omega]; exact ho
 ·rcases List.mem_cons.1 hr with rfl | h1
  ·exact hp.later hb
  ·exact hl.each r h1
set_option maxRecDepth 20000 in
set_option maxHeartbeats 3200000 in
theorem refBack_any (v : Int) (a : Option Addr) (cap : Nat) (F : List Fm) (la : Option Addr) (lc : Nat) (L : List St) (w : World) (h : FmL w a F) (hF : Small w F) (hl : StL w la L) (hn : L.length ≤ 60) (h40 : ∀ p ∈ L, p.s.l.length ≤ 40) (hT : ∀ p ∈ L, p.s.t.length ≤ 1000000) :
  Calls Tryz.prog 12 #[zS v a F.length cap, .slice la L.length lc] w (BackAs (backs v (forms F) (sps L) []) w) := by
 obtain ⟨i0, hi, hz0, hz1, hz2⟩ := st_info_parts
 have hml : (L.length : Int) ≤ 60 := by omega
 have hB1 : Block ((w.alloc (.cells (zS v a F.length cap) 24))) w.heap.size 24 (zS v a F.length cap) := Block.new _ _ _
 have hb1 := newB w (.cells (zS v a F.length cap) 24)
 have HV0 : Hid (Ivs w.heap.size v a cap F [] none 0 w ((w.alloc (.cells (zS v a F.length cap) 24)))) := hid ⟨hB1, h.below hb1, ⟨hF.1, fun p hp => (hF.2 p hp).2⟩, World.ownsRow_nil _ _ _ _, by simp, hb1⟩
 have HL := hid hl
 have HLN := hid hn
 have HL40 := hid h40
 have HLT0 := hid hT
 obtain ⟨R, hR⟩ : ∃ R, Hid (backs v (forms F) (sps L) [] = R) := ⟨_, hid rfl⟩
 have HQ0 : Hid (backs v (forms F) ((sps L).drop 0) (sps []) = R) := hid hR.out
 rw [hR.out]
 clear h hF hl h40 hT hB1 hb1 hR hn
 unfold BackAs
 go_enter Tryz.func12, Tryz.ntmps12
 go_wp2
 go_loopw [6, 7] (fun u n wr => ∃ (k : Nat) (v2 : Int) (x : Option Addr) (xc : Nat) (G : List Fm) (P : List St) (ua : Option Addr) (uc : Nat), k ≤ L.length ∧ Hid (P.length = k) ∧ u = .slice ua P.length uc ∧ n = .int .i64 (k : Int) ∧ Hid (Ivs w.heap.size v2 x xc G P ua uc w wr) ∧ Hid (backs v2 (forms G) ((sps L).drop k) (sps P) = R)) (fun _ n _ => L.length - (intOf n).toNat)
 case atStart => exact ⟨0, v, a, cap, F, [], none, 0, Nat.zero_le _, hid rfl, rfl, rfl, HV0, HQ0⟩
 case round =>
  obtain ⟨k, v2, x, xc, G, P, ua, uc, hk, hPk, rfl, rfl, HV, HQ⟩ := hrel
  have hQ := HQ.out
  clear HQ HV0 HQ0
  by_cases hlt : k < L.length
  ·obtain ⟨b, off, p, rfl, hbl, hp, hls, hrg⟩ := step_range HL.out HV.out.below hlt
   have i1 : (k : Int) < L.length := by omega
   have hdrop : (sps L).drop k = p.s :: (sps L).drop (k + 1) := by
    have h1 : (sps L)[k]? = some p.s := by unfold sps; rw [List.getElem?_map, hp]; rfl
    rw [List.drop_eq_getElem_cons (List.getElem?_eq_some_iff.1 h1).1, (List.getElem?_eq_some_iff.1 h1).2]
   rw [hdrop] at hQ
   unfold backs at hQ
   have HHL := hid (HL40.out p (List.mem_of_getElem? hp))
   have HT1 := hid (HLT0.out p (List.mem_of_getElem? hp))
   have HLT := hid hlt
   have HC : Hid (∀ w', Below wr.heap.size wr w' → Ivs w.heap.size v2 x xc G P ua uc w w' ∧ Lists w' p.s p.ta p.la ∧ w'.rangeAt b (off + k * 16) p.C) := hid (fun w' hb => ⟨HV.out.later hb, hls.below hb, range_later hrg hb hbl⟩)
   have HSW : Hid (w.heap.size + 1 ≤ wr.heap.size) := hid HV.out.box.lt
   have cV := fun (w' : World) (hb : Below wr.heap.size wr w') => refInvert_any v2 x xc G p.s p.ta p.tc p.la p.lc w' (HC.out _ hb).1.fml (HC.out _ hb).1.isSmall (HC.out _ hb).2.1 HT1.out HHL.out
   have cO := fun (w' : World) (hb : Below wr.heap.size wr w') => refOn_any v2 x xc G p.s p.ta p.tc p.la p.lc w' (HC.out _ hb).1.fml (HC.out _ hb).1.isSmall (HC.out _ hb).2.1 HHL.out
   have hok := fun h0 => on_ok (v := v2) (F := forms G) (s := p.s) h0
   have hiv : ∀ h0 : (on v2 (forms G) p.s).2.2 = 0, invert v2 (forms G) p.s = (inv (forms G) p.s, 0) := fun h0 => if_pos h0
   have hin : ∀ h0 : ¬ (on v2 (forms G) p.s).2.2 = 0, (invert v2 (forms G) p.s).2 = (on v2 (forms G) p.s).2.2 := fun h0 => by unfold invert; rw [if_neg h0]
   generalize invert v2 (forms G) p.s = qn at cV hiv hin
   generalize on v2 (forms G) p.s = r at cO hok hQ hiv hin
   generalize inv (forms G) p.s = q0 at hQ hiv
   obtain ⟨v3, PF, n3⟩ := r
   obtain ⟨q, n⟩ := qn
   simp only at hok hQ hiv hin
   unfold OnR at cO
   unfold InvertAs at cV
   simp only at cO cV
   clear hls hp hdrop hrg
   go_wp2
   refine plan.cont6 (F := fun (g : Nat) (xa : Option Addr) (xc2 : Nat) (ya : Option Addr) (yc : Nat) (w' : World) => Below wr.heap.size wr w' ∧ Block w' g 32 (zP q xa xc2 ya yc) ∧ OwnS (w.heap.size + 1) w' ⟨q, xa, xc2, ya, yc⟩ ∧ wr.heap.size ≤ g) (R := ?R) ?h1 ?h2
   case h1 =>
    intro CONT
    refine plan.regionS (S := fun w' => Below wr.heap.size wr w') ?_
    have hS : Below wr.heap.size wr wr.drew := below_drewN (Below.refl _ _) 1
    obtain ⟨wd, hwd⟩ : ∃ z, Hid (wr.drew = z) := ⟨_, hid rfl⟩
    rw [hwd.out] at hS ⊢
    clear hwd
    refine plan.firstS 0 _ (zS v2 x G.length xc) rfl (fun w' hS' => exec_load_at (b := w.heap.size) (off := 0) rfl (HC.out _ hS').1.box.whole Tryz.underlying24 rfl info_sc.out) hS ?_
    refine plan.firstS 1 _ (.slice (some ⟨b, off, none⟩) L.length lc) rfl (fun w' hS' => (by kernel_rfl)) hS ?_
    refine plan.firstS 2 _ (.int .i64 (k : Int)) rfl (fun w' hS' => (by kernel_rfl)) hS ?_
    refine plan.firstS 3 _ (.pointer (some ⟨b, off + k * 16, none⟩)) rfl (fun w' hS' => exec_indexP (b := b) (off := off) (len := L.length) (cap := lc) (i := k) rfl HLT.out) hS ?_
    refine plan.firstS 4 _ (zP p.s p.ta p.tc p.la p.lc) rfl (fun w' hS' => exec_load_at (b := b) (off := off + k * 16) rfl (HC.out _ hS').2.2 Tryz.underlying32 rfl info_st.out) hS ?_
    refine typing.bothS 5 9 ?_ ?_
    ·refine ⟨_, rfl, rfl, .inr ⟨10, #[zS v2 x G.length xc, zP p.s p.ta p.tc p.la p.lc], (by kernel_rfl), (cV wd hS).mono ?_⟩⟩
     rintro e w5 ⟨xa, xc2, ya, yc, rfl, ho5, hb5⟩
     have hS5 : Below wr.heap.size wr w5 := hS.trans (hb5.mono hS.size)
     refine ⟨_, rfl, hS5, ?_⟩
     refine plan.firstS 6 _ (.tuple #[zP q xa xc2 ya yc, .int .i64 (n : Nat)]) rfl (fun w' hS' => (by kernel_rfl)) hS5 ?_
     refine plan.firstS 7 _ (zP q xa xc2 ya yc) rfl (fun w' hS' => (by kernel_rfl)) hS5 ?_
     refine plan.firstS 8 _ (.int .i64 (n : Nat)) rfl (fun w' hS' => (by kernel_rfl)) hS5 ?_
     have hS8 : Below wr.heap.size wr (w5.alloc (.cells zZ 32)) := hS5.alloc hS5.size _
     have ho8 : OwnS (w.heap.size + 1) (w5.alloc (.cells zZ 32)) ⟨q, xa, xc2, ya, yc⟩ := (ho5.low (by have := hS.size; have := HSW.out; omega)).later (newB w5 _)
     have hZ : Block (w5.alloc (.cells zZ 32)) w5.heap.size 32 Z16 := Block.new w5 32 Z16
     have hg8 : wr.heap.size ≤ w5.heap.size := hS5.size
     refine plan.oneS (w1 := w5.alloc (.cells zZ 32)) 9 _ (.pointer (some ⟨w5.heap.size, 0, none⟩)) rfl rfl hS8 ?_
     obtain ⟨w6, hw6⟩ : ∃ z, Hid (w5.alloc (.cells zZ 32) = z) := ⟨_, hid rfl⟩
     obtain ⟨g, hg⟩ : ∃ z, Hid (w5.heap.size = z) := ⟨_, hid rfl⟩
     rw [hw6.out] at hS8 ho8 hZ ⊢
     rw [hg.out] at hZ hg8 ⊢
     clear hw6 hg ho5 hb5 hS5
     obtain ⟨w7, hw7⟩ : ∃ z, Hid (w6.setCells g 0 (zP q xa xc2 ya yc) = z) := ⟨_, hid rfl⟩
     have hZW : Block w7 g 32 (zP q xa xc2 ya yc) := by have := hZ.setCells (vs := (zP q xa xc2 ya yc)) (o := 0); rw [put_all _ _ (by rfl)] at this; rw [← hw7.out]; exact this
     have hS9 : Below wr.heap.size wr w7 := by rw [← hw7.out]; exact below_setCells hS8 hg8 0 _
     have ho9 : OwnS (w.heap.size + 1) w7 ⟨q, xa, xc2, ya, yc⟩ := by rw [← hw7.out]; exact ho8.stay (stay_cells _ hZ st_int _ _) (stay_cells _ hZ st_fd _ _)
     refine plan.thenS (w1 := w7) 10 _ rfl rfl rfl (by rw [← hw7.out]; exact plan.exec_store_all (cells := (zP q xa xc2 ya yc)) rfl hZ rfl info_st.out (one_16 q _ _ rfl rfl)) hS9 ?_
     refine plan.oneS (w1 := w7) 11 _ (.int .i64 (n : Nat)) rfl rfl hS9 ?_
     refine plan.doneS ?_
     walk_nrm
     exact CONT g xa xc2 ya yc w7 ⟨hS9, hZW, ho9, hg8⟩
    ·refine ⟨_, rfl, rfl, .inl ⟨.pointer (some ⟨wd.heap.size, 0, none⟩), wd.alloc (.cells zZ 32), (by kernel_rfl), (hS.alloc hS.size _), ?_⟩⟩
     have hSa : Below wr.heap.size wr (wd.alloc (.cells zZ 32)) := hS.alloc hS.size _
     have hZ0 : Block (wd.alloc (.cells zZ 32)) wd.heap.size 32 Z16 := Block.new wd 32 Z16
     have hg8 : wr.heap.size ≤ wd.heap.size := hS.size
     obtain ⟨wa, hwa⟩ : ∃ z, Hid (wd.alloc (.cells zZ 32) = z) := ⟨_, hid rfl⟩
     obtain ⟨g, hg⟩ : ∃ z, Hid (wd.heap.size = z) := ⟨_, hid rfl⟩
     rw [hwa.out] at hSa hZ0 ⊢
     rw [hg.out] at hZ0 hg8 ⊢
     refine plan.callS 5 _ 10 #[zS v2 x G.length xc, zP p.s p.ta p.tc p.la p.lc] rfl ((cV wa hSa).mono ?_)
     rintro e w5 ⟨xa, xc2, ya, yc, rfl, ho5, hb5⟩
     have hS8 : Below wr.heap.size wr w5 := hSa.trans (hb5.mono hSa.size)
     have ho8 : OwnS (w.heap.size + 1) w5 ⟨q, xa, xc2, ya, yc⟩ := ho5.low (by have := hSa.size; have := HSW.out; omega)
     have hZ := hZ0.later hb5
     refine ⟨_, rfl, hS8, ?_⟩
     clear hwa hg hZ0 hSa hb5 ho5
     refine plan.firstS 6 _ (.tuple #[zP q xa xc2 ya yc, .int .i64 (n : Nat)]) rfl (fun w' hS' => (by kernel_rfl)) hS8 ?_
     refine plan.firstS 7 _ (zP q xa xc2 ya yc) rfl (fun w' hS' => (by kernel_rfl)) hS8 ?_
     refine plan.firstS 8 _ (.int .i64 (n : Nat)) rfl (fun w' hS' => (by kernel_rfl)) hS8 ?_
     obtain ⟨w7, hw7⟩ : ∃ z, Hid (w5.setCells g 0 (zP q xa xc2 ya yc) = z) := ⟨_, hid rfl⟩
     have hZW : Block w7 g 32 (zP q xa xc2 ya yc) := by have := hZ.setCells (vs := (zP q xa xc2 ya yc)) (o := 0); rw [put_all _ _ (by rfl)] at this; rw [← hw7.out]; exact this
     have hS9 : Below wr.heap.size wr w7 := by rw [← hw7.out]; exact below_setCells hS8 hg8 0 _
     have ho9 : OwnS (w.heap.size + 1) w7 ⟨q, xa, xc2, ya, yc⟩ := by rw [← hw7.out]; exact ho8.stay (stay_cells _ hZ st_int _ _) (stay_cells _ hZ st_fd _ _)
     refine plan.thenS (w1 := w7) 10 _ rfl rfl rfl (by rw [← hw7.out]; exact plan.exec_store_all (cells := (zP q xa xc2 ya yc)) rfl hZ rfl info_st.out (one_16 q _ _ rfl rfl)) hS9 ?_
     refine plan.oneS (w1 := w7) 11 _ (.int .i64 (n : Nat)) rfl rfl hS9 ?_
     refine plan.doneS ?_
     walk_nrm
     exact CONT g xa xc2 ya yc w7 ⟨hS9, hZW, ho9, hg8⟩
   case h2 =>
    rintro g xa xc2 ya yc w7 ⟨hS7, hZ7, ho7, hg7⟩
    by_cases h0 : n3 = 0
    ·obtain ⟨_, rfl, hR3, _⟩ := hok h0
     subst h0
     obtain ⟨rfl, rfl⟩ : q = q0 ∧ n = 0 := by have := hiv rfl; cases this; exact ⟨rfl, rfl⟩
     rw [if_pos rfl] at hQ
     have HQ := hid hQ
     have HR3 := hid hR3
     have HV7 := hid (HC.out _ hS7).1
     have HO7 := hid ho7
     have HS7 := hid hS7
     have hn8 := newB w7 (.cells (zP q xa xc2 ya yc) 32)
     have HP8 : Hid (Block (w7.alloc (.cells (zP q xa xc2 ya yc) 32)) w7.heap.size 32 (St.C ⟨q, xa, xc2, ya, yc⟩)) := hid (Block.new w7 32 (St.C ⟨q, xa, xc2, ya, yc⟩))
     have HRG := hid hZ7.whole
     have HIS : Hid ((Tryz.prog.info? 32).map (·.size) = some ((zP q xa xc2 ya yc) : List Value).length) := hid info_st.out
     have HW1 := hid (block_own (B := w.heap.size + 1) HP8.out (by have := hS7.size; have := HSW.out; omega))
     have HNW := hid (sts_news ((own_sts HV7.out.row).below hn8))
     have HPN : Hid (P.length ≤ 60) := hid (by have := HLN.out; have := hPk.out; omega)
     have HM1 : Hid (1 + P.length ≤ maxLen) := hid (by have := HPN.out; unfold maxLen; omega)
     have HM2 : Hid ((1 + P.length) * 168 ≤ 140737488355328) := hid (by have := HPN.out; omega)
     have HM3 : Hid (w.heap.size + 1 ≤ (w7.alloc (.cells (zP q xa xc2 ya yc) 32)).heap.size) := hid (by have := hS7.size; have := HSW.out; have := hn8.size; omega)
     have HN8 := hid hn8
     clear hQ hok hR3 hiv hin hn8 cV hS7 hZ7 ho7
     go_wp2_with (first
      | (with_reducible refine wpList_load_mid rfl 32 (.tmp 8) rfl g 0 rfl (zP q xa xc2 ya yc) _ HRG.out Tryz.underlying32 rfl HIS.out ?_)
      | (at_builtin; refine wpList_append_fromN rfl _ _ 33 rfl (w.heap.size + 1) 32 i0 _ 16 168 Tryz.underlying33 hi hz0 hz1 hz2 (by simp [Value.cells]) (by omega) (.slice (some ⟨w7.heap.size, 0, none⟩) 1 1) 1 (St.C ⟨q, xa, xc2, ya, yc⟩) rfl HW1.out ua P.length uc (stV P) rfl (stV_length P) HNW.out (stV_one P) HM1.out HM2.out HM3.out ?_))
     intro u9 w9 ho9 hg9
     obtain ⟨ua2, uc2, rfl, _⟩ := ownsRow_slice ho9
     have hb9 : Below w7.heap.size w7 w9 := HN8.out.grown hg9 HN8.out.size (fun j hj => by cases hj; exact Nat.le_refl _)
     have HV9 := hid (HV7.out.front HO7.out hb9 ho9)
     have HS9 := hid (HS7.out.trans (hb9.mono HS7.out.size))
     have HLE : Hid (((⟨q, xa, xc2, ya, yc⟩ : St) :: P).length = P.length + 1) := hid (by simp)
     clear hb9 ho9 hg9 HP8 HRG HW1 HNW HM1 HM2 HM3 HN8 HV7
     go_wp2
     refine plan.regionS (S := fun _ => True) ?_
     obtain ⟨wd, hwd⟩ : ∃ z, Hid (w9.drew = z) := ⟨_, hid rfl⟩
     have hd9 : Below wr.heap.size wr wd := by rw [← hwd.out]; exact below_drewN HS9.out 1
     have hv9 : Ivs w.heap.size v3 x xc G ((⟨q, xa, xc2, ya, yc⟩ : St) :: P) ua2 uc2 w wd := by rw [← hwd.out]; exact HV9.out.later (below_drewN (Below.refl _ _) 1)
     rw [hwd.out]
     clear hwd
     refine plan.firstS 1 _ (.slice (some ⟨b, off, none⟩) L.length lc) rfl (fun w' _ => (by kernel_rfl)) trivial ?_
     refine plan.firstS 2 _ (.int .i64 (k : Int)) rfl (fun w' _ => (by kernel_rfl)) trivial ?_
     refine plan.firstS 3 _ (.pointer (some ⟨b, off + k * 16, none⟩)) rfl (fun w' _ => exec_indexP (b := b) (off := off) (len := L.length) (cap := lc) (i := k) rfl HLT.out) trivial ?_
     have l0 : ∀ (o : Oper) (a : Act) (x0 : Operand), o.op = .load 24 x0 → a.eval x0 = .pointer (some ⟨w.heap.size, 0, none⟩) → (execOp a.eval o).run Tryz.prog wd = .ok (.value (zS v3 x G.length xc)) wd := fun o a x0 ho hx0 => exec_load_at (b := w.heap.size) (off := 0) ho (hx := hx0) hv9.box.whole Tryz.underlying24 rfl info_sc.out
     have l4 : ∀ (o : Oper) (a : Act) (x0 : Operand), o.op = .load 32 x0 → a.eval x0 = .pointer (some ⟨b, off + k * 16, none⟩) → (execOp a.eval o).run Tryz.prog wd = .ok (.value (zP p.s p.ta p.tc p.la p.lc)) wd := fun o a x0 ho hx0 => exec_load_at (b := b) (off := off + k * 16) ho (hx := hx0) (HC.out _ hd9).2.2 Tryz.underlying32 rfl info_st.out
     refine plan.readsS 0 4 33 37 _ _ (zS v3 x G.length xc) (zP p.s p.ta p.tc p.la p.lc) (by decide) (by decide) rfl rfl rfl rfl (l0 _ _ _ rfl (by kernel_rfl)) (l0 _ _ _ rfl (by kernel_rfl)) (l4 _ _ _ rfl (by kernel_rfl)) (l4 _ _ _ rfl (by kernel_rfl)) trivial ?_
     refine plan.callS 5 _ 21 #[zS v3 x G.length xc, zP p.s p.ta p.tc p.la p.lc] rfl ((cO wd hd9).mono ?_)
     rintro e w10 ⟨y5, yc5, H5, rfl, hH, hfo, hfar, hb10⟩
     refine ⟨_, rfl, trivial, ?_⟩
     refine plan.firstS 6 _ (.tuple #[zS v3 y5 H5.length yc5, .int .i64 0]) rfl (fun w' _ => (by kernel_rfl)) trivial ?_
     refine plan.firstS 7 _ (zS v3 y5 H5.length yc5) rfl (fun w' _ => (by kernel_rfl)) trivial ?_
     refine plan.firstS 8 _ (.int .i64 0) rfl (fun w' _ => (by kernel_rfl)) trivial ?_
     have hv10 := hv9.later hb10
     obtain ⟨w11, hw11⟩ : ∃ z, Hid (w10.setCells w.heap.size 0 (zS v3 y5 H5.length yc5) = z) := ⟨_, hid rfl⟩
     refine plan.lastS (w1 := w11) 9 _ rfl rfl rfl (by rw [← hw11.out]; exact plan.exec_store_all (cells := (zS v3 y5 H5.length yc5)) rfl hv10.box rfl info_sc.out (by simp [Value.oneCell'])) trivial ?_
     have hS5 := small_right hH (v := v3) (by rw [hfo]; exact HR3.out)
     have hX : Ivs w.heap.size v3 y5 yc5 H5 ((⟨q, xa, xc2, ya, yc⟩ : St) :: P) ua2 uc2 w w11 := by rw [← hw11.out]; exact hv10.set hH (fun z hz => by have := hfar z hz; have := hv9.box.lt; omega) ⟨hS5.1, fun r hr => (hS5.2 r hr).2⟩
     have HX := hid hX
     have HFO := hid hfo
     clear hX hS5 hw11 hv10 hH hfo hfar hb10 hv9 hd9 l0 l4
     walk_nrm
     go_wp2
     exact ⟨⟨k + 1, v3, y5, yc5, H5, _, ua2, uc2, by omega, hid (by rw [HLE.out, hPk.out]), by rw [HLE.out, Nat.add_comm], by go_num, HX, hid (by rw [HFO.out]; exact HQ.out)⟩, by simp [intOf]; omega⟩
    ·rw [if_neg h0] at hQ
     subst hQ
     have e := hin h0
     subst e
     have hne : (((n : Nat) : Int) != 0) = true := by simpa using h0
     have HB7 := hid (HC.out _ hS7).1.below
     clear hok h0 hiv hin cV cO hS7 hZ7 ho7
     go_wp2
     go_ret2
     exact ⟨none, 0, [], rfl, rfl, StL.nil _, HB7.out⟩
  ·obtain rfl : k = L.length := by omega
   rw [List.drop_of_length_le (by unfold sps; simp)] at hQ
   unfold backs at hQ
   subst hQ
   have hd : ¬ (L.length : Int) < (L.length : Int) := by omega
   go_wp2
   go_ret2
   exact ⟨ua, uc, P, rfl, rfl, ⟨own_sts HV.out.row, fun p hp => (HV.out.each p hp).lists⟩, HV.out.below⟩
end Go.Proofs.YtaciegkblklokaaGreat.pair
namespace Go.Proofs.YtaciegkblklokaaGreat.typing
open Go.RowKit Go.Proofs.YtaciegkblklokaaGreat.schema
open Go.Proofs.YtaciegkblklokaaGreat.field (newB results_cell3)
open Go.Proofs.YtaciegkblklokaaGreat.step (Lists St StL sps step_at step_range exec_indexP)
structure Al2 (S : Nat) (v : Int) (x : Option Addr) (xc : Nat) (G : List Fm) (w wr : World) : Prop where
 box : Block wr S 24 (zS v x G.length xc)
 res : Block wr (S + 1) 24 [.int .i64 0, .slice none 0 0]
 fml : FmL wr x G
 off : G ≠ [] → ∀ z, x = some z → z.block < S ∨ S + 2 ≤ z.block
 small : G.length ≤ 40 ∧ ∀ p ∈ G, p.fL.length ≤ 40
 below : Below S w wr
theorem Al2.later {S : Nat} {v : Int} {x : Option Addr} {xc : Nat} {G : List Fm} {w wr w' : World} (h : Al2 S v x xc G w wr) (hb : Below wr.heap.size wr w') : Al2 S v x xc G w w' :=
 ⟨h.box.later hb, h.res.later hb, h.fml.below hb, h.off, h.small, h.below.trans (hb.mono (by have := h.box.lt; omega))⟩
theorem Al2.isSmall {S : Nat} {v : Int} {x : Option Addr} {xc : Nat} {G : List Fm} {w wr : World} (h : Al2 S v x xc G w wr) : Small wr G := ⟨h.small.1, fun p hp => ⟨(h.fml.2 p hp).rf, h.small.2 p hp⟩⟩
theorem al2_mk {S : Nat} {v2 : Int} {c0 c1 : Value} {y : Option Addr} {yc : Nat} {H : List Fm} {w wr : World} (hbox : Block wr S 24 [c0, c1]) (hres : Block wr (S + 1) 24 [.int .i64 0, .slice none 0 0]) (hb : Below S w wr) (hf : FmL wr y H) (hy : H ≠ [] → ∀ z, y = some z → z.block < S ∨ S + 2 ≤ z.block) (hs : H.length ≤ 40 ∧ ∀ p ∈ H, p.fL.length ≤ 40) :
  Al2 S v2 y yc H w ((wr.setCell ⟨S, 0, none⟩ (.int .i64 v2)).setCell ⟨S, 1, none⟩ (.slice y H.length yc)) := by
 have hne : H ≠ [] → ∀ z, y = some z → z.block ≠ S := fun h z hz => by have := hy h z hz; omega
 refine ⟨?_, ?_, fml_set2 (fml_set2 hf hne hbox (by simp)) hne (hbox.setCell 0 _) (by simp), hy, hs, below_setCells (below_setCells hb (Nat.le_refl _) 0 [_]) (Nat.le_refl _) 1 [_]⟩
 ·have := (hbox.setCell 0 (.int .i64 v2)).setCell 1 (.slice y H.length yc)
  simpa using this
 ·exact (hres.apart _ _ _ (by omega)).apart _ _ _ (by omega)
theorem fml_store {w : World} {g : Nat} {v : Int} {x xa : Option Addr} {n xc : Nat} {G : List Fm} (h : FmL w x G) (hx : ∀ z, x = some z → z.block ≠ g) (hB : Block w g 24 [.int .i64 0, .slice none 0 0]) :
  FmL (w.setCells g 0 (zS v xa n xc)) x G ∧ Block (w.setCells g 0 (zS v xa n xc)) g 24 (zS v xa n xc) := by
 refine ⟨fml_set2 (S := g) (o := 1) (fml_set2 (S := g) (o := 0) h (fun _ => hx) hB (by simp)) (fun _ => hx) (hB.setCell 0 (.int .i64 v)) (by simp), ?_⟩
 have := hB.setCells (vs := (zS v xa n xc)) (o := 0)
 rwa [put_all _ _ (by simp)] at this
theorem fml_store0 {w : World} {g : Nat} {v : Int} {x xa : Option Addr} {n xc : Nat} {G : List Fm} (h : FmL w x G) (hx : ∀ z, x = some z → G ≠ [] → z.block < g) (hB : Block w g 24 [.int .i64 0, .slice none 0 0]) :
  FmL (w.setCells g 0 (zS v xa n xc)) x G ∧ Block (w.setCells g 0 (zS v xa n xc)) g 24 (zS v xa n xc) := by
 have hx' : G ≠ [] → ∀ z, x = some z → z.block ≠ g := fun hne z hz => by have := hx z hz hne; omega
 refine ⟨fml_set2 (S := g) (o := 1) (fml_set2 (S := g) (o := 0) h hx' hB (by simp)) hx' (hB.setCell 0 (.int .i64 v)) (by simp), ?_⟩
 have := hB.setCells (vs := (zS v xa n xc)) (o := 0)
 rwa [put_all _ _ (by simp)] at this
set_option maxRecDepth 20000 in
set_option maxHeartbeats 3200000 in
theorem refAll_any (v : Int) (a : Option Addr) (cap : Nat) (F : List Fm) (la : Option Addr) (lc : Nat) (L : List St) (w : World) (h : FmL w a F) (hF : Small w F) (hl : StL w la L) (hn : L.length ≤ 60) (h40 : ∀ p ∈ L, p.s.l.length ≤ 40) :
  Calls Tryz.prog 17 #[zS v a F.length cap, .slice la L.length lc] w (AllAs (all 0 v (forms F) (sps L)) w) := by
 have hml : (L.length : Int) ≤ 60 := by omega
 obtain ⟨W2, hW2⟩ : ∃ W2, W2 = ((w.alloc (.cells (zS v a F.length cap) 24))).alloc (.cells #[.int .i64 0, .slice none 0 0] 24) := ⟨_, rfl⟩
 have hb2 : Below w.heap.size w W2 := by rw [hW2]; exact (((Below.refl _ _).alloc (Nat.le_refl _) _).alloc (by simp) _)
 have hA : Al2 w.heap.size v a cap F w W2 := by
  refine ⟨by rw [hW2]; exact (Block.new w _ _).alloc _, by rw [hW2]; have := Block.new ((w.alloc (.cells (zS v a F.length cap) 24))) 24 [.int .i64 0, .slice none 0 0]; simpa using this, h.below hb2, fun hne z hz => ?_, ⟨hF.1, fun p hp => (hF.2 p hp).2⟩, hb2⟩
  rcases h.1 with h1 | ⟨b, off, hb, hlt, _⟩
  ·exact absurd h1 hne
  ·rw [hb] at hz
   cases hz
   exact .inl hlt
 have HA0 := hid hA
 have HL := hid hl
 have HL40 := hid h40
 have HN := hid hn
 obtain ⟨R, hR⟩ : ∃ R, Hid (all 0 v (forms F) (sps L) = R) := ⟨_, hid rfl⟩
 rw [hR.out]
 have HW2 := hid hW2
 clear h hF hl h40 hb2 hA hW2 hn
 unfold AllAs
 go_enter Tryz.func17, Tryz.ntmps17
 go_wp2
 rw [← HW2.out]
 go_loopw [7] (fun n wr => ∃ (k : Nat) (v2 : Int) (y : Option Addr) (yc : Nat) (H : List Fm), k ≤ L.length ∧ n = .int .i64 (k : Int) ∧ Hid (Al2 w.heap.size v2 y yc H w wr) ∧ Hid (all k v2 (forms H) ((sps L).drop k) = R)) (fun n _ => L.length - (intOf n).toNat)
 case atStart => exact ⟨0, v, a, cap, F, Nat.zero_le _, rfl, HA0, hR⟩
 case round =>
  obtain ⟨k, v2, y, yc, H, hk, rfl, HA, HQ⟩ := hrel
  have hQ := HQ.out
  clear HQ
  by_cases hlt : k < L.length
  ·obtain ⟨b, off, p, rfl, hbl, hp, hls, hrg⟩ := step_range HL.out HA.out.below hlt
   have i1 : (k : Int) < L.length := by omega
   have hdrop : (sps L).drop k = p.s :: (sps L).drop (k + 1) := by
    have h1 : (sps L)[k]? = some p.s := by unfold sps; rw [List.getElem?_map, hp]; rfl
    rw [List.drop_eq_getElem_cons (List.getElem?_eq_some_iff.1 h1).1, (List.getElem?_eq_some_iff.1 h1).2]
   rw [hdrop] at hQ
   unfold all at hQ
   have HHL := hid (HL40.out p (List.mem_of_getElem? hp))
   have HLT := hid hlt
   have HC : Hid (∀ w', Below wr.heap.size wr w' → Al2 w.heap.size v2 y yc H w w' ∧ Lists w' p.s p.ta p.la ∧ w'.rangeAt b (off + k * 16) p.C) := hid (fun w' hb => ⟨HA.out.later hb, hls.below hb, range_later hrg hb hbl⟩)
   have cO := fun (w' : World) (hb : Below wr.heap.size wr w') => refOn_any v2 y yc H p.s p.ta p.tc p.la p.lc w' (HC.out _ hb).1.fml (HC.out _ hb).1.isSmall (HC.out _ hb).2.1 HHL.out
   have hok := fun h0 => on_ok (v := v2) (F := forms H) (s := p.s) h0
   generalize on v2 (forms H) p.s = r at cO hok hQ
   obtain ⟨v3, P, n⟩ := r
   simp only at hok hQ
   unfold OnR at cO
   clear hls hp hdrop hrg
   have hw2 := HA.out.res.lt
   go_wp2
   refine plan.regionS (S := fun w' => Below wr.heap.size wr w') ?_
   have hS : Below wr.heap.size wr wr.drew := below_drewN (Below.refl _ _) 1
   generalize wr.drew = wd at *
   refine plan.firstS 0 _ (zS v2 y H.length yc) rfl (fun w' hS' => exec_load_at (b := w.heap.size) (off := 0) rfl (HC.out _ hS').1.box.whole Tryz.underlying24 rfl info_sc.out) hS ?_
   refine plan.firstS 1 _ (.slice (some ⟨b, off, none⟩) L.length lc) rfl (fun w' hS' => (by kernel_rfl)) hS ?_
   refine plan.firstS 2 _ (.int .i64 (k : Int)) rfl (fun w' hS' => (by kernel_rfl)) hS ?_
   refine plan.firstS 3 _ (.pointer (some ⟨b, off + k * 16, none⟩)) rfl (fun w' hS' => exec_indexP (b := b) (off := off) (len := L.length) (cap := lc) (i := k) rfl HLT.out) hS ?_
   refine plan.firstS 4 _ (zP p.s p.ta p.tc p.la p.lc) rfl (fun w' hS' => exec_load_at (b := b) (off := off + k * 16) rfl (HC.out _ hS').2.2 Tryz.underlying32 rfl st_info) hS ?_
   refine bothS 5 9 ?_ ?_
   ·refine ⟨_, rfl, rfl, .inr ⟨21, #[zS v2 y H.length yc, zP p.s p.ta p.tc p.la p.lc], (by kernel_rfl), (cO wd hS).mono ?_⟩⟩
    rintro e w5 ⟨y5, yc5, H5, rfl, hH, hfo, hfar, hb5⟩
    have hS5 : Below wr.heap.size wr w5 := hS.trans (hb5.mono hS.size)
    refine ⟨_, rfl, hS5, ?_⟩
    refine plan.firstS 6 _ (.tuple #[zS v3 y5 H5.length yc5, .int .i64 (n : Nat)]) rfl (fun w' hS' => (by kernel_rfl)) hS5 ?_
    refine plan.firstS 7 _ (zS v3 y5 H5.length yc5) rfl (fun w' hS' => (by kernel_rfl)) hS5 ?_
    refine plan.firstS 8 _ (.int .i64 (n : Nat)) rfl (fun w' hS' => (by kernel_rfl)) hS5 ?_
    have hfm := hH.below (newB w5 (.cells #[.int .i64 0, .slice none 0 0] 24))
    have hZ := Block.new w5 24 [.int .i64 0, .slice none 0 0]
    have hbl : ∀ z, y5 = some z → H5 ≠ [] → z.block < w5.heap.size := fun z hz hne => by
     rcases hH.1 with h1 | ⟨b2, o2, e2, hl2, _⟩
     ·exact absurd h1 hne
     ·rw [e2] at hz; cases hz; exact hl2
    have hS8 : Below wr.heap.size wr (w5.alloc (.cells #[.int .i64 0, .slice none 0 0] 24)) := hS5.alloc hS5.size _
    refine plan.oneS (w1 := w5.alloc (.cells #[.int .i64 0, .slice none 0 0] 24)) 9 _ (.pointer (some ⟨w5.heap.size, 0, none⟩)) rfl rfl hS8 ?_
    have HOFF : Hid (H5 ≠ [] → ∀ z, y5 = some z → z.block < w.heap.size ∨ w.heap.size + 2 ≤ z.block) := hid (fun _ z hz => by have := hfar z hz; have := hS.size; omega)
    have hz5 := hS5.size
    obtain ⟨w6, hw6⟩ : ∃ x, x = w5.alloc (.cells #[.int .i64 0, .slice none 0 0] 24) := ⟨_, rfl⟩
    rw [← hw6] at hS8 hfm hZ ⊢
    obtain ⟨g, hg⟩ : ∃ x, x = w5.heap.size := ⟨_, rfl⟩
    rw [← hg] at hZ hbl hz5 ⊢
    clear hw6 hg hH hfar hb5 hS5
    have hst := fml_store0 (v := v3) (xa := y5) (n := H5.length) (xc := yc5) hfm hbl hZ
    have hS9 : Below wr.heap.size wr (w6.setCells g 0 (zS v3 y5 H5.length yc5)) := below_setCells hS8 hz5 0 _
    refine plan.thenS (w1 := w6.setCells g 0 (zS v3 y5 H5.length yc5)) 10 _ rfl rfl rfl (plan.exec_store_all (cells := (zS v3 y5 H5.length yc5)) rfl hZ rfl info_sc.out (by simp [Value.oneCell'])) hS9 ?_
    generalize w6.setCells g 0 (zS v3 y5 H5.length yc5) = w7 at *
    refine plan.oneS (w1 := w7) 11 _ (.int .i64 (n : Nat)) rfl rfl hS9 ?_
    refine plan.doneS ?_
    obtain ⟨hH7, hT7⟩ := hst
    have HH7 := hid hH7
    have HA7 := hid (HC.out _ hS9).1
    have y0 := hT7.cell 0
    have y1 := hT7.cell 1
    clear hH7 hT7 hS9 hfm hbl hZ hS cO HC
    by_cases h0 : n = 0
    ·obtain ⟨_, rfl, hR3, _⟩ := hok h0
     subst h0
     rw [if_pos rfl] at hQ
     have q0 := HA7.out.box.cell 0
     have q1 := HA7.out.box.cell 1
     have g0 := HA7.out.box.frozen 0
     have g1 := HA7.out.box.frozen 1
     have hS5 := small_right HH7.out (v := v3) (by rw [hfo]; exact hR3)
     have HQ2 := hid hQ
     have HS5 := hid hS5
     have HFO := hid hfo
     clear hok hQ hS5 hfo hR3
     walk_nrm
     go_wp2
     exact ⟨⟨k + 1, v3, y5, yc5, H5, by omega, by go_num, hid (al2_mk HA7.out.box HA7.out.res HA7.out.below HH7.out HOFF.out ⟨HS5.out.1, fun r hr => (HS5.out.2 r hr).2⟩), hid (by rw [HFO.out]; exact HQ2.out)⟩, by simp [intOf]; omega⟩
    ·rw [if_neg h0] at hQ
     subst hQ
     have hne : (((n : Nat) : Int) != 0) = true := by simpa using h0
     have g0 := HA7.out.res.cell 0
     have g1 := HA7.out.res.cell 1
     have g2 := HA7.out.res.frozen 0
     have g3 := HA7.out.res.frozen 1
     clear hok h0
     walk_nrm
     go_wp2
     have hB := (HA7.out.res.setCell 0 (.int .i64 0)).setCell 1 (.slice none 0 0)
     refine bodyPost_ret (results_cell3 (b := w.heap.size + 1) (o := 0) rfl rfl hB.whole Tryz.underlying24 rfl (sc_info2 _ _)) rfl ?_
     exact ⟨none, 0, [], rfl, ⟨.inl rfl, by simp⟩, rfl, below_setCells (below_setCells HA7.out.below (by omega) 0 [_]) (by omega) 1 [_]⟩
   ·refine ⟨_, rfl, rfl, .inl ⟨.pointer (some ⟨wd.heap.size, 0, none⟩), wd.alloc (.cells #[.int .i64 0, .slice none 0 0] 24), (by kernel_rfl), (hS.alloc hS.size _), ?_⟩⟩
    have hSa : Below wr.heap.size wr (wd.alloc (.cells #[.int .i64 0, .slice none 0 0] 24)) := hS.alloc hS.size _
    have hZ0 := Block.new wd 24 [.int .i64 0, .slice none 0 0]
    have hza : (wd.alloc (.cells #[.int .i64 0, .slice none 0 0] 24)).heap.size = wd.heap.size + 1 := by simp
    obtain ⟨wa, hwa⟩ : ∃ x, x = wd.alloc (.cells #[.int .i64 0, .slice none 0 0] 24) := ⟨_, rfl⟩
    rw [← hwa] at hSa hZ0 hza ⊢
    refine plan.callS 5 _ 21 #[zS v2 y H.length yc, zP p.s p.ta p.tc p.la p.lc] rfl ((cO wa hSa).mono ?_)
    rintro e w5 ⟨y5, yc5, H5, rfl, hH, hfo, hfar, hb5⟩
    have hS8 : Below wr.heap.size wr w5 := hSa.trans (hb5.mono hSa.size)
    refine ⟨_, rfl, hS8, ?_⟩
    refine plan.firstS 6 _ (.tuple #[zS v3 y5 H5.length yc5, .int .i64 (n : Nat)]) rfl (fun w' hS' => (by kernel_rfl)) hS8 ?_
    refine plan.firstS 7 _ (zS v3 y5 H5.length yc5) rfl (fun w' hS' => (by kernel_rfl)) hS8 ?_
    refine plan.firstS 8 _ (.int .i64 (n : Nat)) rfl (fun w' hS' => (by kernel_rfl)) hS8 ?_
    have hfm := hH
    have hZ := hZ0.later hb5
    have HOFF : Hid (H5 ≠ [] → ∀ z, y5 = some z → z.block < w.heap.size ∨ w.heap.size + 2 ≤ z.block) := hid (fun _ z hz => by have := hfar z hz; have := hS.size; omega)
    have hz5 := hS.size
    have hoff : ∀ z, y5 = some z → z.block ≠ wd.heap.size := fun z hz => by have := hfar z hz; omega
    obtain ⟨g, hg⟩ : ∃ x, x = wd.heap.size := ⟨_, rfl⟩
    rw [← hg] at hZ hoff hz5 ⊢
    clear hwa hg hZ0 hza hH hfar hb5 hSa
    have hst := fml_store (v := v3) (xa := y5) (n := H5.length) (xc := yc5) hfm hoff hZ
    have hS9 : Below wr.heap.size wr (w5.setCells g 0 (zS v3 y5 H5.length yc5)) := below_setCells hS8 hz5 0 _
    refine plan.thenS (w1 := w5.setCells g 0 (zS v3 y5 H5.length yc5)) 10 _ rfl rfl rfl (plan.exec_store_all (cells := (zS v3 y5 H5.length yc5)) rfl hZ rfl info_sc.out (by simp [Value.oneCell'])) hS9 ?_
    generalize w5.setCells g 0 (zS v3 y5 H5.length yc5) = w7 at *
    refine plan.oneS (w1 := w7) 11 _ (.int .i64 (n : Nat)) rfl rfl hS9 ?_
    refine plan.doneS ?_
    obtain ⟨hH7, hT7⟩ := hst
    have HH7 := hid hH7
    have HA7 := hid (HC.out _ hS9).1
    have y0 := hT7.cell 0
    have y1 := hT7.cell 1
    clear hH7 hT7 hS9 hfm hoff hZ hS cO HC
    by_cases h0 : n = 0
    ·obtain ⟨_, rfl, hR3, _⟩ := hok h0
     subst h0
     rw [if_pos rfl] at hQ
     have q0 := HA7.out.box.cell 0
     have q1 := HA7.out.box.cell 1
     have g0 := HA7.out.box.frozen 0
     have g1 := HA7.out.box.frozen 1
     have hS5 := small_right HH7.out (v := v3) (by rw [hfo]; exact hR3)
     have HQ2 := hid hQ
     have HS5 := hid hS5
     have HFO := hid hfo
     clear hok hQ hS5 hfo hR3
     walk_nrm
     go_wp2
     exact ⟨⟨k + 1, v3, y5, yc5, H5, by omega, by go_num, hid (al2_mk HA7.out.box HA7.out.res HA7.out.below HH7.out HOFF.out ⟨HS5.out.1, fun r hr => (HS5.out.2 r hr).2⟩), hid (by rw [HFO.out]; exact HQ2.out)⟩, by simp [intOf]; omega⟩
    ·rw [if_neg h0] at hQ
     subst hQ
     have hne : (((n : Nat) : Int) != 0) = true := by simpa using h0
     have g0 := HA7.out.res.cell 0
     have g1 := HA7.out.res.cell 1
     have g2 := HA7.out.res.frozen 0
     have g3 := HA7.out.res.frozen 1
     clear hok h0
     walk_nrm
     go_wp2
     have hB := (HA7.out.res.setCell 0 (.int .i64 0)).setCell 1 (.slice none 0 0)
     refine bodyPost_ret (results_cell3 (b := w.heap.size + 1) (o := 0) rfl rfl hB.whole Tryz.underlying24 rfl (sc_info2 _ _)) rfl ?_
     exact ⟨none, 0, [], rfl, ⟨.inl rfl, by simp⟩, rfl, below_setCells (below_setCells HA7.out.below (by omega) 0 [_]) (by omega) 1 [_]⟩
  ·obtain rfl : k = L.length := by omega
   rw [List.drop_of_length_le (by unfold sps; simp)] at hQ
   unfold all at hQ
   subst hQ
   have x0 := HA.out.box.cell 0
   have x1 := HA.out.box.cell 1
   have g0 := HA.out.res.cell 0
   have g1 := HA.out.res.cell 1
   have g2 := HA.out.res.frozen 0
   have g3 := HA.out.res.frozen 1
   go_wp2
   have hB := (HA.out.res.setCell 0 (.int .i64 v2)).setCell 1 (.slice y H.length yc)
   have hne : H ≠ [] → ∀ z, y = some z → z.block ≠ w.heap.size + 1 := fun h z hz => by have := HA.out.off h z hz; omega
   refine bodyPost_ret (results_cell3 (b := w.heap.size + 1) (o := 0) rfl rfl hB.whole Tryz.underlying24 rfl (sc_info2 _ _)) rfl ?_
   exact ⟨y, yc, H, rfl, fml_set2 (fml_set2 HA.out.fml hne HA.out.res (by simp)) hne (HA.out.res.setCell 0 _) (by simp), rfl, below_setCells (below_setCells HA.out.below (by omega) 0 [_]) (by omega) 1 [_]⟩
end Go.Proofs.YtaciegkblklokaaGreat.typing
