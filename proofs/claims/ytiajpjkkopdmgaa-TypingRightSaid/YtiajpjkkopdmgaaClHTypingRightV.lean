/- TypingRight returns true for every schema and every step, and each argument reads afterwards as it read before. No condition. -/
import Derived.Test.YtiajpjkkopdmgaaClHTypingRightJ
import Derived.Test.YtiajpjkkopdmgaaClHTypingRightF
import Derived.Test.YtiajpjkkopdmgaaClHTypingRightG
import Derived.Test.YtiajpjkkopdmgaaClHTypingRightS
import Derived.Test.YtiajpjkkopdmgaaClHTypingRightU
import Derived.Conc.WalkWords
import Derived.Test.YtiajpjkkopdmgaaClHTypingRightA
import Derived.Test.YtiajpjkkopdmgaaClHTypingRightD
/- Contracts of the reference of layer 13 (schema): At, Find, Long. No condition. -/
namespace Go.Proofs.Ytiajpjkkopdmgaa.schema
open Go.RowKit
open Go.Proofs.Ytiajpjkkopdmgaa.field (Gives newB gives_from refSize_any)
set_option linter.unusedVariables false
theorem refFind_any (i : Int) (a : Option Addr) (cap : Nat) (L : List Fm) (x : Int) (w : World) (h : FmL w a L) (hL : L.length ≤ maxLen) :
    Calls Try.prog 15 #[.agg #[.int .i64 i, .slice a L.length cap], .int .i64 x] w (Gives (.int .i64 (firstAt (fids L) x)) w) := by
  have hml : (L.length : Int) ≤ 9223372036854775807 := by unfold maxLen at hL; omega
  have HX := hid (boxS i a L cap w)
  have HF := hid (h.below (newB w (.cells #[.int .i64 i, .slice a L.length cap] 24)))
  obtain ⟨r, hr⟩ : ∃ r : Int, Hid (firstAt (fids L) x = r) := ⟨_, rfl⟩
  rw [hr.out]
  unfold Gives
  clear h hL
  go_enter Try.func15, Try.ntmps15
  go_wp2
  go_loopw [5] (fun n wr => ∃ k : Nat, k ≤ L.length ∧ n = .int .i64 (k : Int) ∧ Hid (x ∉ (fids L).take k) ∧ Hid (Below (w.alloc (.cells #[.int .i64 i, .slice a L.length cap] 24)).heap.size (w.alloc (.cells #[.int .i64 i, .slice a L.length cap] 24)) wr)) (fun n _ => L.length - (intOf n).toNat)
  case atStart => exact ⟨0, Nat.zero_le _, rfl, hid (by simp), hid (Below.refl _ _)⟩
  case round =>
    obtain ⟨k, hk, rfl, HNO, HB⟩ := hrel
    obtain ⟨z0, z1, hbo⟩ := HX.out _ HB.out
    by_cases hlt : k < L.length
    · obtain ⟨b, off, p, rfl, hbl, hp, c0, c1, _, _⟩ := form_at HF.out HB.out hlt
      have i1 : (k : Int) < L.length := by omega
      have HHIT := hid (fun e => first_hit HNO.out ((fids_at hp).trans (congrArg some e)))
      have HNX := hid (fun e => not_take_succ HNO.out (fids_at hp) e)
      clear hp
      by_cases hx : p.id = x
      · have hd : (p.id == x) = true := beq_iff_eq.2 hx
        obtain rfl : (k : Int) = r := by rw [← hr.out]; exact (HHIT.out hx).symm
        clear hx
        go_wp2
        go_ret
        exact ⟨rfl, hbo⟩
      · have hd : (p.id == x) = false := beq_eq_false_iff_ne.2 hx
        have HXX := hid hx
        clear hx
        go_wp2
        exact ⟨⟨k + 1, by omega, by go_num, hid (HNX.out HXX.out), HB⟩, by simp [intOf]; omega⟩
    · obtain rfl : k = L.length := by omega
      obtain rfl : -1 = r := by rw [← hr.out]; have := HNO.out; rw [List.take_of_length_le (by rw [fids_length]; exact Nat.le_refl _)] at this; exact (first_none this).symm
      go_wp2
      go_ret
      exact ⟨rfl, hbo⟩
end Go.Proofs.Ytiajpjkkopdmgaa.schema
/- Single operations of layer 13's references, run by themselves. No condition. -/
namespace Go.Proofs.Ytiajpjkkopdmgaa.schema
open Go.RowKit
set_option linter.unusedVariables false
section
variable {o : Oper} {a : Act} {w : World}
theorem exec_indexM {x y : Operand} {b off len cap i : Nat} (ho : o.op = .indexAddr 22 x y) (hx : a.eval x = .slice (some ⟨b, off, none⟩) len cap) (hy : a.eval y = .int .i64 (i : Int)) (hi : i < len) :
    (execOp a.eval o).run Try.prog w = .ok (.value (.pointer (some ⟨b, off + i * 2, none⟩))) w := by
  unfold execOp
  rw [ho]
  simp only [hx, hy]
  go_simp
end
end Go.Proofs.Ytiajpjkkopdmgaa.schema
/- Contract of the reference of layer 13 (schema): Right. No condition. -/
namespace Go.Proofs.Ytiajpjkkopdmgaa.schema
open Go.RowKit
open Go.Proofs.Ytiajpjkkopdmgaa.field (Gives newB gives_from)
set_option linter.unusedVariables false

set_option maxRecDepth 20000 in
set_option maxHeartbeats 1600000 in
theorem refRight_any (v : Int) (a : Option Addr) (cap : Nat) (F : List Fm) (w : World) (h : FmL w a F) (hF : F.length ≤ maxLen) :
    Calls Try.prog 14 #[.agg #[.int .i64 v, .slice a F.length cap]] w (Gives (.bool (decide (Right v (forms F)))) w) := by
  have hml : (F.length : Int) ≤ 9223372036854775807 := by unfold maxLen at hF; omega
  have HX := hid (boxS v a F cap w)
  have hw := newB w (.cells #[.int .i64 v, .slice a F.length cap] 24)
  have HF := hid (h.below hw)
  have HW := hid hw
  have HL := hid (forms_length F)
  obtain ⟨r, hr⟩ : ∃ r : Bool, Hid (decide (Right v (forms F)) = r) := ⟨_, rfl⟩
  rw [hr.out]
  unfold Gives
  clear h hw
  by_cases h1 : v < 1
  · obtain rfl : false = r := by rw [← hr.out]; exact (decide_eq_false (fun e => by have := e.1.1; omega)).symm
    have hd1 : decide (v < 1) = true := decide_eq_true h1
    clear h1
    go_enter Try.func14, Try.ntmps14
    go_wp2
    go_ret
    exact ⟨rfl, HW.out⟩
  have hd1 : decide (v < 1) = false := decide_eq_false h1
  by_cases h2 : v > 65535
  · obtain rfl : false = r := by rw [← hr.out]; exact (decide_eq_false (fun e => by have := e.1.2; omega)).symm
    have hd2 : decide (v > 65535) = true := decide_eq_true h2
    clear h1 h2
    go_enter Try.func14, Try.ntmps14
    go_wp2
    go_ret
    exact ⟨rfl, HW.out⟩
  have hd2 : decide (v > 65535) = false := decide_eq_false h2
  by_cases h4 : F.length > 8
  · obtain rfl : false = r := by rw [← hr.out]; exact (decide_eq_false (fun e => by have := e.2.1; rw [forms_length] at this; omega)).symm
    have hd4 : decide ((F.length : Int) > 8) = true := decide_eq_true (by omega)
    clear h1 h2 h4
    go_enter Try.func14, Try.ntmps14
    go_wp2
    go_ret
    exact ⟨rfl, HW.out⟩
  have hd4 : decide ((F.length : Int) > 8) = false := decide_eq_false (by omega)
  have HRI : Hid (Right v (forms F) ↔ FineS (forms F)) := hid ⟨fun e => e.2.2, fun e => ⟨by omega, by rw [forms_length]; omega, e⟩⟩
  have h8 : F.length ≤ 8 := by omega
  clear h1 h2 h4
  go_enter Try.func14, Try.ntmps14
  go_wp2
  clear hd1 hd2 hd4
  generalize (w.alloc (.cells #[.int .i64 v, .slice a F.length cap] 24)) = W0 at *
  go_loopw [3] (fun n wr => ∃ k : Nat, k ≤ F.length ∧ n = .int .i64 (k : Int) ∧ Hid (FineS ((forms F).take k)) ∧ Hid (Below W0.heap.size W0 wr)) (fun n _ => F.length - (intOf n).toNat)
  case atStart => exact ⟨0, Nat.zero_le _, rfl, hid FineS.nil, hid (Below.refl _ _)⟩
  case round =>
    obtain ⟨k, hk, rfl, HOK, HB⟩ := hrel
    obtain ⟨z0, z1, hbo⟩ := HX.out _ HB.out
    by_cases hlt : k < F.length
    · obtain ⟨b, off, p, rfl, hbl, hp, c0, c1, hfd, hfl⟩ := form_at HF.out HB.out hlt
      have i1 : (k : Int) < F.length := by omega
      have HNO := hid (fineS_no (forms_at hp))
      have HSUC := hid (fineS_succ (forms_at hp))
      have hR := range2 c0 c1
      obtain ⟨i, q, qc, L⟩ := p
      simp only [Fm.p] at HNO HSUC hR hfd hfl c0 c1
      have cf := fun w' (hb' : Below wr.heap.size wr w') => refFine_any i q qc L w' (hfd.below hb') hfl
      by_cases hf : Fine (i, L)
      · rw [decide_eq_true hf] at cf
        by_cases hk0 : k = 0
        · have HGT : Hid (decide ((k : Int) > 0) = false) := hid (by rw [hk0]; simp)
          have HOK2 : Hid (FineS ((forms F).take (k + 1))) := hid (HSUC.out.2 ⟨HOK.out, hf, by rw [hk0]; simp⟩)
          have HZ := hid (fun w' (hb' : Below wr.heap.size wr w') => (⟨by obtain ⟨_, y1, _⟩ := HX.out w' (HB.out.trans (hb'.mono HB.out.size)); exact y1, range_later hR hb' hbl⟩ : w'.cell? ⟨w.heap.size, 1, none⟩ = some (.slice (some ⟨b, off, none⟩) F.length cap) ∧ w'.rangeAt b (off + k * 2) [.int .i64 i, .slice q L.length qc]))
          clear hp hR hf c0 c1 hfd hk0 HOK HNO HSUC
          go_wp2
          have hb : Below wr.heap.size wr wr.drew := below_drew (Below.refl _ _)
          · refine plan.region (by kernel_rfl) ?_
            refine plan.Rest.first 0 _ (.pointer (some ⟨w.heap.size, 1, none⟩)) rfl (by kernel_rfl) (by kernel_rfl) (by kernel_rfl) (by kernel_rfl) (fun w' hb' => (by kernel_rfl)) ?_
            refine plan.Rest.first 1 _ (.slice (some ⟨b, off, none⟩) F.length cap) rfl (by kernel_rfl) (by kernel_rfl) (by kernel_rfl) (by kernel_rfl) (fun w' hb' => exec_cell_slice (ad := ⟨w.heap.size, 1, none⟩) rfl (by kernel_rfl) (HZ.out _ (hb.trans (hb'.mono hb.size))).1 Try.isAgg22) ?_
            refine plan.Rest.first 2 _ (.int .i64 (k : Int)) rfl (by kernel_rfl) (by kernel_rfl) (by kernel_rfl) (by kernel_rfl) (fun w' hb' => (by kernel_rfl)) ?_
            refine plan.Rest.first 3 _ (.pointer (some ⟨b, off + k * 2, none⟩)) rfl (by kernel_rfl) (by kernel_rfl) (by kernel_rfl) (by kernel_rfl) (fun w' hb' => (exec_indexM (b := b) (off := off) (len := F.length) (cap := cap) (i := k) rfl (by kernel_rfl) (by kernel_rfl) hlt)) ?_
            refine plan.Rest.first 4 _ (.agg #[.int .i64 i, .slice q L.length qc]) rfl (by kernel_rfl) (by kernel_rfl) (by kernel_rfl) (by kernel_rfl) (fun w' hb' => exec_load_at (b := b) (off := off + k * 2) rfl (by kernel_rfl) (HZ.out _ (hb.trans (hb'.mono hb.size))).2 Try.underlying52 rfl info_fm.out) ?_
            refine plan.Rest.call 5 _ 35 #[.agg #[.int .i64 i, .slice q L.length qc]] rfl (by kernel_rfl) (by kernel_rfl) (by kernel_rfl) ((cf wr.drew hb).mono ?_)
            rintro e W1 ⟨rfl, hn⟩
            have hb := hb.trans (hn.mono hb.size)
            refine ⟨_, rfl, hn, ?_⟩
            refine plan.Rest.first 6 _ (.bool false) rfl (by kernel_rfl) (by kernel_rfl) (by kernel_rfl) (by kernel_rfl) (fun w' hb' => (by kernel_rfl)) ?_
            refine plan.Rest.first 7 _ (.bool false) rfl (by kernel_rfl) (by kernel_rfl) (by kernel_rfl) (by kernel_rfl) (fun w' hb' => (by kernel_rfl)) ?_
            refine plan.Rest.first 8 _ (.int .i64 (k : Int)) rfl (by kernel_rfl) (by kernel_rfl) (by kernel_rfl) (by kernel_rfl) (fun w' hb' => (by kernel_rfl)) ?_
            refine plan.Rest.first 9 _ (.bool false) rfl (by kernel_rfl) (by kernel_rfl) (by kernel_rfl) (by kernel_rfl) (fun w' hb' => (exec_gtr_int (n := (k : Int)) (m := 0) rfl (by kernel_rfl) (by kernel_rfl) HGT)) ?_
            refine plan.Rest.first 10 _ (.bool false) rfl (by kernel_rfl) (by kernel_rfl) (by kernel_rfl) (by kernel_rfl) (fun w' hb' => (by kernel_rfl)) ?_
            refine plan.Rest.skip 11 _ rfl (by kernel_rfl) (by kernel_rfl) (by kernel_rfl) (by kernel_rfl) ?_
            refine plan.Rest.skip 12 _ rfl (by kernel_rfl) (by kernel_rfl) (by kernel_rfl) (by kernel_rfl) ?_
            refine plan.Rest.skip 13 _ rfl (by kernel_rfl) (by kernel_rfl) (by kernel_rfl) (by kernel_rfl) ?_
            refine plan.Rest.skip 14 _ rfl (by kernel_rfl) (by kernel_rfl) (by kernel_rfl) (by kernel_rfl) ?_
            refine plan.Rest.skip 15 _ rfl (by kernel_rfl) (by kernel_rfl) (by kernel_rfl) (by kernel_rfl) ?_
            refine plan.Rest.skip 16 _ rfl (by kernel_rfl) (by kernel_rfl) (by kernel_rfl) (by kernel_rfl) ?_
            refine plan.Rest.skip 17 _ rfl (by kernel_rfl) (by kernel_rfl) (by kernel_rfl) (by kernel_rfl) ?_
            refine plan.Rest.skip 18 _ rfl (by kernel_rfl) (by kernel_rfl) (by kernel_rfl) (by kernel_rfl) ?_
            refine plan.Rest.skip 19 _ rfl (by kernel_rfl) (by kernel_rfl) (by kernel_rfl) (by kernel_rfl) ?_
            refine plan.Rest.skip 20 _ rfl (by kernel_rfl) (by kernel_rfl) (by kernel_rfl) (by kernel_rfl) ?_
            refine plan.Rest.skip 21 _ rfl (by kernel_rfl) (by kernel_rfl) (by kernel_rfl) (by kernel_rfl) ?_
            refine plan.Rest.skip 22 _ rfl (by kernel_rfl) (by kernel_rfl) (by kernel_rfl) (by kernel_rfl) ?_
            refine plan.Rest.skip 23 _ rfl (by kernel_rfl) (by kernel_rfl) (by kernel_rfl) (by kernel_rfl) ?_
            refine plan.Rest.skip 24 _ rfl (by kernel_rfl) (by kernel_rfl) (by kernel_rfl) (by kernel_rfl) ?_
            refine plan.Rest.first 25 _ (.bool false) rfl (by kernel_rfl) (by kernel_rfl) (by kernel_rfl) (by kernel_rfl) (fun w' hb' => (by kernel_rfl)) ?_
            refine plan.Rest.first 26 _ (.bool false) rfl (by kernel_rfl) (by kernel_rfl) (by kernel_rfl) (by kernel_rfl) (fun w' hb' => (by kernel_rfl)) ?_
            refine plan.Rest.done (by kernel_rfl) ?_
            walk_nrm
            go_wp2
            exact ⟨⟨k + 1, by omega, by go_num, HOK2, hid (HB.out.trans (hb.mono HB.out.size))⟩, by simp [intOf]; omega⟩
        · obtain ⟨k, rfl⟩ : ∃ j, k = j + 1 := ⟨k - 1, by omega⟩
          clear hk0
          have hlt1 : k < F.length := by omega
          obtain ⟨b', off', p0, hab, hbl', hp0, d0, _, _, _⟩ := form_at HF.out HB.out hlt1
          obtain ⟨rfl, rfl⟩ : b = b' ∧ off = off' := by cases hab; exact ⟨rfl, rfl⟩
          clear hab
          obtain ⟨i0, q0, qc0, L0⟩ := p0
          have HRI2 := hid (rise (x := (i, L)) (forms_at hp0) HOK.out)
          simp only [Fm.p] at HRI2 d0
          have HGT : Hid (decide (((k + 1 : Nat) : Int) > 0) = true) := hid (decide_eq_true (by omega))
          have HZ := hid (fun w' (hb' : Below wr.heap.size wr w') => (⟨by obtain ⟨_, y1, _⟩ := HX.out w' (HB.out.trans (hb'.mono HB.out.size)); exact y1, range_later hR hb' hbl, (hb'.cell (p := ⟨b, off + k * 2, none⟩) hbl).trans d0⟩ : w'.cell? ⟨w.heap.size, 1, none⟩ = some (.slice (some ⟨b, off, none⟩) F.length cap) ∧ w'.rangeAt b (off + (k + 1) * 2) [.int .i64 i, .slice q L.length qc] ∧ w'.cell? ⟨b, off + k * 2, none⟩ = some (.int .i64 i0)))
          clear hp hR c0 c1 hfd hp0 d0
          by_cases hg : i0 ≥ i
          · have HGE : Hid (decide (i0 ≥ i) = true) := hid (decide_eq_true hg)
            obtain rfl : false = r := by rw [← hr.out]; exact (decide_eq_false (fun e => HNO.out (fun e2 => by have := HRI2.out.1 e2.2; omega) (HRI.out.1 e))).symm
            clear hg hf
            go_wp2
            have hb : Below wr.heap.size wr wr.drew := below_drew (Below.refl _ _)
            · refine plan.region (by kernel_rfl) ?_
              refine plan.Rest.first 0 _ (.pointer (some ⟨w.heap.size, 1, none⟩)) rfl (by kernel_rfl) (by kernel_rfl) (by kernel_rfl) (by kernel_rfl) (fun w' hb' => (by kernel_rfl)) ?_
              refine plan.Rest.first 1 _ (.slice (some ⟨b, off, none⟩) F.length cap) rfl (by kernel_rfl) (by kernel_rfl) (by kernel_rfl) (by kernel_rfl) (fun w' hb' => exec_cell_slice (ad := ⟨w.heap.size, 1, none⟩) rfl (by kernel_rfl) (HZ.out _ (hb.trans (hb'.mono hb.size))).1 Try.isAgg22) ?_
              refine plan.Rest.first 2 _ (.int .i64 ((k + 1 : Nat) : Int)) rfl (by kernel_rfl) (by kernel_rfl) (by kernel_rfl) (by kernel_rfl) (fun w' hb' => (by kernel_rfl)) ?_
              refine plan.Rest.first 3 _ (.pointer (some ⟨b, off + (k + 1) * 2, none⟩)) rfl (by kernel_rfl) (by kernel_rfl) (by kernel_rfl) (by kernel_rfl) (fun w' hb' => (exec_indexM (b := b) (off := off) (len := F.length) (cap := cap) (i := (k + 1)) rfl (by kernel_rfl) (by kernel_rfl) hlt)) ?_
              refine plan.Rest.first 4 _ (.agg #[.int .i64 i, .slice q L.length qc]) rfl (by kernel_rfl) (by kernel_rfl) (by kernel_rfl) (by kernel_rfl) (fun w' hb' => exec_load_at (b := b) (off := off + (k + 1) * 2) rfl (by kernel_rfl) (HZ.out _ (hb.trans (hb'.mono hb.size))).2.1 Try.underlying52 rfl info_fm.out) ?_
              refine plan.Rest.call 5 _ 35 #[.agg #[.int .i64 i, .slice q L.length qc]] rfl (by kernel_rfl) (by kernel_rfl) (by kernel_rfl) ((cf wr.drew hb).mono ?_)
              rintro e W1 ⟨rfl, hn⟩
              have hb := hb.trans (hn.mono hb.size)
              refine ⟨_, rfl, hn, ?_⟩
              refine plan.Rest.first 6 _ (.bool false) rfl (by kernel_rfl) (by kernel_rfl) (by kernel_rfl) (by kernel_rfl) (fun w' hb' => (by kernel_rfl)) ?_
              refine plan.Rest.first 7 _ (.bool false) rfl (by kernel_rfl) (by kernel_rfl) (by kernel_rfl) (by kernel_rfl) (fun w' hb' => (by kernel_rfl)) ?_
              refine plan.Rest.first 8 _ (.int .i64 ((k + 1 : Nat) : Int)) rfl (by kernel_rfl) (by kernel_rfl) (by kernel_rfl) (by kernel_rfl) (fun w' hb' => (by kernel_rfl)) ?_
              refine plan.Rest.first 9 _ (.bool true) rfl (by kernel_rfl) (by kernel_rfl) (by kernel_rfl) (by kernel_rfl) (fun w' hb' => (exec_gtr_int (n := ((k + 1 : Nat) : Int)) (m := 0) rfl (by kernel_rfl) (by kernel_rfl) HGT)) ?_
              refine plan.Rest.first 10 _ (.bool true) rfl (by kernel_rfl) (by kernel_rfl) (by kernel_rfl) (by kernel_rfl) (fun w' hb' => (by kernel_rfl)) ?_
              refine plan.Rest.first 11 _ (.pointer (some ⟨w.heap.size, 1, none⟩)) rfl (by kernel_rfl) (by kernel_rfl) (by kernel_rfl) (by kernel_rfl) (fun w' hb' => (by kernel_rfl)) ?_
              refine plan.Rest.first 12 _ (.slice (some ⟨b, off, none⟩) F.length cap) rfl (by kernel_rfl) (by kernel_rfl) (by kernel_rfl) (by kernel_rfl) (fun w' hb' => exec_cell_slice (ad := ⟨w.heap.size, 1, none⟩) rfl (by kernel_rfl) (HZ.out _ (hb.trans (hb'.mono hb.size))).1 Try.isAgg22) ?_
              refine plan.Rest.first 13 _ (.int .i64 ((k + 1 : Nat) : Int)) rfl (by kernel_rfl) (by kernel_rfl) (by kernel_rfl) (by kernel_rfl) (fun w' hb' => (by kernel_rfl)) ?_
              refine plan.Rest.first 14 _ (.int .i64 (k : Int)) rfl (by kernel_rfl) (by kernel_rfl) (by kernel_rfl) (by kernel_rfl) (fun w' hb' => (exec_pred (k := k) rfl (by kernel_rfl) (by kernel_rfl) (by omega))) ?_
              refine plan.Rest.first 15 _ (.pointer (some ⟨b, off + k * 2, none⟩)) rfl (by kernel_rfl) (by kernel_rfl) (by kernel_rfl) (by kernel_rfl) (fun w' hb' => (exec_indexM (b := b) (off := off) (len := F.length) (cap := cap) (i := k) rfl (by kernel_rfl) (by kernel_rfl) hlt1)) ?_
              refine plan.Rest.first 16 _ (.pointer (some ⟨b, off + k * 2, none⟩)) rfl (by kernel_rfl) (by kernel_rfl) (by kernel_rfl) (by kernel_rfl) (fun w' hb' => (by kernel_rfl)) ?_
              refine plan.Rest.first 17 _ (.int .i64 i0) rfl (by kernel_rfl) (by kernel_rfl) (by kernel_rfl) (by kernel_rfl) (fun w' hb' => exec_cell_int (ad := ⟨b, off + k * 2, none⟩) rfl (by kernel_rfl) (HZ.out _ (hb.trans (hb'.mono hb.size))).2.2 Try.isAgg3) ?_
              refine plan.Rest.first 18 _ (.pointer (some ⟨w.heap.size, 1, none⟩)) rfl (by kernel_rfl) (by kernel_rfl) (by kernel_rfl) (by kernel_rfl) (fun w' hb' => (by kernel_rfl)) ?_
              refine plan.Rest.first 19 _ (.slice (some ⟨b, off, none⟩) F.length cap) rfl (by kernel_rfl) (by kernel_rfl) (by kernel_rfl) (by kernel_rfl) (fun w' hb' => exec_cell_slice (ad := ⟨w.heap.size, 1, none⟩) rfl (by kernel_rfl) (HZ.out _ (hb.trans (hb'.mono hb.size))).1 Try.isAgg22) ?_
              refine plan.Rest.first 20 _ (.int .i64 ((k + 1 : Nat) : Int)) rfl (by kernel_rfl) (by kernel_rfl) (by kernel_rfl) (by kernel_rfl) (fun w' hb' => (by kernel_rfl)) ?_
              refine plan.Rest.first 21 _ (.pointer (some ⟨b, off + (k + 1) * 2, none⟩)) rfl (by kernel_rfl) (by kernel_rfl) (by kernel_rfl) (by kernel_rfl) (fun w' hb' => (exec_indexM (b := b) (off := off) (len := F.length) (cap := cap) (i := (k + 1)) rfl (by kernel_rfl) (by kernel_rfl) hlt)) ?_
              refine plan.Rest.first 22 _ (.pointer (some ⟨b, off + (k + 1) * 2, none⟩)) rfl (by kernel_rfl) (by kernel_rfl) (by kernel_rfl) (by kernel_rfl) (fun w' hb' => (by kernel_rfl)) ?_
              refine plan.Rest.first 23 _ (.int .i64 i) rfl (by kernel_rfl) (by kernel_rfl) (by kernel_rfl) (by kernel_rfl) (fun w' hb' => exec_cell_int (ad := ⟨b, off + (k + 1) * 2, none⟩) rfl (by kernel_rfl) ((HZ.out _ (hb.trans (hb'.mono hb.size))).2.1 0 _ rfl) Try.isAgg3) ?_
              refine plan.Rest.first 24 _ (.bool true) rfl (by kernel_rfl) (by kernel_rfl) (by kernel_rfl) (by kernel_rfl) (fun w' hb' => (exec_geq_int (n := i0) (m := i) rfl (by kernel_rfl) (by kernel_rfl) HGE)) ?_
              refine plan.Rest.first 25 _ (.bool true) rfl (by kernel_rfl) (by kernel_rfl) (by kernel_rfl) (by kernel_rfl) (fun w' hb' => (by kernel_rfl)) ?_
              refine plan.Rest.first 26 _ (.bool true) rfl (by kernel_rfl) (by kernel_rfl) (by kernel_rfl) (by kernel_rfl) (fun w' hb' => (by kernel_rfl)) ?_
              refine plan.Rest.done (by kernel_rfl) ?_
              walk_nrm
              go_wp2
              go_ret
              exact ⟨rfl, hbo.trans (hb.mono hbo.size)⟩
          · have HGE : Hid (decide (i0 ≥ i) = false) := hid (decide_eq_false hg)
            have HOK2 : Hid (FineS ((forms F).take (k + 1 + 1))) := hid (HSUC.out.2 ⟨HOK.out, hf, HRI2.out.2 (by omega)⟩)
            clear hg hf
            go_wp2
            have hb : Below wr.heap.size wr wr.drew := below_drew (Below.refl _ _)
            · refine plan.region (by kernel_rfl) ?_
              refine plan.Rest.first 0 _ (.pointer (some ⟨w.heap.size, 1, none⟩)) rfl (by kernel_rfl) (by kernel_rfl) (by kernel_rfl) (by kernel_rfl) (fun w' hb' => (by kernel_rfl)) ?_
              refine plan.Rest.first 1 _ (.slice (some ⟨b, off, none⟩) F.length cap) rfl (by kernel_rfl) (by kernel_rfl) (by kernel_rfl) (by kernel_rfl) (fun w' hb' => exec_cell_slice (ad := ⟨w.heap.size, 1, none⟩) rfl (by kernel_rfl) (HZ.out _ (hb.trans (hb'.mono hb.size))).1 Try.isAgg22) ?_
              refine plan.Rest.first 2 _ (.int .i64 ((k + 1 : Nat) : Int)) rfl (by kernel_rfl) (by kernel_rfl) (by kernel_rfl) (by kernel_rfl) (fun w' hb' => (by kernel_rfl)) ?_
              refine plan.Rest.first 3 _ (.pointer (some ⟨b, off + (k + 1) * 2, none⟩)) rfl (by kernel_rfl) (by kernel_rfl) (by kernel_rfl) (by kernel_rfl) (fun w' hb' => (exec_indexM (b := b) (off := off) (len := F.length) (cap := cap) (i := (k + 1)) rfl (by kernel_rfl) (by kernel_rfl) hlt)) ?_
              refine plan.Rest.first 4 _ (.agg #[.int .i64 i, .slice q L.length qc]) rfl (by kernel_rfl) (by kernel_rfl) (by kernel_rfl) (by kernel_rfl) (fun w' hb' => exec_load_at (b := b) (off := off + (k + 1) * 2) rfl (by kernel_rfl) (HZ.out _ (hb.trans (hb'.mono hb.size))).2.1 Try.underlying52 rfl info_fm.out) ?_
              refine plan.Rest.call 5 _ 35 #[.agg #[.int .i64 i, .slice q L.length qc]] rfl (by kernel_rfl) (by kernel_rfl) (by kernel_rfl) ((cf wr.drew hb).mono ?_)
              rintro e W1 ⟨rfl, hn⟩
              have hb := hb.trans (hn.mono hb.size)
              refine ⟨_, rfl, hn, ?_⟩
              refine plan.Rest.first 6 _ (.bool false) rfl (by kernel_rfl) (by kernel_rfl) (by kernel_rfl) (by kernel_rfl) (fun w' hb' => (by kernel_rfl)) ?_
              refine plan.Rest.first 7 _ (.bool false) rfl (by kernel_rfl) (by kernel_rfl) (by kernel_rfl) (by kernel_rfl) (fun w' hb' => (by kernel_rfl)) ?_
              refine plan.Rest.first 8 _ (.int .i64 ((k + 1 : Nat) : Int)) rfl (by kernel_rfl) (by kernel_rfl) (by kernel_rfl) (by kernel_rfl) (fun w' hb' => (by kernel_rfl)) ?_
              refine plan.Rest.first 9 _ (.bool true) rfl (by kernel_rfl) (by kernel_rfl) (by kernel_rfl) (by kernel_rfl) (fun w' hb' => (exec_gtr_int (n := ((k + 1 : Nat) : Int)) (m := 0) rfl (by kernel_rfl) (by kernel_rfl) HGT)) ?_
              refine plan.Rest.first 10 _ (.bool true) rfl (by kernel_rfl) (by kernel_rfl) (by kernel_rfl) (by kernel_rfl) (fun w' hb' => (by kernel_rfl)) ?_
              refine plan.Rest.first 11 _ (.pointer (some ⟨w.heap.size, 1, none⟩)) rfl (by kernel_rfl) (by kernel_rfl) (by kernel_rfl) (by kernel_rfl) (fun w' hb' => (by kernel_rfl)) ?_
              refine plan.Rest.first 12 _ (.slice (some ⟨b, off, none⟩) F.length cap) rfl (by kernel_rfl) (by kernel_rfl) (by kernel_rfl) (by kernel_rfl) (fun w' hb' => exec_cell_slice (ad := ⟨w.heap.size, 1, none⟩) rfl (by kernel_rfl) (HZ.out _ (hb.trans (hb'.mono hb.size))).1 Try.isAgg22) ?_
              refine plan.Rest.first 13 _ (.int .i64 ((k + 1 : Nat) : Int)) rfl (by kernel_rfl) (by kernel_rfl) (by kernel_rfl) (by kernel_rfl) (fun w' hb' => (by kernel_rfl)) ?_
              refine plan.Rest.first 14 _ (.int .i64 (k : Int)) rfl (by kernel_rfl) (by kernel_rfl) (by kernel_rfl) (by kernel_rfl) (fun w' hb' => (exec_pred (k := k) rfl (by kernel_rfl) (by kernel_rfl) (by omega))) ?_
              refine plan.Rest.first 15 _ (.pointer (some ⟨b, off + k * 2, none⟩)) rfl (by kernel_rfl) (by kernel_rfl) (by kernel_rfl) (by kernel_rfl) (fun w' hb' => (exec_indexM (b := b) (off := off) (len := F.length) (cap := cap) (i := k) rfl (by kernel_rfl) (by kernel_rfl) hlt1)) ?_
              refine plan.Rest.first 16 _ (.pointer (some ⟨b, off + k * 2, none⟩)) rfl (by kernel_rfl) (by kernel_rfl) (by kernel_rfl) (by kernel_rfl) (fun w' hb' => (by kernel_rfl)) ?_
              refine plan.Rest.first 17 _ (.int .i64 i0) rfl (by kernel_rfl) (by kernel_rfl) (by kernel_rfl) (by kernel_rfl) (fun w' hb' => exec_cell_int (ad := ⟨b, off + k * 2, none⟩) rfl (by kernel_rfl) (HZ.out _ (hb.trans (hb'.mono hb.size))).2.2 Try.isAgg3) ?_
              refine plan.Rest.first 18 _ (.pointer (some ⟨w.heap.size, 1, none⟩)) rfl (by kernel_rfl) (by kernel_rfl) (by kernel_rfl) (by kernel_rfl) (fun w' hb' => (by kernel_rfl)) ?_
              refine plan.Rest.first 19 _ (.slice (some ⟨b, off, none⟩) F.length cap) rfl (by kernel_rfl) (by kernel_rfl) (by kernel_rfl) (by kernel_rfl) (fun w' hb' => exec_cell_slice (ad := ⟨w.heap.size, 1, none⟩) rfl (by kernel_rfl) (HZ.out _ (hb.trans (hb'.mono hb.size))).1 Try.isAgg22) ?_
              refine plan.Rest.first 20 _ (.int .i64 ((k + 1 : Nat) : Int)) rfl (by kernel_rfl) (by kernel_rfl) (by kernel_rfl) (by kernel_rfl) (fun w' hb' => (by kernel_rfl)) ?_
              refine plan.Rest.first 21 _ (.pointer (some ⟨b, off + (k + 1) * 2, none⟩)) rfl (by kernel_rfl) (by kernel_rfl) (by kernel_rfl) (by kernel_rfl) (fun w' hb' => (exec_indexM (b := b) (off := off) (len := F.length) (cap := cap) (i := (k + 1)) rfl (by kernel_rfl) (by kernel_rfl) hlt)) ?_
              refine plan.Rest.first 22 _ (.pointer (some ⟨b, off + (k + 1) * 2, none⟩)) rfl (by kernel_rfl) (by kernel_rfl) (by kernel_rfl) (by kernel_rfl) (fun w' hb' => (by kernel_rfl)) ?_
              refine plan.Rest.first 23 _ (.int .i64 i) rfl (by kernel_rfl) (by kernel_rfl) (by kernel_rfl) (by kernel_rfl) (fun w' hb' => exec_cell_int (ad := ⟨b, off + (k + 1) * 2, none⟩) rfl (by kernel_rfl) ((HZ.out _ (hb.trans (hb'.mono hb.size))).2.1 0 _ rfl) Try.isAgg3) ?_
              refine plan.Rest.first 24 _ (.bool false) rfl (by kernel_rfl) (by kernel_rfl) (by kernel_rfl) (by kernel_rfl) (fun w' hb' => (exec_geq_int (n := i0) (m := i) rfl (by kernel_rfl) (by kernel_rfl) HGE)) ?_
              refine plan.Rest.first 25 _ (.bool false) rfl (by kernel_rfl) (by kernel_rfl) (by kernel_rfl) (by kernel_rfl) (fun w' hb' => (by kernel_rfl)) ?_
              refine plan.Rest.first 26 _ (.bool false) rfl (by kernel_rfl) (by kernel_rfl) (by kernel_rfl) (by kernel_rfl) (fun w' hb' => (by kernel_rfl)) ?_
              refine plan.Rest.done (by kernel_rfl) ?_
              walk_nrm
              go_wp2
              exact ⟨⟨k + 1 + 1, by omega, by go_num, HOK2, hid (HB.out.trans (hb.mono HB.out.size))⟩, by simp [intOf]; omega⟩
      · rw [decide_eq_false hf] at cf
        obtain rfl : false = r := by rw [← hr.out]; exact (decide_eq_false (fun e => HNO.out (fun e2 => hf e2.1) (HRI.out.1 e))).symm
        have HZ := hid (fun w' (hb' : Below wr.heap.size wr w') => (⟨by obtain ⟨_, y1, _⟩ := HX.out w' (HB.out.trans (hb'.mono HB.out.size)); exact y1, range_later hR hb' hbl⟩ : w'.cell? ⟨w.heap.size, 1, none⟩ = some (.slice (some ⟨b, off, none⟩) F.length cap) ∧ w'.rangeAt b (off + k * 2) [.int .i64 i, .slice q L.length qc]))
        clear hp hR hf c0 c1 hfd
        go_wp2
        have hb : Below wr.heap.size wr wr.drew := below_drew (Below.refl _ _)
        · refine plan.region (by kernel_rfl) ?_
          refine plan.Rest.first 0 _ (.pointer (some ⟨w.heap.size, 1, none⟩)) rfl (by kernel_rfl) (by kernel_rfl) (by kernel_rfl) (by kernel_rfl) (fun w' hb' => (by kernel_rfl)) ?_
          refine plan.Rest.first 1 _ (.slice (some ⟨b, off, none⟩) F.length cap) rfl (by kernel_rfl) (by kernel_rfl) (by kernel_rfl) (by kernel_rfl) (fun w' hb' => exec_cell_slice (ad := ⟨w.heap.size, 1, none⟩) rfl (by kernel_rfl) (HZ.out _ (hb.trans (hb'.mono hb.size))).1 Try.isAgg22) ?_
          refine plan.Rest.first 2 _ (.int .i64 (k : Int)) rfl (by kernel_rfl) (by kernel_rfl) (by kernel_rfl) (by kernel_rfl) (fun w' hb' => (by kernel_rfl)) ?_
          refine plan.Rest.first 3 _ (.pointer (some ⟨b, off + k * 2, none⟩)) rfl (by kernel_rfl) (by kernel_rfl) (by kernel_rfl) (by kernel_rfl) (fun w' hb' => (exec_indexM (b := b) (off := off) (len := F.length) (cap := cap) (i := k) rfl (by kernel_rfl) (by kernel_rfl) hlt)) ?_
          refine plan.Rest.first 4 _ (.agg #[.int .i64 i, .slice q L.length qc]) rfl (by kernel_rfl) (by kernel_rfl) (by kernel_rfl) (by kernel_rfl) (fun w' hb' => exec_load_at (b := b) (off := off + k * 2) rfl (by kernel_rfl) (HZ.out _ (hb.trans (hb'.mono hb.size))).2 Try.underlying52 rfl info_fm.out) ?_
          refine plan.Rest.call 5 _ 35 #[.agg #[.int .i64 i, .slice q L.length qc]] rfl (by kernel_rfl) (by kernel_rfl) (by kernel_rfl) ((cf wr.drew hb).mono ?_)
          rintro e W1 ⟨rfl, hn⟩
          have hb := hb.trans (hn.mono hb.size)
          refine ⟨_, rfl, hn, ?_⟩
          refine plan.Rest.first 6 _ (.bool true) rfl (by kernel_rfl) (by kernel_rfl) (by kernel_rfl) (by kernel_rfl) (fun w' hb' => (by kernel_rfl)) ?_
          refine plan.Rest.first 7 _ (.bool true) rfl (by kernel_rfl) (by kernel_rfl) (by kernel_rfl) (by kernel_rfl) (fun w' hb' => (by kernel_rfl)) ?_
          refine plan.Rest.skip 8 _ rfl (by kernel_rfl) (by kernel_rfl) (by kernel_rfl) (by kernel_rfl) ?_
          refine plan.Rest.skip 9 _ rfl (by kernel_rfl) (by kernel_rfl) (by kernel_rfl) (by kernel_rfl) ?_
          refine plan.Rest.skip 10 _ rfl (by kernel_rfl) (by kernel_rfl) (by kernel_rfl) (by kernel_rfl) ?_
          refine plan.Rest.skip 11 _ rfl (by kernel_rfl) (by kernel_rfl) (by kernel_rfl) (by kernel_rfl) ?_
          refine plan.Rest.skip 12 _ rfl (by kernel_rfl) (by kernel_rfl) (by kernel_rfl) (by kernel_rfl) ?_
          refine plan.Rest.skip 13 _ rfl (by kernel_rfl) (by kernel_rfl) (by kernel_rfl) (by kernel_rfl) ?_
          refine plan.Rest.skip 14 _ rfl (by kernel_rfl) (by kernel_rfl) (by kernel_rfl) (by kernel_rfl) ?_
          refine plan.Rest.skip 15 _ rfl (by kernel_rfl) (by kernel_rfl) (by kernel_rfl) (by kernel_rfl) ?_
          refine plan.Rest.skip 16 _ rfl (by kernel_rfl) (by kernel_rfl) (by kernel_rfl) (by kernel_rfl) ?_
          refine plan.Rest.skip 17 _ rfl (by kernel_rfl) (by kernel_rfl) (by kernel_rfl) (by kernel_rfl) ?_
          refine plan.Rest.skip 18 _ rfl (by kernel_rfl) (by kernel_rfl) (by kernel_rfl) (by kernel_rfl) ?_
          refine plan.Rest.skip 19 _ rfl (by kernel_rfl) (by kernel_rfl) (by kernel_rfl) (by kernel_rfl) ?_
          refine plan.Rest.skip 20 _ rfl (by kernel_rfl) (by kernel_rfl) (by kernel_rfl) (by kernel_rfl) ?_
          refine plan.Rest.skip 21 _ rfl (by kernel_rfl) (by kernel_rfl) (by kernel_rfl) (by kernel_rfl) ?_
          refine plan.Rest.skip 22 _ rfl (by kernel_rfl) (by kernel_rfl) (by kernel_rfl) (by kernel_rfl) ?_
          refine plan.Rest.skip 23 _ rfl (by kernel_rfl) (by kernel_rfl) (by kernel_rfl) (by kernel_rfl) ?_
          refine plan.Rest.skip 24 _ rfl (by kernel_rfl) (by kernel_rfl) (by kernel_rfl) (by kernel_rfl) ?_
          refine plan.Rest.skip 25 _ rfl (by kernel_rfl) (by kernel_rfl) (by kernel_rfl) (by kernel_rfl) ?_
          refine plan.Rest.first 26 _ (.bool true) rfl (by kernel_rfl) (by kernel_rfl) (by kernel_rfl) (by kernel_rfl) (fun w' hb' => (by kernel_rfl)) ?_
          refine plan.Rest.done (by kernel_rfl) ?_
          walk_nrm
          go_wp2
          go_ret
          exact ⟨rfl, hbo.trans (hb.mono hbo.size)⟩
    · obtain rfl : k = F.length := by omega
      obtain rfl : true = r := by rw [← hr.out]; have := HOK.out; rw [List.take_of_length_le (by rw [HL.out]; exact Nat.le_refl _)] at this; exact (decide_eq_true (HRI.out.2 this)).symm
      go_wp2
      go_ret
      exact ⟨rfl, hbo⟩
end Go.Proofs.Ytiajpjkkopdmgaa.schema
/- TypingRight returns true. No condition. -/
namespace Go.Proofs.Ytiajpjkkopdmgaa.typingRight
open Go.RowKit Go.Proofs.Ytiajpjkkopdmgaa.schema Go.Proofs.Ytiajpjkkopdmgaa.typing
open Go.Proofs.Ytiajpjkkopdmgaa.field (Gives newB gives_from)
open Go.Proofs.Ytiajpjkkopdmgaa.step (Lists St Sts StL sps GreatL great_not)
set_option linter.unusedVariables false

/-- Print writes bytes that follow from the schema alone -/
def PrintAs (Y : List Nat) (w : World) (e : Ending) (w' : World) : Prop := ∃ b c k, e = .returned (.tuple #[.slice b Y.length c, .int .i64 k]) ∧ Reads .u8 w' b Y.length Y ∧ Below w.heap.size w w'
theorem print_both (v : Int) (a : Option Addr) (cap : Nat) (F : List Fm) (w : World) (h : FmL w a F) (hF : F.length ≤ maxLen) : ∃ Y, ∀ w', Below w.heap.size w w' → Calls Try.prog 13 #[.agg #[.int .i64 v, .slice a F.length cap]] w' (PrintAs Y w') := by
  by_cases hr : Right v (forms F)
  · refine ⟨schemaB v (forms F), fun w' hb => (print_yes v a cap F w' (h.below hb) hr).mono ?_⟩
    rintro e w2 ⟨u, rfl, ho, hb2⟩
    obtain ⟨b, c, rfl, _⟩ := ownsRow_slice ho
    exact ⟨b, c, 0, rfl, Reads.own ho, hb2⟩
  · refine ⟨[], fun w' hb => (print_no v a cap F w' (h.below hb) hF hr).mono ?_⟩
    rintro e w2 ⟨rfl, hb2⟩
    exact ⟨none, 0, 2, rfl, Reads.nil, hb2⟩
theorem exec_lss_int {o : Oper} {a : Act} {w : World} {x y : Operand} {t' : TypeId} {n m : Int} {r : Bool} (ho : o.op = .binOp .lss 3 x y t') (hx : a.eval x = .int .i64 n) (hy : a.eval y = .int .i64 m) (h : Hid (decide (n < m) = r)) : (execOp a.eval o).run Try.prog w = .ok (.value (.bool r)) w :=
  exec_two ho hx hy (by simp [go_sem]) (by rw [← h.out]; simp [go_sem])
set_option maxRecDepth 20000 in
set_option maxHeartbeats 3200000 in
theorem walk0 (v : Int) (sa : Option Addr) (sc : Nat) (F : List Fm) (s : step.Sp) (ta : Option Addr) (tc : Nat) (la : Option Addr) (lc : Nat) (w : World) (h : FmL w sa F) (hF : F.length ≤ maxLen) (hl : Lists w s ta la) :
    Calls Try.prog 5 #[.agg #[.int .i64 v, .slice sa F.length sc], .agg #[.int .i64 s.op, .int .i64 s.fm, .int .i64 s.fd, .int .i64 s.pl, .int .i64 s.tt, .int .i64 s.a, .int .i64 s.b, .int .i64 s.f.id, .int .i64 s.f.kind, .int .i64 s.f.lo, .int .i64 s.f.hi, .int .i64 s.f.most, .int .i64 s.v.n, .string s.v.s, .slice ta s.t.length tc, .slice la s.l.length lc]] w (Yes w) := by
  have hml : (F.length : Int) ≤ 9223372036854775807 := by unfold maxLen at hF; omega
  have hw : Below w.heap.size w ((w.alloc (.cells #[.int .i64 v, .slice sa F.length sc] 24)).alloc (.cells #[.int .i64 s.op, .int .i64 s.fm, .int .i64 s.fd, .int .i64 s.pl, .int .i64 s.tt, .int .i64 s.a, .int .i64 s.b, .int .i64 s.f.id, .int .i64 s.f.kind, .int .i64 s.f.lo, .int .i64 s.f.hi, .int .i64 s.f.most, .int .i64 s.v.n, .string s.v.s, .slice ta s.t.length tc, .slice la s.l.length lc] 32)) := by
    have h1 := newB w (.cells #[.int .i64 v, .slice sa F.length sc] 24)
    exact h1.alloc h1.size _
  have hA : Block ((w.alloc (.cells #[.int .i64 v, .slice sa F.length sc] 24)).alloc (.cells #[.int .i64 s.op, .int .i64 s.fm, .int .i64 s.fd, .int .i64 s.pl, .int .i64 s.tt, .int .i64 s.a, .int .i64 s.b, .int .i64 s.f.id, .int .i64 s.f.kind, .int .i64 s.f.lo, .int .i64 s.f.hi, .int .i64 s.f.most, .int .i64 s.v.n, .string s.v.s, .slice ta s.t.length tc, .slice la s.l.length lc] 32)) w.heap.size 24 [.int .i64 v, .slice sa F.length sc] := (Block.new w _ _).alloc _
  have hU : Block ((w.alloc (.cells #[.int .i64 v, .slice sa F.length sc] 24)).alloc (.cells #[.int .i64 s.op, .int .i64 s.fm, .int .i64 s.fd, .int .i64 s.pl, .int .i64 s.tt, .int .i64 s.a, .int .i64 s.b, .int .i64 s.f.id, .int .i64 s.f.kind, .int .i64 s.f.lo, .int .i64 s.f.hi, .int .i64 s.f.most, .int .i64 s.v.n, .string s.v.s, .slice ta s.t.length tc, .slice la s.l.length lc] 32)) (w.heap.size + 1) 32 [.int .i64 s.op, .int .i64 s.fm, .int .i64 s.fd, .int .i64 s.pl, .int .i64 s.tt, .int .i64 s.a, .int .i64 s.b, .int .i64 s.f.id, .int .i64 s.f.kind, .int .i64 s.f.lo, .int .i64 s.f.hi, .int .i64 s.f.most, .int .i64 s.v.n, .string s.v.s, .slice ta s.t.length tc, .slice la s.l.length lc] := by
    have := Block.new ((w.alloc (.cells #[.int .i64 v, .slice sa F.length sc] 24))) 32 [.int .i64 s.op, .int .i64 s.fm, .int .i64 s.fd, .int .i64 s.pl, .int .i64 s.tt, .int .i64 s.a, .int .i64 s.b, .int .i64 s.f.id, .int .i64 s.f.kind, .int .i64 s.f.lo, .int .i64 s.f.hi, .int .i64 s.f.most, .int .i64 s.v.n, .string s.v.s, .slice ta s.t.length tc, .slice la s.l.length lc]
    simpa using this
  have hsz : ((w.alloc (.cells #[.int .i64 v, .slice sa F.length sc] 24)).alloc (.cells #[.int .i64 s.op, .int .i64 s.fm, .int .i64 s.fd, .int .i64 s.pl, .int .i64 s.tt, .int .i64 s.a, .int .i64 s.b, .int .i64 s.f.id, .int .i64 s.f.kind, .int .i64 s.f.lo, .int .i64 s.f.hi, .int .i64 s.f.most, .int .i64 s.v.n, .string s.v.s, .slice ta s.t.length tc, .slice la s.l.length lc] 32)).heap.size = w.heap.size + 1 + 1 := by simp
  obtain ⟨W0, hW0⟩ : ∃ x, (w.alloc (.cells #[.int .i64 v, .slice sa F.length sc] 24)).alloc (.cells #[.int .i64 s.op, .int .i64 s.fm, .int .i64 s.fd, .int .i64 s.pl, .int .i64 s.tt, .int .i64 s.a, .int .i64 s.b, .int .i64 s.f.id, .int .i64 s.f.kind, .int .i64 s.f.lo, .int .i64 s.f.hi, .int .i64 s.f.most, .int .i64 s.v.n, .string s.v.s, .slice ta s.t.length tc, .slice la s.l.length lc] 32) = x := ⟨_, rfl⟩
  have HW0 := hid hW0
  rw [hW0] at hA hU hw hsz
  have hf0 := h.below hw
  have hl0 := hl.below hw
  have bR := newB W0 (.cells #[.int .i64 s.op, .int .i64 s.fm, .int .i64 s.fd, .int .i64 s.pl, .int .i64 s.tt, .int .i64 s.a, .int .i64 s.b, .int .i64 s.f.id, .int .i64 s.f.kind, .int .i64 s.f.lo, .int .i64 s.f.hi, .int .i64 s.f.most, .int .i64 s.v.n, .string s.v.s, .slice ta s.t.length tc, .slice la s.l.length lc] 32)
  have hSL : StL (W0.alloc (.cells #[.int .i64 s.op, .int .i64 s.fm, .int .i64 s.fd, .int .i64 s.pl, .int .i64 s.tt, .int .i64 s.a, .int .i64 s.b, .int .i64 s.f.id, .int .i64 s.f.kind, .int .i64 s.f.lo, .int .i64 s.f.hi, .int .i64 s.f.most, .int .i64 s.v.n, .string s.v.s, .slice ta s.t.length tc, .slice la s.l.length lc] 32)) (some ⟨W0.heap.size, 0, none⟩) [⟨s, ta, tc, la, lc⟩] := ⟨one_list ⟨s, ta, tc, la, lc⟩ W0 32, fun p hp => by rw [List.mem_singleton.1 hp]; exact hl0.below bR⟩
  obtain ⟨W1, hW1⟩ : ∃ x, W0.alloc (.cells #[.int .i64 s.op, .int .i64 s.fm, .int .i64 s.fd, .int .i64 s.pl, .int .i64 s.tt, .int .i64 s.a, .int .i64 s.b, .int .i64 s.f.id, .int .i64 s.f.kind, .int .i64 s.f.lo, .int .i64 s.f.hi, .int .i64 s.f.most, .int .i64 s.v.n, .string s.v.s, .slice ta s.t.length tc, .slice la s.l.length lc] 32) = x := ⟨_, rfl⟩
  have HW1 := hid hW1
  rw [hW1] at hSL bR
  have cG := great_any v sa sc F (some ⟨W0.heap.size, 0, none⟩) 1 [⟨s, ta, tc, la, lc⟩] W1 (hf0.below bR) hF hSL (by unfold maxLen; simp)
  obtain ⟨g, hg⟩ : ∃ g : Bool, (greatB (forms F) || decide (GreatL (sps [⟨s, ta, tc, la, lc⟩]))) = g := ⟨_, rfl⟩
  rw [hg] at cG
  replace cG : Calls Try.prog 6 #[.agg #[.int .i64 v, .slice sa F.length sc], .slice (some ⟨w.heap.size + 1 + 1, 0, none⟩) 1 1] W1 (Gives (.bool g) W1) := by rw [← hsz]; exact cG
  have HX : Hid (∀ w', Below W0.heap.size W0 w' → Block w' w.heap.size 24 [.int .i64 v, .slice sa F.length sc] ∧ Block w' (w.heap.size + 1) 32 [.int .i64 s.op, .int .i64 s.fm, .int .i64 s.fd, .int .i64 s.pl, .int .i64 s.tt, .int .i64 s.a, .int .i64 s.b, .int .i64 s.f.id, .int .i64 s.f.kind, .int .i64 s.f.lo, .int .i64 s.f.hi, .int .i64 s.f.most, .int .i64 s.v.n, .string s.v.s, .slice ta s.t.length tc, .slice la s.l.length lc] ∧ Below w.heap.size w w') := hid (fun w' hb => ⟨hA.later hb, hU.later hb, hw.trans (hb.mono hw.size)⟩)
  have HBR := hid bR
  have HIS : Hid ((Try.prog.info? 32).map (·.size) = some ([.int .i64 s.op, .int .i64 s.fm, .int .i64 s.fd, .int .i64 s.pl, .int .i64 s.tt, .int .i64 s.a, .int .i64 s.b, .int .i64 s.f.id, .int .i64 s.f.kind, .int .i64 s.f.lo, .int .i64 s.f.hi, .int .i64 s.f.most, .int .i64 s.v.n, .string s.v.s, .slice ta s.t.length tc, .slice la s.l.length lc] : List Value).length) := hid st_info
  have cA := fun w' => awake_any w'
  clear hW0 hW1
  unfold Yes at cA ⊢
  unfold Gives at cG
  cases g
  rotate_left
  · clear h hl hA hU hw hsz hf0 hl0 bR hSL hg hF
    rw [← HW1.out, ← HW0.out] at cG
    go_enter Try.func5, Try.ntmps5
    go_wp2_with (first
      | (go_at_call 6; ((with_reducible refine cG.mono ?_); clear cG; rintro e w1 ⟨rfl, hb1⟩; rw [HW0.out, HW1.out] at hb1))
      | (go_at_call 7; ((with_reducible refine (cA _).mono ?_); rintro e w8 ⟨rfl, hb8⟩)))
    go_ret
    exact ⟨rfl, (HX.out _ (HBR.out.trans ((hb1.trans (hb8.mono hb1.size)).mono HBR.out.size))).2.2⟩
  obtain ⟨hsm, hll⟩ := small_of h hg
  have hl4 : s.l.length ≤ 40 := hll ⟨s, ta, tc, la, lc⟩ (by simp)
  obtain ⟨Y, cP⟩ := print_both v sa sc F W0 hf0 hF
  have cO := fun (w' : World) (hb : Below W0.heap.size W0 w') => on_any v sa sc F s ta tc la lc w' (hf0.below hb) ((hsm.below hw).below hb) (hl0.below hb) hl4
  have hok := fun h0 => on_ok (v := v) (F := forms F) (s := s) h0
  have hbad := fun h0 => on_bad (v := v) (F := forms F) (s := s) h0
  generalize on v (forms F) s = R at cO hok hbad
  obtain ⟨v', P, n⟩ := R
  simp only at hok hbad
  unfold OnAs at cO
  unfold PrintAs at cP
  have HF := hid hf0
  clear h hl hA hU hw hsz hf0 hl0 bR hSL hg hsm hll hl4
  rw [← HW1.out, ← HW0.out] at cG
  by_cases hn : n = 0
  · obtain ⟨_, hv, hR, hK⟩ := hok hn
    subst hv hn
    have HR := hid hR
    have HK := hid hK
    clear hok hbad hR hK
    go_enter Try.func5, Try.ntmps5
    go_wp2_with (first
      | (go_at_call 6; ((with_reducible refine cG.mono ?_); clear cG; rintro e w1 ⟨rfl, hb1⟩; rw [HW0.out, HW1.out] at hb1; have hB1 := HBR.out.trans (hb1.mono HBR.out.size); obtain ⟨k0, k1, hbw1⟩ := HX.out _ hB1; have z0 := k0.cell 0; have z1 := k0.cell 1; clear k0 k1 hb1))
      | (go_at_call 13; ((with_reducible refine (cP _ hB1).mono ?_); rintro e w2 ⟨b2, c2, k2, rfl, hr2, hb2⟩; have hB2 := hB1.trans (hb2.mono hB1.size); obtain ⟨k0, k1, hbw2⟩ := HX.out _ hB2; have z0 := k0.cell 0; have z1 := k0.cell 1; have K1 := hid k1; clear k0 k1))
      | (with_reducible refine wpList_load_mid rfl 32 (.tmp 3) rfl (w.heap.size + 1) 0 rfl [.int .i64 s.op, .int .i64 s.fm, .int .i64 s.fd, .int .i64 s.pl, .int .i64 s.tt, .int .i64 s.a, .int .i64 s.b, .int .i64 s.f.id, .int .i64 s.f.kind, .int .i64 s.f.lo, .int .i64 s.f.hi, .int .i64 s.f.most, .int .i64 s.v.n, .string s.v.s, .slice ta s.t.length tc, .slice la s.l.length lc] _ K1.out.whole Try.underlying32 rfl HIS.out ?_)
      | (go_at_call 8; ((with_reducible refine (cO _ hB2).mono ?_); rintro e w3 ⟨x, xc, G, rfl, hG, hfo, hb3⟩; have hB3 := hB2.trans (hb3.mono hB2.size); have hN3 := newB w3 (.cells #[.int .i64 v', .slice x G.length xc] 24); have hB4 := hB3.trans (hN3.mono hB3.size); have hr4 := (hr2.below hb3).below hN3; obtain ⟨k0, k1, hbw4⟩ := HX.out _ hB4; have z0 := k0.cell 0; have z1 := k0.cell 1; have KX := hid (Block.new w3 24 [.int .i64 v', .slice x G.length xc]); have HG := hid (hG.below hN3); have HGL : Hid (G.length ≤ maxLen) := hid (by have h8 := HR.out.2.1; rw [← hfo, forms_length] at h8; unfold maxLen; omega); have HFO := hid hfo; clear k0 k1 hr2 hG hfo))
      | (go_at_call 13; ((with_reducible refine (cP _ hB4).mono ?_); rintro e w5 ⟨b5, c5, k5, rfl, hr5, hb5⟩; have hB5 := hB4.trans (hb5.mono hB4.size); have hr6 := hr4.below hb5; have hcv2 := Reads.str (P := Try.prog) hr6 47 5 Try.underlying47 Try.underlying5 c2 9 Try.underlying9; have hcv5 := Reads.str (P := Try.prog) hr5 47 5 Try.underlying47 Try.underlying5 c5 9 Try.underlying9; obtain ⟨k0, k1, hbw5⟩ := HX.out _ hB5; have z0 := k0.cell 0; have z1 := k0.cell 1; have kx := KX.out.later hb5; have x0 := kx.cell 0; have x1 := kx.cell 1; clear k0 k1 kx hr4))
      | (go_at_call 14; ((with_reducible refine (refRight_any v' x xc G _ (HG.out.below hb5) HGL.out).mono ?_); unfold Gives; rw [decide_eq_true (show Right v' (forms G) by rw [HFO.out]; exact HR.out)]; rintro e w6 ⟨rfl, hb6⟩; have hB6 := hB5.trans (hb6.mono hB5.size); obtain ⟨k0, k1, hbw6⟩ := HX.out _ hB6; have z0 := k0.cell 0; have z1 := k0.cell 1; have kx6 := (KX.out.later hb5).later hb6; have x0 := kx6.cell 0; have x1 := kx6.cell 1; have KX6 := hid kx6; clear k0 k1 kx6)))
    have HG6 := hid ((HG.out.below hb5).below hb6)
    have hgl := HGL.out
    have HF6 := hid (HF.out.below hB6)
    have HX6 : Hid (∀ w', Below w6.heap.size w6 w' → Block w' w.heap.size 24 [.int .i64 v', .slice sa F.length sc] ∧ Block w' (w.heap.size + 1) 32 [.int .i64 s.op, .int .i64 s.fm, .int .i64 s.fd, .int .i64 s.pl, .int .i64 s.tt, .int .i64 s.a, .int .i64 s.b, .int .i64 s.f.id, .int .i64 s.f.kind, .int .i64 s.f.lo, .int .i64 s.f.hi, .int .i64 s.f.most, .int .i64 s.v.n, .string s.v.s, .slice ta s.t.length tc, .slice la s.l.length lc] ∧ Block w' w3.heap.size 24 [.int .i64 v', .slice x G.length xc] ∧ Below w.heap.size w w') := hid (fun w' hb => by
      obtain ⟨k0, k1, k2⟩ := HX.out _ (hB6.trans (hb.mono hB6.size))
      exact ⟨k0, k1, KX6.out.later hb, k2⟩)
    have HML := hid hml
    clear hml z0 z1 x0 x1 hcv2 hcv5 hr5 hr6 hgl
    have z0 := (HX6.out _ (Below.refl _ _)).1.cell 0
    go_loopw [11] (fun n wr => ∃ k : Nat, k ≤ F.length ∧ n = .int .i64 (k : Int) ∧ Hid (Below w6.heap.size w6 wr)) (fun n _ => F.length - (intOf n).toNat)
    case atStart => exact ⟨0, Nat.zero_le _, rfl, hid (Below.refl _ _)⟩
    case round =>
      obtain ⟨k, hk, rfl, HB⟩ := hrel
      obtain ⟨k0, k1, kx, hbo⟩ := HX6.out _ HB.out
      have z0 := k0.cell 0
      have z1 := k0.cell 1
      have hml := HML.out
      by_cases hlt : k < F.length
      · obtain ⟨b, off, p, rfl, hbl, hp, c0, c1, hfp, hlp⟩ := form_at HF6.out HB.out hlt
        have i1 : (k : Int) < F.length := by omega
        have hN := newB wr (.cells #[.int .i64 p.id, .slice p.f p.fL.length p.fCap] 52)
        have hBN := HB.out.trans (hN.mono HB.out.size)
        have kf := Block.new wr 52 [.int .i64 p.id, .slice p.f p.fL.length p.fCap]
        have kx' := kx.later hN
        have x0 := kx'.cell 0
        have x1 := kx'.cell 1
        have kk' := k1.later hN
        have hfp' := hfp.below hN
        have HG' := hid (HG6.out.below hBN)
        have cFi := refFind_any v' x xc G p.id _ HG'.out HGL.out
        have hpm : p.p ∈ forms F := List.mem_map_of_mem (List.mem_of_getElem? hp)
        obtain ⟨W, hW⟩ : ∃ W, wr.alloc (.cells #[.int .i64 p.id, .slice p.f p.fL.length p.fCap] 52) = W := ⟨_, rfl⟩
        by_cases hpi : p.id = s.fm
        · have HNE : Hid ((p.id != s.fm) = false) := hid (by simp [hpi])
          obtain ⟨kk, hkk⟩ : ∃ kk, firstAt (fids G) p.id = kk := ⟨_, rfl⟩
          rw [hkk] at cFi
          rw [hW] at kf kk' hBN
          have HZ : Hid (∀ w', Below W.heap.size W w' → Block w' wr.heap.size 52 [.int .i64 p.id, .slice p.f p.fL.length p.fCap] ∧ w'.cell? ⟨w.heap.size + 1, 1, none⟩ = some (.int .i64 s.fm)) := hid (fun w' hb => ⟨kf.later hb, (kk'.later hb).cell 1⟩)
          have HBN := hid hBN
          have HW := hid hW
          clear hW kf kk' hBN kx kx' k0 k1 hfp hfp' hp hpm hpi hkk hN
          unfold Gives at cFi
          go_wp2_with (go_at_call 15; ((with_reducible refine cFi.mono ?_); rintro e w12 ⟨rfl, hb12⟩))
          have hb : Below W.heap.size W w12.drew := by rw [HW.out] at hb12; exact below_drewN hb12 1
          refine plan.region (by kernel_rfl) ?_
          refine plan.Rest.first 0 _ (.pointer (some ⟨wr.heap.size, 0, none⟩)) rfl (by kernel_rfl) (by kernel_rfl) (by kernel_rfl) (by kernel_rfl) (fun w' hb' => (by kernel_rfl)) ?_
          refine plan.Rest.first 1 _ (.int .i64 p.id) rfl (by kernel_rfl) (by kernel_rfl) (by kernel_rfl) (by kernel_rfl) (fun w' hb' => exec_cell_int (ad := ⟨wr.heap.size, 0, none⟩) rfl (by kernel_rfl) ((HZ.out _ (hb.trans (hb'.mono hb.size))).1.cell 0) Try.isAgg3) ?_
          refine plan.Rest.first 2 _ (.pointer (some ⟨w.heap.size + 1, 1, none⟩)) rfl (by kernel_rfl) (by kernel_rfl) (by kernel_rfl) (by kernel_rfl) (fun w' hb' => (by kernel_rfl)) ?_
          refine plan.Rest.first 3 _ (.int .i64 s.fm) rfl (by kernel_rfl) (by kernel_rfl) (by kernel_rfl) (by kernel_rfl) (fun w' hb' => exec_cell_int (ad := ⟨w.heap.size + 1, 1, none⟩) rfl (by kernel_rfl) (HZ.out _ (hb.trans (hb'.mono hb.size))).2 Try.isAgg3) ?_
          refine plan.Rest.first 4 _ (.bool false) rfl (by kernel_rfl) (by kernel_rfl) (by kernel_rfl) (by kernel_rfl) (fun w' hb' => (exec_neq_int (n := p.id) (m := s.fm) rfl (by kernel_rfl) (by kernel_rfl) HNE)) ?_
          refine plan.Rest.first 5 _ (.bool false) rfl (by kernel_rfl) (by kernel_rfl) (by kernel_rfl) (by kernel_rfl) (fun w' hb' => (by kernel_rfl)) ?_
          refine plan.Rest.skip 6 _ rfl (by kernel_rfl) (by kernel_rfl) (by kernel_rfl) (by kernel_rfl) ?_
          refine plan.Rest.skip 7 _ rfl (by kernel_rfl) (by kernel_rfl) (by kernel_rfl) (by kernel_rfl) ?_
          refine plan.Rest.skip 8 _ rfl (by kernel_rfl) (by kernel_rfl) (by kernel_rfl) (by kernel_rfl) ?_
          refine plan.Rest.skip 9 _ rfl (by kernel_rfl) (by kernel_rfl) (by kernel_rfl) (by kernel_rfl) ?_
          refine plan.Rest.skip 10 _ rfl (by kernel_rfl) (by kernel_rfl) (by kernel_rfl) (by kernel_rfl) ?_
          refine plan.Rest.skip 11 _ rfl (by kernel_rfl) (by kernel_rfl) (by kernel_rfl) (by kernel_rfl) ?_
          refine plan.Rest.skip 12 _ rfl (by kernel_rfl) (by kernel_rfl) (by kernel_rfl) (by kernel_rfl) ?_
          refine plan.Rest.skip 13 _ rfl (by kernel_rfl) (by kernel_rfl) (by kernel_rfl) (by kernel_rfl) ?_
          refine plan.Rest.skip 14 _ rfl (by kernel_rfl) (by kernel_rfl) (by kernel_rfl) (by kernel_rfl) ?_
          refine plan.Rest.skip 15 _ rfl (by kernel_rfl) (by kernel_rfl) (by kernel_rfl) (by kernel_rfl) ?_
          refine plan.Rest.skip 16 _ rfl (by kernel_rfl) (by kernel_rfl) (by kernel_rfl) (by kernel_rfl) ?_
          refine plan.Rest.skip 17 _ rfl (by kernel_rfl) (by kernel_rfl) (by kernel_rfl) (by kernel_rfl) ?_
          refine plan.Rest.first 18 _ (.bool false) rfl (by kernel_rfl) (by kernel_rfl) (by kernel_rfl) (by kernel_rfl) (fun w' hb' => (by kernel_rfl)) ?_
          refine plan.Rest.done (by kernel_rfl) ?_
          walk_nrm
          go_wp2
          exact ⟨⟨k + 1, by omega, by go_num, hid (HBN.out.trans (hb.mono HBN.out.size))⟩, by simp [intOf]; omega⟩
        · have HNE : Hid ((p.id != s.fm) = true) := hid (by simpa using hpi)
          have hmG : p.p ∈ forms G := by rw [HFO.out]; exact HK.out p.p hpm hpi
          have hRG : Right v' (forms G) := by rw [HFO.out]; exact HR.out
          obtain ⟨hge, hat⟩ := right_at hRG hmG
          rw [show p.p.1 = p.id from rfl, ← fids_forms] at hge hat
          obtain ⟨j, hj⟩ := Int.eq_ofNat_of_zero_le hge
          rw [hj] at cFi hat
          have hjl : j < G.length := by have := (List.getElem?_eq_some_iff.1 hat).1; rw [forms_length] at this; simpa using this
          obtain ⟨gb, goff, q, rfl, hgb, hq, d0, d1, hfq, hlq⟩ := form_at HG'.out (Below.refl _ _) hjl
          have hqp : q.p = p.p := by have := forms_at hq; rw [show (Int.toNat (j : Int)) = j from rfl, this] at hat; exact Option.some.inj hat
          have HGE : Hid (decide ((j : Int) < 0) = false) := hid (by simp)
          rw [hW] at kf kk' kx' hBN hfp' hgb hfq d0 d1
          have cSF := fun (w' : World) (hb : Below W.heap.size W w') => refSameForm_any p.id p.f p.fCap p.fL q.id q.f q.fCap q.fL w' (hfp'.below hb) (hfq.below hb) hlp hlq
          rw [decide_eq_true (show (p.id, p.fL) = (q.id, q.fL) from hqp.symm)] at cSF
          have HZ : Hid (∀ w', Below W.heap.size W w' → Block w' wr.heap.size 52 [.int .i64 p.id, .slice p.f p.fL.length p.fCap] ∧ w'.cell? ⟨w.heap.size + 1, 1, none⟩ = some (.int .i64 s.fm) ∧ w'.cell? ⟨w3.heap.size, 1, none⟩ = some (.slice (some ⟨gb, goff, none⟩) G.length xc) ∧ w'.rangeAt gb (goff + j * 2) [.int .i64 q.id, .slice q.f q.fL.length q.fCap]) := hid (fun w' hb => ⟨kf.later hb, (kk'.later hb).cell 1, (kx'.later hb).cell 1, range_later (range2 d0 d1) hb hgb⟩)
          have HBN := hid hBN
          have HW := hid hW
          clear hW kf kk' hBN kx kx' k0 k1 hfp hfp' hp hpm hpi hN hmG hRG hge hat hj hq hqp d0 d1 hfq hgb
          unfold Gives at cFi cSF
          go_wp2_with (go_at_call 15; ((with_reducible refine cFi.mono ?_); rintro e w12 ⟨rfl, hb12⟩))
          have hb : Below W.heap.size W w12.drew := by rw [HW.out] at hb12; exact below_drewN hb12 1
          refine plan.region (by kernel_rfl) ?_
          refine plan.Rest.first 0 _ (.pointer (some ⟨wr.heap.size, 0, none⟩)) rfl (by kernel_rfl) (by kernel_rfl) (by kernel_rfl) (by kernel_rfl) (fun w' hb' => (by kernel_rfl)) ?_
          refine plan.Rest.first 1 _ (.int .i64 p.id) rfl (by kernel_rfl) (by kernel_rfl) (by kernel_rfl) (by kernel_rfl) (fun w' hb' => exec_cell_int (ad := ⟨wr.heap.size, 0, none⟩) rfl (by kernel_rfl) ((HZ.out _ (hb.trans (hb'.mono hb.size))).1.cell 0) Try.isAgg3) ?_
          refine plan.Rest.first 2 _ (.pointer (some ⟨w.heap.size + 1, 1, none⟩)) rfl (by kernel_rfl) (by kernel_rfl) (by kernel_rfl) (by kernel_rfl) (fun w' hb' => (by kernel_rfl)) ?_
          refine plan.Rest.first 3 _ (.int .i64 s.fm) rfl (by kernel_rfl) (by kernel_rfl) (by kernel_rfl) (by kernel_rfl) (fun w' hb' => exec_cell_int (ad := ⟨w.heap.size + 1, 1, none⟩) rfl (by kernel_rfl) (HZ.out _ (hb.trans (hb'.mono hb.size))).2.1 Try.isAgg3) ?_
          refine plan.Rest.first 4 _ (.bool true) rfl (by kernel_rfl) (by kernel_rfl) (by kernel_rfl) (by kernel_rfl) (fun w' hb' => (exec_neq_int (n := p.id) (m := s.fm) rfl (by kernel_rfl) (by kernel_rfl) HNE)) ?_
          refine plan.Rest.first 5 _ (.bool true) rfl (by kernel_rfl) (by kernel_rfl) (by kernel_rfl) (by kernel_rfl) (fun w' hb' => (by kernel_rfl)) ?_
          refine plan.Rest.first 6 _ (.int .i64 (j : Int)) rfl (by kernel_rfl) (by kernel_rfl) (by kernel_rfl) (by kernel_rfl) (fun w' hb' => (by kernel_rfl)) ?_
          refine plan.Rest.first 7 _ (.bool false) rfl (by kernel_rfl) (by kernel_rfl) (by kernel_rfl) (by kernel_rfl) (fun w' hb' => (exec_lss_int (n := (j : Int)) (m := 0) rfl (by kernel_rfl) (by kernel_rfl) HGE)) ?_
          refine plan.Rest.first 8 _ (.bool false) rfl (by kernel_rfl) (by kernel_rfl) (by kernel_rfl) (by kernel_rfl) (fun w' hb' => (by kernel_rfl)) ?_
          refine plan.Rest.first 9 _ (.agg #[.int .i64 p.id, .slice p.f p.fL.length p.fCap]) rfl (by kernel_rfl) (by kernel_rfl) (by kernel_rfl) (by kernel_rfl) (fun w' hb' => exec_load_at (b := wr.heap.size) (off := 0) rfl (by kernel_rfl) (HZ.out _ (hb.trans (hb'.mono hb.size))).1.whole Try.underlying52 rfl info_fm.out) ?_
          refine plan.Rest.first 10 _ (.pointer (some ⟨w3.heap.size, 1, none⟩)) rfl (by kernel_rfl) (by kernel_rfl) (by kernel_rfl) (by kernel_rfl) (fun w' hb' => (by kernel_rfl)) ?_
          refine plan.Rest.first 11 _ (.slice (some ⟨gb, goff, none⟩) G.length xc) rfl (by kernel_rfl) (by kernel_rfl) (by kernel_rfl) (by kernel_rfl) (fun w' hb' => exec_cell_slice (ad := ⟨w3.heap.size, 1, none⟩) rfl (by kernel_rfl) (HZ.out _ (hb.trans (hb'.mono hb.size))).2.2.1 Try.isAgg22) ?_
          refine plan.Rest.first 12 _ (.int .i64 (j : Int)) rfl (by kernel_rfl) (by kernel_rfl) (by kernel_rfl) (by kernel_rfl) (fun w' hb' => (by kernel_rfl)) ?_
          refine plan.Rest.first 13 _ (.pointer (some ⟨gb, goff + j * 2, none⟩)) rfl (by kernel_rfl) (by kernel_rfl) (by kernel_rfl) (by kernel_rfl) (fun w' hb' => (exec_indexM (b := gb) (off := goff) (len := G.length) (cap := xc) (i := j) rfl (by kernel_rfl) (by kernel_rfl) hjl)) ?_
          refine plan.Rest.first 14 _ (.agg #[.int .i64 q.id, .slice q.f q.fL.length q.fCap]) rfl (by kernel_rfl) (by kernel_rfl) (by kernel_rfl) (by kernel_rfl) (fun w' hb' => exec_load_at (b := gb) (off := goff + j * 2) rfl (by kernel_rfl) (HZ.out _ (hb.trans (hb'.mono hb.size))).2.2.2 Try.underlying52 rfl info_fm.out) ?_
          refine plan.Rest.call 15 _ 16 #[.agg #[.int .i64 p.id, .slice p.f p.fL.length p.fCap], .agg #[.int .i64 q.id, .slice q.f q.fL.length q.fCap]] rfl (by kernel_rfl) (by kernel_rfl) (by kernel_rfl) ((cSF w12.drew hb).mono ?_)
          rintro e W1 ⟨rfl, hn⟩
          have hb := hb.trans (hn.mono hb.size)
          refine ⟨_, rfl, hn, ?_⟩
          refine plan.Rest.first 16 _ (.bool false) rfl (by kernel_rfl) (by kernel_rfl) (by kernel_rfl) (by kernel_rfl) (fun w' hb' => (by kernel_rfl)) ?_
          refine plan.Rest.first 17 _ (.bool false) rfl (by kernel_rfl) (by kernel_rfl) (by kernel_rfl) (by kernel_rfl) (fun w' hb' => (by kernel_rfl)) ?_
          refine plan.Rest.first 18 _ (.bool false) rfl (by kernel_rfl) (by kernel_rfl) (by kernel_rfl) (by kernel_rfl) (fun w' hb' => (by kernel_rfl)) ?_
          refine plan.Rest.done (by kernel_rfl) ?_
          walk_nrm
          go_wp2
          exact ⟨⟨k + 1, by omega, by go_num, hid (HBN.out.trans (hb.mono HBN.out.size))⟩, by simp [intOf]; omega⟩
      · obtain rfl : k = F.length := by omega
        clear k0 k1 kx
        go_wp2_with (go_at_call 7; ((with_reducible refine (cA _).mono ?_); rintro e w8 ⟨rfl, hb8⟩))
        go_ret
        exact ⟨rfl, (HX6.out _ (HB.out.trans (hb8.mono HB.out.size))).2.2.2⟩
  · obtain ⟨rfl, rfl⟩ := hbad hn
    have hne : (((n : Nat) : Int) != 0) = true := by simpa using hn
    clear hok hbad hn
    go_enter Try.func5, Try.ntmps5
    go_wp2_with (first
      | (go_at_call 6; ((with_reducible refine cG.mono ?_); clear cG; rintro e w1 ⟨rfl, hb1⟩; rw [HW0.out, HW1.out] at hb1; have hB1 := HBR.out.trans (hb1.mono HBR.out.size); obtain ⟨k0, k1, hbw1⟩ := HX.out _ hB1; have z0 := k0.cell 0; have z1 := k0.cell 1; clear k0 k1 hb1))
      | (go_at_call 13; ((with_reducible refine (cP _ hB1).mono ?_); rintro e w2 ⟨b2, c2, k2, rfl, hr2, hb2⟩; have hB2 := hB1.trans (hb2.mono hB1.size); obtain ⟨k0, k1, hbw2⟩ := HX.out _ hB2; have z0 := k0.cell 0; have z1 := k0.cell 1; have K1 := hid k1; clear k0 k1))
      | (with_reducible refine wpList_load_mid rfl 32 (.tmp 3) rfl (w.heap.size + 1) 0 rfl [.int .i64 s.op, .int .i64 s.fm, .int .i64 s.fd, .int .i64 s.pl, .int .i64 s.tt, .int .i64 s.a, .int .i64 s.b, .int .i64 s.f.id, .int .i64 s.f.kind, .int .i64 s.f.lo, .int .i64 s.f.hi, .int .i64 s.f.most, .int .i64 s.v.n, .string s.v.s, .slice ta s.t.length tc, .slice la s.l.length lc] _ K1.out.whole Try.underlying32 rfl HIS.out ?_)
      | (go_at_call 8; ((with_reducible refine (cO _ hB2).mono ?_); rintro e w3 ⟨x, xc, G, rfl, hG, hfo, hb3⟩; have hg0 : G.length = 0 := (by rw [← forms_length, hfo]; rfl); rw [hg0]; have hB3 := hB2.trans (hb3.mono hB2.size); have hN3 := newB w3 (.cells #[.int .i64 0, .slice x 0 xc] 24); have hB4 := hB3.trans (hN3.mono hB3.size); have hr4 := (hr2.below hb3).below hN3; obtain ⟨k0, k1, hbw4⟩ := HX.out _ hB4; have z0 := k0.cell 0; have z1 := k0.cell 1; have KX := hid (Block.new w3 24 [.int .i64 0, .slice x 0 xc]); have HG := hid (hG.below hN3); have HGL : Hid (G.length ≤ maxLen) := hid (by rw [← forms_length, hfo]; exact Nat.zero_le _); have HFO := hid hfo; clear k0 k1 hr2 hG hfo; clear hg0))
      | (go_at_call 13; ((with_reducible refine (cP _ hB4).mono ?_); rintro e w5 ⟨b5, c5, k5, rfl, hr5, hb5⟩; have hB5 := hB4.trans (hb5.mono hB4.size); have hr6 := hr4.below hb5; have hcv2 := Reads.str (P := Try.prog) hr6 47 5 Try.underlying47 Try.underlying5 c2 9 Try.underlying9; have hcv5 := Reads.str (P := Try.prog) hr5 47 5 Try.underlying47 Try.underlying5 c5 9 Try.underlying9; obtain ⟨k0, k1, hbw5⟩ := HX.out _ hB5; have z0 := k0.cell 0; have z1 := k0.cell 1; have kx := KX.out.later hb5; have x0 := kx.cell 0; have x1 := kx.cell 1; clear k0 k1 kx hr4))
      | (go_at_call 7; ((with_reducible refine (cA _).mono ?_); rintro e w8 ⟨rfl, hb8⟩)))
    go_ret
    exact ⟨rfl, (HX.out _ (hB5.trans (hb8.mono hB5.size))).2.2⟩
theorem walk (p : Sc) (q : St) (w : World) (hp : p.Good w) (hq : q.Good w) : Calls Try.prog 5 #[p.val, q.val] w (Yes w) :=
  walk0 p.ver p.f p.fCap p.fL q.s q.ta q.tc q.la q.lc w ⟨hp.rf, fun y hy => (hp.mf y hy).ok⟩ (Nat.le_trans hp.cf hp.df) hq.lists
end Go.Proofs.Ytiajpjkkopdmgaa.typingRight
/- TypingRight returns true for every schema and every step, and each argument reads afterwards as it read before. No condition. -/
namespace Go.Proofs.Ytiajpjkkopdmgaa.typingRight
open Go.ChangeShapes Go.WideShapes Go.ChangeAt Go.RowKit Go.Proofs.Ytiajpjkkopdmgaa.schema Go.Proofs.Ytiajpjkkopdmgaa.step
open Go.ChangeMaps (open_string shut_string)
set_option linter.unusedVariables false
set_option maxRecDepth 100000 in
theorem lifted (os : Os) (started : os.Started) (H : Type) (enc : TypeId × Value → H) :
    ReturnsInHanded {} Try.checked os 5 .any (Rows.typingRightSpec.pre6 enc Try.prog Try.f5 Rows.typingRightRow.domain false) (Rows.typingRightSpec.post enc Try.prog Try.f5 false true false false) := by
  refine returnsInHanded_of_change_sized (C := Try.checked) own started (by kernel_rfl) Try.func5
    (ChangeSpec.witness6 (enc := enc) (C := Try.checked) false ⟨#[], #[.agg #[.int .i64 0, .slice none 0 0], .agg #[.int .i64 0, .int .i64 0, .int .i64 0, .int .i64 0, .int .i64 0, .int .i64 0, .int .i64 0, .int .i64 0, .int .i64 0, .int .i64 0, .int .i64 0, .int .i64 0, .int .i64 0, .string ⟨#[]⟩, .slice none 0 0, .slice none 0 0]], []⟩ 8 (by kernel_rfl) (by kernel_rfl) (by kernel_rfl) (by kernel_rfl)) ?_
  intro W base args ds gs before hval0 hW hcnd hsz0 _
  have hsz : (DataW.weightsEach Try.prog (Try.f5.params.toList ++ Rows.typingRightSpec.plain.varTypes Try.prog) (ds ++ gs)).all (· ≤ reachBytes) = true := hsz0
  clear hsz0
  have hval : ∀ (j : Nat) t v, Try.f5.params[j]? = some t → args[j]? = some v → Value.okWide Try.prog W .any base t v := hval0
  have hW' := hW
  obtain ⟨p, q, hA0, hV, rfl, hfz, hnd⟩ := hW
  have hA : DataW.TrodAll enc Try.prog W 0 (fun _ => true) true Try.f5.params.toList args.toList ds p := hA0
  rw [Try.params5] at hA hval hsz
  obtain ⟨v0, vs0, d0, ds0, p0, q0, hargs, rfl, rfl, h0, r0⟩ := trodAll_cons hA
  obtain ⟨v1, vs1, d1, ds1, p1, q1, rfl, rfl, rfl, h1, r1⟩ := trodAll_cons r0
  obtain ⟨rfl, rfl, rfl⟩ := trodAll_nil r1
  obtain rfl : args = #[v0, v1] := by cases args; simp_all
  obtain ⟨rfl, rfl⟩ := trodVars_none hV
  have k0 := h0
  have lt0 : ∀ x ∈ p0, x.block < W.heap.size := by obtain ⟨m, hm⟩ := k0; exact DataW.trod_lt m _ _ _ hm
  obtain ⟨pc0, fp0, rfl⟩ := open_Sc_arg Try.underlying24 (by kernel_rfl) (by kernel_rfl) (by kernel_rfl) Go.Proofs.Ytiajpjkkopdmgaa.schema.fmRow (hval 0 24 v0 rfl rfl) h0
  have k1 := h1
  have lt1 : ∀ x ∈ p1, x.block < W.heap.size := by obtain ⟨m, hm⟩ := k1; exact DataW.trod_lt m _ _ _ hm
  obtain ⟨pc1, fp1, rfl⟩ := open_St_arg Go.Proofs.Ytiajpjkkopdmgaa.step.stType (hval 1 32 v1 rfl rfl) h1
  clear hA0 hval0
  refine (walk pc0 pc1 W fp0 fp1).mono fun e W' ⟨he, bel⟩ => ?_
  subst he
  exact ⟨_, rfl, _, _, _, [], _, [], hW', trodAll_mk1 (shut_bool Try.underlying4 _), (trodAll_cons_mk (Below.trod laidOut (by kernel_rfl) (of_decide_eq_true (by kernel_rfl)) k0 bel lt0) (trodAll_cons_mk (Below.trod laidOut (by kernel_rfl) (of_decide_eq_true (by kernel_rfl)) k1 bel lt1) trodAll_mk0)), rfl, bel.frame _, fun h => by cases h⟩

theorem holds : Rows.TypingRightSaid :=
  OpenClaim.holds_of_wide 5 Try.f5 rfl rfl rfl rfl rfl rfl rfl ⟨rfl, rfl, rfl, rfl, rfl⟩ rfl rfl rfl rfl rfl (by kernel_rfl) Try.func5 (by kernel_rfl)
    (of_decide_eq_true (by kernel_rfl)) (by unfold Func.isWrapper; first | (rw [if_pos (by decide +kernel)]; kernel_rfl) | (rw [if_neg (by decide +kernel)]; exact ⟨rfl, rfl⟩))
    (fun os started H enc _ => lifted os started H enc)
#print axioms holds
end Go.Proofs.Ytiajpjkkopdmgaa.typingRight
