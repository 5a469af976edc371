/- Contracts of the reference of layer 13 (schema): Fine, Right. No condition. -/
import Derived.Test.YtacigmnnekphmaaSchemaExec
import Derived.Conc.WalkWords
namespace Go.Proofs.Ytacigmnnekphmaa.schema
open Go.RowKit
open Go.Proofs.Ytacigmnnekphmaa.field (Gives newB gives_from refRight_any)
set_option linter.unusedVariables false

set_option maxRecDepth 20000 in
set_option maxHeartbeats 1600000 in
theorem refFine_any (i : Int) (a : Option Addr) (cap : Nat) (L : List field.Fd) (w : World) (h : field.Fds w a L) (hL : L.length ≤ maxLen) :
    Calls Try.prog 12 #[.agg #[.int .i64 i, .slice a L.length cap]] w (Gives (.bool (decide (Fine (i, L)))) w) := by
  have hml : (L.length : Int) ≤ 9223372036854775807 := by unfold maxLen at hL; omega
  have HX := hid (boxM i a L cap w)
  have hw := newB w (.cells #[.int .i64 i, .slice a L.length cap] 29)
  have HF := hid (h.below hw)
  have HW := hid hw
  have HB0 := hid (Block.new w 29 [.int .i64 i, .slice a L.length cap])
  obtain ⟨r, hr⟩ : ∃ r : Bool, Hid (decide (Fine (i, L)) = r) := ⟨_, rfl⟩
  rw [hr.out]
  unfold Gives
  clear h hw
  by_cases h1 : i < 0
  · obtain rfl : false = r := by rw [← hr.out]; exact (decide_eq_false (fun e => by have := e.1.1; simp at this; omega)).symm
    have hd1 : decide (i < 0) = true := decide_eq_true h1
    clear h1
    go_enter Try.func12, Try.ntmps12
    go_wp2
    go_ret
    exact ⟨rfl, HW.out⟩
  have hd1 : decide (i < 0) = false := decide_eq_false h1
  by_cases h2 : i > 200
  · obtain rfl : false = r := by rw [← hr.out]; exact (decide_eq_false (fun e => by have := e.1.2; simp at this; omega)).symm
    have hd2 : decide (i > 200) = true := decide_eq_true h2
    clear h1 h2
    go_enter Try.func12, Try.ntmps12
    go_wp2
    go_ret
    exact ⟨rfl, HW.out⟩
  have hd2 : decide (i > 200) = false := decide_eq_false h2
  by_cases h3 : L.length < 1
  · obtain rfl : false = r := by rw [← hr.out]; exact (decide_eq_false (fun e => by have := e.2.1.1; simp only at this; omega)).symm
    have hd3 : decide ((L.length : Int) < 1) = true := decide_eq_true (by omega)
    clear h1 h2 h3
    go_enter Try.func12, Try.ntmps12
    go_wp2
    go_ret
    exact ⟨rfl, HW.out⟩
  have hd3 : decide ((L.length : Int) < 1) = false := decide_eq_false (by omega)
  by_cases h4 : L.length > 8
  · obtain rfl : false = r := by rw [← hr.out]; exact (decide_eq_false (fun e => by have := e.2.1.2; simp only at this; omega)).symm
    have hd4 : decide ((L.length : Int) > 8) = true := decide_eq_true (by omega)
    clear h1 h2 h3 h4
    go_enter Try.func12, Try.ntmps12
    go_wp2
    go_ret
    exact ⟨rfl, HW.out⟩
  have hd4 : decide ((L.length : Int) > 8) = false := decide_eq_false (by omega)
  have HFI : Hid (Fine (i, L) ↔ FineF L ∧ size L ≤ 64) := hid ⟨fun e => ⟨e.2.2.1, e.2.2.2⟩, fun e => ⟨by simp; omega, by simp; omega, e.1, e.2⟩⟩
  have h8 : L.length ≤ 8 := by omega
  clear h1 h2 h3 h4
  go_enter Try.func12, Try.ntmps12
  go_wp2
  clear hd1 hd2 hd3 hd4
  generalize (w.alloc (.cells #[.int .i64 i, .slice a L.length cap] 29)) = W0 at *
  go_loopw [3] (fun n wr => ∃ k : Nat, k ≤ L.length ∧ n = .int .i64 (k : Int) ∧ Hid (FineF (L.take k)) ∧ Hid (Below W0.heap.size W0 wr)) (fun n _ => L.length - (intOf n).toNat)
  case atStart => exact ⟨0, Nat.zero_le _, rfl, hid FineF.nil, hid (Below.refl _ _)⟩
  case round =>
    obtain ⟨k, hk, rfl, HOK, HB⟩ := hrel
    obtain ⟨z0, z1, hbo⟩ := HX.out _ HB.out
    by_cases hlt : k < L.length
    · obtain ⟨b, off, p, rfl, hbl, hp, c0, c1, c2, c3, c4⟩ := field_at HF.out HB.out hlt
      have i1 : (k : Int) < L.length := by omega
      have HNO := hid (fineF_no hp)
      have HSUC := hid (fineF_succ hp)
      have HAT := hid (at_iff (ids_at hp))
      have hR := range5 c0 c1 c2 c3 c4
      have HZ := hid (fun w' (hb' : Below wr.heap.size wr w') => (⟨by obtain ⟨_, y1, _⟩ := HX.out w' (HB.out.trans (hb'.mono HB.out.size)); exact y1, (HB0.out.later (HB.out.trans (hb'.mono HB.out.size))).whole, range_later hR hb' hbl⟩ : w'.cell? ⟨w.heap.size, 1, none⟩ = some (.slice (some ⟨b, off, none⟩) L.length cap) ∧ w'.rangeAt w.heap.size 0 [.int .i64 i, .slice (some ⟨b, off, none⟩) L.length cap] ∧ w'.rangeAt b (off + k * 5) [.int .i64 p.id, .int .i64 p.kind, .int .i64 p.lo, .int .i64 p.hi, .int .i64 p.most]))
      have ca := fun w' (hb' : Below wr.heap.size wr w') => refAt_any i (some ⟨b, off, none⟩) cap L p.id w' (HF.out.below (HB.out.trans (hb'.mono HB.out.size))) hL
      have cr := fun w' => refRight_any p w'
      clear hp hR
      generalize firstAt (ids L) p.id = J at *
      by_cases hri : p.Right
      · rw [decide_eq_true hri] at cr
        by_cases hj : J = (k : Int)
        · have HNQ : Hid ((J != (k : Int)) = false) := hid (by rw [hj]; simp)
          have HOK2 : Hid (FineF (L.take (k + 1))) := hid (HSUC.out.2 ⟨HOK.out, hri, by rw [ids_take]; exact HAT.out.1 hj⟩)
          clear hri hj c0 c1 c2 c3 c4
          go_wp2
          have hb : Below wr.heap.size wr wr.drew := below_drew (Below.refl _ _)
          · refine plan.region (by kernel_rfl) ?_
            refine plan.Rest.first 0 _ (.pointer (some ⟨w.heap.size, 1, none⟩)) rfl (by kernel_rfl) (by kernel_rfl) (by kernel_rfl) (by kernel_rfl) (fun w' hb' => (by kernel_rfl)) ?_
            refine plan.Rest.first 1 _ (.slice (some ⟨b, off, none⟩) L.length cap) rfl (by kernel_rfl) (by kernel_rfl) (by kernel_rfl) (by kernel_rfl) (fun w' hb' => exec_cell_slice (ad := ⟨w.heap.size, 1, none⟩) rfl (by kernel_rfl) (HZ.out _ (hb.trans (hb'.mono hb.size))).1 Try.isAgg27) ?_
            refine plan.Rest.first 2 _ (.int .i64 (k : Int)) rfl (by kernel_rfl) (by kernel_rfl) (by kernel_rfl) (by kernel_rfl) (fun w' hb' => (by kernel_rfl)) ?_
            refine plan.Rest.first 3 _ (.pointer (some ⟨b, off + k * 5, none⟩)) rfl (by kernel_rfl) (by kernel_rfl) (by kernel_rfl) (by kernel_rfl) (fun w' hb' => (exec_indexF (b := b) (off := off) (len := L.length) (cap := cap) (i := k) rfl (by kernel_rfl) (by kernel_rfl) hlt)) ?_
            refine plan.Rest.first 4 _ (.agg #[.int .i64 p.id, .int .i64 p.kind, .int .i64 p.lo, .int .i64 p.hi, .int .i64 p.most]) rfl (by kernel_rfl) (by kernel_rfl) (by kernel_rfl) (by kernel_rfl) (fun w' hb' => exec_load_at (b := b) (off := off + k * 5) rfl (by kernel_rfl) (HZ.out _ (hb.trans (hb'.mono hb.size))).2.2 Try.underlying50 rfl info_fd.out) ?_
            refine plan.Rest.call 5 _ 30 #[.agg #[.int .i64 p.id, .int .i64 p.kind, .int .i64 p.lo, .int .i64 p.hi, .int .i64 p.most]] rfl (by kernel_rfl) (by kernel_rfl) (by kernel_rfl) ((cr wr.drew).mono ?_)
            rintro e W1 ⟨rfl, hn⟩
            have hb := hb.trans (hn.mono hb.size)
            refine ⟨_, rfl, hn, ?_⟩
            refine plan.Rest.first 6 _ (.bool false) rfl (by kernel_rfl) (by kernel_rfl) (by kernel_rfl) (by kernel_rfl) (fun w' hb' => (by kernel_rfl)) ?_
            refine plan.Rest.first 7 _ (.bool false) rfl (by kernel_rfl) (by kernel_rfl) (by kernel_rfl) (by kernel_rfl) (fun w' hb' => (by kernel_rfl)) ?_
            refine plan.Rest.first 8 _ (.agg #[.int .i64 i, .slice (some ⟨b, off, none⟩) L.length cap]) rfl (by kernel_rfl) (by kernel_rfl) (by kernel_rfl) (by kernel_rfl) (fun w' hb' => exec_load_at (b := w.heap.size) (off := 0) rfl (by kernel_rfl) (HZ.out _ (hb.trans (hb'.mono hb.size))).2.1 Try.underlying29 rfl info_fm.out) ?_
            refine plan.Rest.first 9 _ (.pointer (some ⟨w.heap.size, 1, none⟩)) rfl (by kernel_rfl) (by kernel_rfl) (by kernel_rfl) (by kernel_rfl) (fun w' hb' => (by kernel_rfl)) ?_
            refine plan.Rest.first 10 _ (.slice (some ⟨b, off, none⟩) L.length cap) rfl (by kernel_rfl) (by kernel_rfl) (by kernel_rfl) (by kernel_rfl) (fun w' hb' => exec_cell_slice (ad := ⟨w.heap.size, 1, none⟩) rfl (by kernel_rfl) (HZ.out _ (hb.trans (hb'.mono hb.size))).1 Try.isAgg27) ?_
            refine plan.Rest.first 11 _ (.int .i64 (k : Int)) rfl (by kernel_rfl) (by kernel_rfl) (by kernel_rfl) (by kernel_rfl) (fun w' hb' => (by kernel_rfl)) ?_
            refine plan.Rest.first 12 _ (.pointer (some ⟨b, off + k * 5, none⟩)) rfl (by kernel_rfl) (by kernel_rfl) (by kernel_rfl) (by kernel_rfl) (fun w' hb' => (exec_indexF (b := b) (off := off) (len := L.length) (cap := cap) (i := k) rfl (by kernel_rfl) (by kernel_rfl) hlt)) ?_
            refine plan.Rest.first 13 _ (.pointer (some ⟨b, off + k * 5, none⟩)) rfl (by kernel_rfl) (by kernel_rfl) (by kernel_rfl) (by kernel_rfl) (fun w' hb' => (by kernel_rfl)) ?_
            refine plan.Rest.first 14 _ (.int .i64 p.id) rfl (by kernel_rfl) (by kernel_rfl) (by kernel_rfl) (by kernel_rfl) (fun w' hb' => exec_cell_int (ad := ⟨b, off + k * 5, none⟩) rfl (by kernel_rfl) ((HZ.out _ (hb.trans (hb'.mono hb.size))).2.2 0 _ rfl) Try.isAgg3) ?_
            refine plan.Rest.first 16 _ (.int .i64 (k : Int)) rfl (by kernel_rfl) (by kernel_rfl) (by kernel_rfl) (by kernel_rfl) (fun w' hb' => (by kernel_rfl)) ?_
            refine plan.Rest.call 15 _ 16 #[.agg #[.int .i64 i, .slice (some ⟨b, off, none⟩) L.length cap], .int .i64 p.id] rfl (by kernel_rfl) (by kernel_rfl) (by kernel_rfl) ((ca W1 hb).mono ?_)
            rintro e W2 ⟨rfl, hn⟩
            have hb := hb.trans (hn.mono hb.size)
            refine ⟨_, rfl, hn, ?_⟩
            refine plan.Rest.first 17 _ (.bool false) rfl (by kernel_rfl) (by kernel_rfl) (by kernel_rfl) (by kernel_rfl) (fun w' hb' => (exec_neq_int (n := J) (m := (k : Int)) rfl (by kernel_rfl) (by kernel_rfl) HNQ)) ?_
            refine plan.Rest.first 18 _ (.bool false) rfl (by kernel_rfl) (by kernel_rfl) (by kernel_rfl) (by kernel_rfl) (fun w' hb' => (by kernel_rfl)) ?_
            refine plan.Rest.done (by kernel_rfl) ?_
            walk_nrm
            go_wp2
            exact ⟨⟨k + 1, by omega, by go_num, HOK2, hid (HB.out.trans (hb.mono HB.out.size))⟩, by simp [intOf]; omega⟩
        · have HNQ : Hid ((J != (k : Int)) = true) := hid (by simp [hj])
          obtain rfl : false = r := by rw [← hr.out]; exact (decide_eq_false (fun e => HNO.out (fun e2 => hj (HAT.out.2 (by rw [← ids_take]; exact e2.2))) (HFI.out.1 e).1)).symm
          clear hri hj c0 c1 c2 c3 c4
          go_wp2
          have hb : Below wr.heap.size wr wr.drew := below_drew (Below.refl _ _)
          · refine plan.region (by kernel_rfl) ?_
            refine plan.Rest.first 0 _ (.pointer (some ⟨w.heap.size, 1, none⟩)) rfl (by kernel_rfl) (by kernel_rfl) (by kernel_rfl) (by kernel_rfl) (fun w' hb' => (by kernel_rfl)) ?_
            refine plan.Rest.first 1 _ (.slice (some ⟨b, off, none⟩) L.length cap) rfl (by kernel_rfl) (by kernel_rfl) (by kernel_rfl) (by kernel_rfl) (fun w' hb' => exec_cell_slice (ad := ⟨w.heap.size, 1, none⟩) rfl (by kernel_rfl) (HZ.out _ (hb.trans (hb'.mono hb.size))).1 Try.isAgg27) ?_
            refine plan.Rest.first 2 _ (.int .i64 (k : Int)) rfl (by kernel_rfl) (by kernel_rfl) (by kernel_rfl) (by kernel_rfl) (fun w' hb' => (by kernel_rfl)) ?_
            refine plan.Rest.first 3 _ (.pointer (some ⟨b, off + k * 5, none⟩)) rfl (by kernel_rfl) (by kernel_rfl) (by kernel_rfl) (by kernel_rfl) (fun w' hb' => (exec_indexF (b := b) (off := off) (len := L.length) (cap := cap) (i := k) rfl (by kernel_rfl) (by kernel_rfl) hlt)) ?_
            refine plan.Rest.first 4 _ (.agg #[.int .i64 p.id, .int .i64 p.kind, .int .i64 p.lo, .int .i64 p.hi, .int .i64 p.most]) rfl (by kernel_rfl) (by kernel_rfl) (by kernel_rfl) (by kernel_rfl) (fun w' hb' => exec_load_at (b := b) (off := off + k * 5) rfl (by kernel_rfl) (HZ.out _ (hb.trans (hb'.mono hb.size))).2.2 Try.underlying50 rfl info_fd.out) ?_
            refine plan.Rest.call 5 _ 30 #[.agg #[.int .i64 p.id, .int .i64 p.kind, .int .i64 p.lo, .int .i64 p.hi, .int .i64 p.most]] rfl (by kernel_rfl) (by kernel_rfl) (by kernel_rfl) ((cr wr.drew).mono ?_)
            rintro e W1 ⟨rfl, hn⟩
            have hb := hb.trans (hn.mono hb.size)
            refine ⟨_, rfl, hn, ?_⟩
            refine plan.Rest.first 6 _ (.bool false) rfl (by kernel_rfl) (by kernel_rfl) (by kernel_rfl) (by kernel_rfl) (fun w' hb' => (by kernel_rfl)) ?_
            refine plan.Rest.first 7 _ (.bool false) rfl (by kernel_rfl) (by kernel_rfl) (by kernel_rfl) (by kernel_rfl) (fun w' hb' => (by kernel_rfl)) ?_
            refine plan.Rest.first 8 _ (.agg #[.int .i64 i, .slice (some ⟨b, off, none⟩) L.length cap]) rfl (by kernel_rfl) (by kernel_rfl) (by kernel_rfl) (by kernel_rfl) (fun w' hb' => exec_load_at (b := w.heap.size) (off := 0) rfl (by kernel_rfl) (HZ.out _ (hb.trans (hb'.mono hb.size))).2.1 Try.underlying29 rfl info_fm.out) ?_
            refine plan.Rest.first 9 _ (.pointer (some ⟨w.heap.size, 1, none⟩)) rfl (by kernel_rfl) (by kernel_rfl) (by kernel_rfl) (by kernel_rfl) (fun w' hb' => (by kernel_rfl)) ?_
            refine plan.Rest.first 10 _ (.slice (some ⟨b, off, none⟩) L.length cap) rfl (by kernel_rfl) (by kernel_rfl) (by kernel_rfl) (by kernel_rfl) (fun w' hb' => exec_cell_slice (ad := ⟨w.heap.size, 1, none⟩) rfl (by kernel_rfl) (HZ.out _ (hb.trans (hb'.mono hb.size))).1 Try.isAgg27) ?_
            refine plan.Rest.first 11 _ (.int .i64 (k : Int)) rfl (by kernel_rfl) (by kernel_rfl) (by kernel_rfl) (by kernel_rfl) (fun w' hb' => (by kernel_rfl)) ?_
            refine plan.Rest.first 12 _ (.pointer (some ⟨b, off + k * 5, none⟩)) rfl (by kernel_rfl) (by kernel_rfl) (by kernel_rfl) (by kernel_rfl) (fun w' hb' => (exec_indexF (b := b) (off := off) (len := L.length) (cap := cap) (i := k) rfl (by kernel_rfl) (by kernel_rfl) hlt)) ?_
            refine plan.Rest.first 13 _ (.pointer (some ⟨b, off + k * 5, none⟩)) rfl (by kernel_rfl) (by kernel_rfl) (by kernel_rfl) (by kernel_rfl) (fun w' hb' => (by kernel_rfl)) ?_
            refine plan.Rest.first 14 _ (.int .i64 p.id) rfl (by kernel_rfl) (by kernel_rfl) (by kernel_rfl) (by kernel_rfl) (fun w' hb' => exec_cell_int (ad := ⟨b, off + k * 5, none⟩) rfl (by kernel_rfl) ((HZ.out _ (hb.trans (hb'.mono hb.size))).2.2 0 _ rfl) Try.isAgg3) ?_
            refine plan.Rest.first 16 _ (.int .i64 (k : Int)) rfl (by kernel_rfl) (by kernel_rfl) (by kernel_rfl) (by kernel_rfl) (fun w' hb' => (by kernel_rfl)) ?_
            refine plan.Rest.call 15 _ 16 #[.agg #[.int .i64 i, .slice (some ⟨b, off, none⟩) L.length cap], .int .i64 p.id] rfl (by kernel_rfl) (by kernel_rfl) (by kernel_rfl) ((ca W1 hb).mono ?_)
            rintro e W2 ⟨rfl, hn⟩
            have hb := hb.trans (hn.mono hb.size)
            refine ⟨_, rfl, hn, ?_⟩
            refine plan.Rest.first 17 _ (.bool true) rfl (by kernel_rfl) (by kernel_rfl) (by kernel_rfl) (by kernel_rfl) (fun w' hb' => (exec_neq_int (n := J) (m := (k : Int)) rfl (by kernel_rfl) (by kernel_rfl) HNQ)) ?_
            refine plan.Rest.first 18 _ (.bool true) rfl (by kernel_rfl) (by kernel_rfl) (by kernel_rfl) (by kernel_rfl) (fun w' hb' => (by kernel_rfl)) ?_
            refine plan.Rest.done (by kernel_rfl) ?_
            walk_nrm
            go_wp2
            go_ret
            exact ⟨rfl, hbo.trans (hb.mono hbo.size)⟩
      · rw [decide_eq_false hri] at cr
        obtain rfl : false = r := by rw [← hr.out]; exact (decide_eq_false (fun e => HNO.out (fun e2 => hri e2.1) (HFI.out.1 e).1)).symm
        clear hri c0 c1 c2 c3 c4
        go_wp2
        have hb : Below wr.heap.size wr wr.drew := below_drew (Below.refl _ _)
        · refine plan.region (by kernel_rfl) ?_
          refine plan.Rest.first 0 _ (.pointer (some ⟨w.heap.size, 1, none⟩)) rfl (by kernel_rfl) (by kernel_rfl) (by kernel_rfl) (by kernel_rfl) (fun w' hb' => (by kernel_rfl)) ?_
          refine plan.Rest.first 1 _ (.slice (some ⟨b, off, none⟩) L.length cap) rfl (by kernel_rfl) (by kernel_rfl) (by kernel_rfl) (by kernel_rfl) (fun w' hb' => exec_cell_slice (ad := ⟨w.heap.size, 1, none⟩) rfl (by kernel_rfl) (HZ.out _ (hb.trans (hb'.mono hb.size))).1 Try.isAgg27) ?_
          refine plan.Rest.first 2 _ (.int .i64 (k : Int)) rfl (by kernel_rfl) (by kernel_rfl) (by kernel_rfl) (by kernel_rfl) (fun w' hb' => (by kernel_rfl)) ?_
          refine plan.Rest.first 3 _ (.pointer (some ⟨b, off + k * 5, none⟩)) rfl (by kernel_rfl) (by kernel_rfl) (by kernel_rfl) (by kernel_rfl) (fun w' hb' => (exec_indexF (b := b) (off := off) (len := L.length) (cap := cap) (i := k) rfl (by kernel_rfl) (by kernel_rfl) hlt)) ?_
          refine plan.Rest.first 4 _ (.agg #[.int .i64 p.id, .int .i64 p.kind, .int .i64 p.lo, .int .i64 p.hi, .int .i64 p.most]) rfl (by kernel_rfl) (by kernel_rfl) (by kernel_rfl) (by kernel_rfl) (fun w' hb' => exec_load_at (b := b) (off := off + k * 5) rfl (by kernel_rfl) (HZ.out _ (hb.trans (hb'.mono hb.size))).2.2 Try.underlying50 rfl info_fd.out) ?_
          refine plan.Rest.call 5 _ 30 #[.agg #[.int .i64 p.id, .int .i64 p.kind, .int .i64 p.lo, .int .i64 p.hi, .int .i64 p.most]] rfl (by kernel_rfl) (by kernel_rfl) (by kernel_rfl) ((cr wr.drew).mono ?_)
          rintro e W1 ⟨rfl, hn⟩
          have hb := hb.trans (hn.mono hb.size)
          refine ⟨_, rfl, hn, ?_⟩
          refine plan.Rest.first 6 _ (.bool true) rfl (by kernel_rfl) (by kernel_rfl) (by kernel_rfl) (by kernel_rfl) (fun w' hb' => (by kernel_rfl)) ?_
          refine plan.Rest.first 7 _ (.bool true) rfl (by kernel_rfl) (by kernel_rfl) (by kernel_rfl) (by kernel_rfl) (fun w' hb' => (by kernel_rfl)) ?_
          refine plan.Rest.skip 8 _ rfl (by kernel_rfl) (by kernel_rfl) (by kernel_rfl) (by kernel_rfl) ?_
          refine plan.Rest.skip 9 _ rfl (by kernel_rfl) (by kernel_rfl) (by kernel_rfl) (by kernel_rfl) ?_
          refine plan.Rest.skip 10 _ rfl (by kernel_rfl) (by kernel_rfl) (by kernel_rfl) (by kernel_rfl) ?_
          refine plan.Rest.skip 11 _ rfl (by kernel_rfl) (by kernel_rfl) (by kernel_rfl) (by kernel_rfl) ?_
          refine plan.Rest.skip 12 _ rfl (by kernel_rfl) (by kernel_rfl) (by kernel_rfl) (by kernel_rfl) ?_
          refine plan.Rest.skip 13 _ rfl (by kernel_rfl) (by kernel_rfl) (by kernel_rfl) (by kernel_rfl) ?_
          refine plan.Rest.skip 14 _ rfl (by kernel_rfl) (by kernel_rfl) (by kernel_rfl) (by kernel_rfl) ?_
          refine plan.Rest.skip 15 _ rfl (by kernel_rfl) (by kernel_rfl) (by kernel_rfl) (by kernel_rfl) ?_
          refine plan.Rest.skip 16 _ rfl (by kernel_rfl) (by kernel_rfl) (by kernel_rfl) (by kernel_rfl) ?_
          refine plan.Rest.skip 17 _ rfl (by kernel_rfl) (by kernel_rfl) (by kernel_rfl) (by kernel_rfl) ?_
          refine plan.Rest.first 18 _ (.bool true) rfl (by kernel_rfl) (by kernel_rfl) (by kernel_rfl) (by kernel_rfl) (fun w' hb' => (by kernel_rfl)) ?_
          refine plan.Rest.done (by kernel_rfl) ?_
          walk_nrm
          go_wp2
          go_ret
          exact ⟨rfl, hbo.trans (hb.mono hbo.size)⟩
    · obtain rfl : k = L.length := by omega
      have HOK2 : Hid (FineF L) := hid (by have := HOK.out; rw [List.take_of_length_le (Nat.le_refl _)] at this; exact this)
      have cl := refLong_any i a cap L wr (HF.out.below HB.out) (by omega)
      obtain rfl : decide ((size L : Int) ≤ 64) = r := by rw [← hr.out]; exact decide_eq_decide.2 ⟨fun e => HFI.out.2 ⟨HOK2.out, by omega⟩, fun e => by have := (HFI.out.1 e).2; omega⟩
      go_wp2_with (go_at_call 14; ((with_reducible refine cl.mono ?_); rintro e w2 ⟨rfl, hb2⟩))
      go_ret
      exact ⟨rfl, hbo.trans (hb2.mono hbo.size)⟩
end Go.Proofs.Ytacigmnnekphmaa.schema
