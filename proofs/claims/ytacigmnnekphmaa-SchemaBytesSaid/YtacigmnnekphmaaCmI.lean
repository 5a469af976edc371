/- Contracts and lemmas that the claims of this seat share: SchemaRefFine, SchemaRefRight, SchemaRefParse. Each says its own conditions. -/
import Derived.Test.YtacigmnnekphmaaCmH
import Derived.Conc.WalkWords
import Derived.Test.YtacigmnnekphmaaCmG
/- Contracts of the reference of layer 13 (schema): Fine, Right. No condition. -/
namespace Go.Proofs.Ytacigmnnekphmaa.schema
open Go.RowKit
open Go.Proofs.Ytacigmnnekphmaa.field (Gives newB gives_from refRight_any)
set_option linter.unusedVariables false

set_option maxRecDepth 20000 in
set_option maxHeartbeats 1600000 in
theorem refFine_any (i : Int) (a : Option Addr) (cap : Nat) (L : List field.Fd) (w : World) (h : field.Fds w a L) (hL : L.length ≤ maxLen) :
    Calls Try.prog 12 #[.agg #[.int .i64 i, .slice a L.length cap]] w (Gives (.bool (decide (Fine (i, L)))) w) := by
  have hml : (L.length : Int) ≤ 9223372036854775807 := by unfold maxLen at hL; omega
  have HX := hid (boxM i a L cap w)
  have hw := newB w (.cells #[.int .i64 i, .slice a L.length cap] 29)
  have HF := hid (h.below hw)
  have HW := hid hw
  have HB0 := hid (Block.new w 29 [.int .i64 i, .slice a L.length cap])
  obtain ⟨r, hr⟩ : ∃ r : Bool, Hid (decide (Fine (i, L)) = r) := ⟨_, rfl⟩
  rw [hr.out]
  unfold Gives
  clear h hw
  by_cases h1 : i < 0
  · obtain rfl : false = r := by rw [← hr.out]; exact (decide_eq_false (fun e => by have := e.1.1; simp at this; omega)).symm
    have hd1 : decide (i < 0) = true := decide_eq_true h1
    clear h1
    go_enter Try.func12, Try.ntmps12
    go_wp2
    go_ret
    exact ⟨rfl, HW.out⟩
  have hd1 : decide (i < 0) = false := decide_eq_false h1
  by_cases h2 : i > 200
  · obtain rfl : false = r := by rw [← hr.out]; exact (decide_eq_false (fun e => by have := e.1.2; simp at this; omega)).symm
    have hd2 : decide (i > 200) = true := decide_eq_true h2
    clear h1 h2
    go_enter Try.func12, Try.ntmps12
    go_wp2
    go_ret
    exact ⟨rfl, HW.out⟩
  have hd2 : decide (i > 200) = false := decide_eq_false h2
  by_cases h3 : L.length < 1
  · obtain rfl : false = r := by rw [← hr.out]; exact (decide_eq_false (fun e => by have := e.2.1.1; simp only at this; omega)).symm
    have hd3 : decide ((L.length : Int) < 1) = true := decide_eq_true (by omega)
    clear h1 h2 h3
    go_enter Try.func12, Try.ntmps12
    go_wp2
    go_ret
    exact ⟨rfl, HW.out⟩
  have hd3 : decide ((L.length : Int) < 1) = false := decide_eq_false (by omega)
  by_cases h4 : L.length > 8
  · obtain rfl : false = r := by rw [← hr.out]; exact (decide_eq_false (fun e => by have := e.2.1.2; simp only at this; omega)).symm
    have hd4 : decide ((L.length : Int) > 8) = true := decide_eq_true (by omega)
    clear h1 h2 h3 h4
    go_enter Try.func12, Try.ntmps12
    go_wp2
    go_ret
    exact ⟨rfl, HW.out⟩
  have hd4 : decide ((L.length : Int) > 8) = false := decide_eq_false (by omega)
  have HFI : Hid (Fine (i, L) ↔ FineF L ∧ size L ≤ 64) := hid ⟨fun e => ⟨e.2.2.1, e.2.2.2⟩, fun e => ⟨by simp; omega, by simp; omega, e.1, e.2⟩⟩
  have h8 : L.length ≤ 8 := by omega
  clear h1 h2 h3 h4
  go_enter Try.func12, Try.ntmps12
  go_wp2
  clear hd1 hd2 hd3 hd4
  generalize (w.alloc (.cells #[.int .i64 i, .slice a L.length cap] 29)) = W0 at *
  go_loopw [3] (fun n wr => ∃ k : Nat, k ≤ L.length ∧ n = .int .i64 (k : Int) ∧ Hid (FineF (L.take k)) ∧ Hid (Below W0.heap.size W0 wr)) (fun n _ => L.length - (intOf n).toNat)
  case atStart => exact ⟨0, Nat.zero_le _, rfl, hid FineF.nil, hid (Below.refl _ _)⟩
  case round =>
    obtain ⟨k, hk, rfl, HOK, HB⟩ := hrel
    obtain ⟨z0, z1, hbo⟩ := HX.out _ HB.out
    by_cases hlt : k < L.length
    · obtain ⟨b, off, p, rfl, hbl, hp, c0, c1, c2, c3, c4⟩ := field_at HF.out HB.out hlt
      have i1 : (k : Int) < L.length := by omega
      have HNO := hid (fineF_no hp)
      have HSUC := hid (fineF_succ hp)
      have HAT := hid (at_iff (ids_at hp))
      have hR := range5 c0 c1 c2 c3 c4
      have HZ := hid (fun w' (hb' : Below wr.heap.size wr w') => (⟨by obtain ⟨_, y1, _⟩ := HX.out w' (HB.out.trans (hb'.mono HB.out.size)); exact y1, (HB0.out.later (HB.out.trans (hb'.mono HB.out.size))).whole, range_later hR hb' hbl⟩ : w'.cell? ⟨w.heap.size, 1, none⟩ = some (.slice (some ⟨b, off, none⟩) L.length cap) ∧ w'.rangeAt w.heap.size 0 [.int .i64 i, .slice (some ⟨b, off, none⟩) L.length cap] ∧ w'.rangeAt b (off + k * 5) [.int .i64 p.id, .int .i64 p.kind, .int .i64 p.lo, .int .i64 p.hi, .int .i64 p.most]))
      have ca := fun w' (hb' : Below wr.heap.size wr w') => refAt_any i (some ⟨b, off, none⟩) cap L p.id w' (HF.out.below (HB.out.trans (hb'.mono HB.out.size))) hL
      have cr := fun w' => refRight_any p w'
      clear hp hR
      generalize firstAt (ids L) p.id = J at *
      by_cases hri : p.Right
      · rw [decide_eq_true hri] at cr
        by_cases hj : J = (k : Int)
        · have HNQ : Hid ((J != (k : Int)) = false) := hid (by rw [hj]; simp)
          have HOK2 : Hid (FineF (L.take (k + 1))) := hid (HSUC.out.2 ⟨HOK.out, hri, by rw [ids_take]; exact HAT.out.1 hj⟩)
          clear hri hj c0 c1 c2 c3 c4
          go_wp2
          have hb : Below wr.heap.size wr wr.drew := below_drew (Below.refl _ _)
          · refine plan.region (by kernel_rfl) ?_
            refine plan.Rest.first 0 _ (.pointer (some ⟨w.heap.size, 1, none⟩)) rfl (by kernel_rfl) (by kernel_rfl) (by kernel_rfl) (by kernel_rfl) (fun w' hb' => (by kernel_rfl)) ?_
            refine plan.Rest.first 1 _ (.slice (some ⟨b, off, none⟩) L.length cap) rfl (by kernel_rfl) (by kernel_rfl) (by kernel_rfl) (by kernel_rfl) (fun w' hb' => exec_cell_slice (ad := ⟨w.heap.size, 1, none⟩) rfl (by kernel_rfl) (HZ.out _ (hb.trans (hb'.mono hb.size))).1 Try.isAgg27) ?_
            refine plan.Rest.first 2 _ (.int .i64 (k : Int)) rfl (by kernel_rfl) (by kernel_rfl) (by kernel_rfl) (by kernel_rfl) (fun w' hb' => (by kernel_rfl)) ?_
            refine plan.Rest.first 3 _ (.pointer (some ⟨b, off + k * 5, none⟩)) rfl (by kernel_rfl) (by kernel_rfl) (by kernel_rfl) (by kernel_rfl) (fun w' hb' => (exec_indexF (b := b) (off := off) (len := L.length) (cap := cap) (i := k) rfl (by kernel_rfl) (by kernel_rfl) hlt)) ?_
            refine plan.Rest.first 4 _ (.agg #[.int .i64 p.id, .int .i64 p.kind, .int .i64 p.lo, .int .i64 p.hi, .int .i64 p.most]) rfl (by kernel_rfl) (by kernel_rfl) (by kernel_rfl) (by kernel_rfl) (fun w' hb' => exec_load_at (b := b) (off := off + k * 5) rfl (by kernel_rfl) (HZ.out _ (hb.trans (hb'.mono hb.size))).2.2 Try.underlying50 rfl info_fd.out) ?_
            refine plan.Rest.call 5 _ 30 #[.agg #[.int .i64 p.id, .int .i64 p.kind, .int .i64 p.lo, .int .i64 p.hi, .int .i64 p.most]] rfl (by kernel_rfl) (by kernel_rfl) (by kernel_rfl) ((cr wr.drew).mono ?_)
            rintro e W1 ⟨rfl, hn⟩
            have hb := hb.trans (hn.mono hb.size)
            refine ⟨_, rfl, hn, ?_⟩
            refine plan.Rest.first 6 _ (.bool false) rfl (by kernel_rfl) (by kernel_rfl) (by kernel_rfl) (by kernel_rfl) (fun w' hb' => (by kernel_rfl)) ?_
            refine plan.Rest.first 7 _ (.bool false) rfl (by kernel_rfl) (by kernel_rfl) (by kernel_rfl) (by kernel_rfl) (fun w' hb' => (by kernel_rfl)) ?_
            refine plan.Rest.first 8 _ (.agg #[.int .i64 i, .slice (some ⟨b, off, none⟩) L.length cap]) rfl (by kernel_rfl) (by kernel_rfl) (by kernel_rfl) (by kernel_rfl) (fun w' hb' => exec_load_at (b := w.heap.size) (off := 0) rfl (by kernel_rfl) (HZ.out _ (hb.trans (hb'.mono hb.size))).2.1 Try.underlying29 rfl info_fm.out) ?_
            refine plan.Rest.first 9 _ (.pointer (some ⟨w.heap.size, 1, none⟩)) rfl (by kernel_rfl) (by kernel_rfl) (by kernel_rfl) (by kernel_rfl) (fun w' hb' => (by kernel_rfl)) ?_
            refine plan.Rest.first 10 _ (.slice (some ⟨b, off, none⟩) L.length cap) rfl (by kernel_rfl) (by kernel_rfl) (by kernel_rfl) (by kernel_rfl) (fun w' hb' => exec_cell_slice (ad := ⟨w.heap.size, 1, none⟩) rfl (by kernel_rfl) (HZ.out _ (hb.trans (hb'.mono hb.size))).1 Try.isAgg27) ?_
            refine plan.Rest.first 11 _ (.int .i64 (k : Int)) rfl (by kernel_rfl) (by kernel_rfl) (by kernel_rfl) (by kernel_rfl) (fun w' hb' => (by kernel_rfl)) ?_
            refine plan.Rest.first 12 _ (.pointer (some ⟨b, off + k * 5, none⟩)) rfl (by kernel_rfl) (by kernel_rfl) (by kernel_rfl) (by kernel_rfl) (fun w' hb' => (exec_indexF (b := b) (off := off) (len := L.length) (cap := cap) (i := k) rfl (by kernel_rfl) (by kernel_rfl) hlt)) ?_
            refine plan.Rest.first 13 _ (.pointer (some ⟨b, off + k * 5, none⟩)) rfl (by kernel_rfl) (by kernel_rfl) (by kernel_rfl) (by kernel_rfl) (fun w' hb' => (by kernel_rfl)) ?_
            refine plan.Rest.first 14 _ (.int .i64 p.id) rfl (by kernel_rfl) (by kernel_rfl) (by kernel_rfl) (by kernel_rfl) (fun w' hb' => exec_cell_int (ad := ⟨b, off + k * 5, none⟩) rfl (by kernel_rfl) ((HZ.out _ (hb.trans (hb'.mono hb.size))).2.2 0 _ rfl) Try.isAgg3) ?_
            refine plan.Rest.first 16 _ (.int .i64 (k : Int)) rfl (by kernel_rfl) (by kernel_rfl) (by kernel_rfl) (by kernel_rfl) (fun w' hb' => (by kernel_rfl)) ?_
            refine plan.Rest.call 15 _ 16 #[.agg #[.int .i64 i, .slice (some ⟨b, off, none⟩) L.length cap], .int .i64 p.id] rfl (by kernel_rfl) (by kernel_rfl) (by kernel_rfl) ((ca W1 hb).mono ?_)
            rintro e W2 ⟨rfl, hn⟩
            have hb := hb.trans (hn.mono hb.size)
            refine ⟨_, rfl, hn, ?_⟩
            refine plan.Rest.first 17 _ (.bool false) rfl (by kernel_rfl) (by kernel_rfl) (by kernel_rfl) (by kernel_rfl) (fun w' hb' => (exec_neq_int (n := J) (m := (k : Int)) rfl (by kernel_rfl) (by kernel_rfl) HNQ)) ?_
            refine plan.Rest.first 18 _ (.bool false) rfl (by kernel_rfl) (by kernel_rfl) (by kernel_rfl) (by kernel_rfl) (fun w' hb' => (by kernel_rfl)) ?_
            refine plan.Rest.done (by kernel_rfl) ?_
            walk_nrm
            go_wp2
            exact ⟨⟨k + 1, by omega, by go_num, HOK2, hid (HB.out.trans (hb.mono HB.out.size))⟩, by simp [intOf]; omega⟩
        · have HNQ : Hid ((J != (k : Int)) = true) := hid (by simp [hj])
          obtain rfl : false = r := by rw [← hr.out]; exact (decide_eq_false (fun e => HNO.out (fun e2 => hj (HAT.out.2 (by rw [← ids_take]; exact e2.2))) (HFI.out.1 e).1)).symm
          clear hri hj c0 c1 c2 c3 c4
          go_wp2
          have hb : Below wr.heap.size wr wr.drew := below_drew (Below.refl _ _)
          · refine plan.region (by kernel_rfl) ?_
            refine plan.Rest.first 0 _ (.pointer (some ⟨w.heap.size, 1, none⟩)) rfl (by kernel_rfl) (by kernel_rfl) (by kernel_rfl) (by kernel_rfl) (fun w' hb' => (by kernel_rfl)) ?_
            refine plan.Rest.first 1 _ (.slice (some ⟨b, off, none⟩) L.length cap) rfl (by kernel_rfl) (by kernel_rfl) (by kernel_rfl) (by kernel_rfl) (fun w' hb' => exec_cell_slice (ad := ⟨w.heap.size, 1, none⟩) rfl (by kernel_rfl) (HZ.out _ (hb.trans (hb'.mono hb.size))).1 Try.isAgg27) ?_
            refine plan.Rest.first 2 _ (.int .i64 (k : Int)) rfl (by kernel_rfl) (by kernel_rfl) (by kernel_rfl) (by kernel_rfl) (fun w' hb' => (by kernel_rfl)) ?_
            refine plan.Rest.first 3 _ (.pointer (some ⟨b, off + k * 5, none⟩)) rfl (by kernel_rfl) (by kernel_rfl) (by kernel_rfl) (by kernel_rfl) (fun w' hb' => (exec_indexF (b := b) (off := off) (len := L.length) (cap := cap) (i := k) rfl (by kernel_rfl) (by kernel_rfl) hlt)) ?_
            refine plan.Rest.first 4 _ (.agg #[.int .i64 p.id, .int .i64 p.kind, .int .i64 p.lo, .int .i64 p.hi, .int .i64 p.most]) rfl (by kernel_rfl) (by kernel_rfl) (by kernel_rfl) (by kernel_rfl) (fun w' hb' => exec_load_at (b := b) (off := off + k * 5) rfl (by kernel_rfl) (HZ.out _ (hb.trans (hb'.mono hb.size))).2.2 Try.underlying50 rfl info_fd.out) ?_
            refine plan.Rest.call 5 _ 30 #[.agg #[.int .i64 p.id, .int .i64 p.kind, .int .i64 p.lo, .int .i64 p.hi, .int .i64 p.most]] rfl (by kernel_rfl) (by kernel_rfl) (by kernel_rfl) ((cr wr.drew).mono ?_)
            rintro e W1 ⟨rfl, hn⟩
            have hb := hb.trans (hn.mono hb.size)
            refine ⟨_, rfl, hn, ?_⟩
            refine plan.Rest.first 6 _ (.bool false) rfl (by kernel_rfl) (by kernel_rfl) (by kernel_rfl) (by kernel_rfl) (fun w' hb' => (by kernel_rfl)) ?_
            refine plan.Rest.first 7 _ (.bool false) rfl (by kernel_rfl) (by kernel_rfl) (by kernel_rfl) (by kernel_rfl) (fun w' hb' => (by kernel_rfl)) ?_
            refine plan.Rest.first 8 _ (.agg #[.int .i64 i, .slice (some ⟨b, off, none⟩) L.length cap]) rfl (by kernel_rfl) (by kernel_rfl) (by kernel_rfl) (by kernel_rfl) (fun w' hb' => exec_load_at (b := w.heap.size) (off := 0) rfl (by kernel_rfl) (HZ.out _ (hb.trans (hb'.mono hb.size))).2.1 Try.underlying29 rfl info_fm.out) ?_
            refine plan.Rest.first 9 _ (.pointer (some ⟨w.heap.size, 1, none⟩)) rfl (by kernel_rfl) (by kernel_rfl) (by kernel_rfl) (by kernel_rfl) (fun w' hb' => (by kernel_rfl)) ?_
            refine plan.Rest.first 10 _ (.slice (some ⟨b, off, none⟩) L.length cap) rfl (by kernel_rfl) (by kernel_rfl) (by kernel_rfl) (by kernel_rfl) (fun w' hb' => exec_cell_slice (ad := ⟨w.heap.size, 1, none⟩) rfl (by kernel_rfl) (HZ.out _ (hb.trans (hb'.mono hb.size))).1 Try.isAgg27) ?_
            refine plan.Rest.first 11 _ (.int .i64 (k : Int)) rfl (by kernel_rfl) (by kernel_rfl) (by kernel_rfl) (by kernel_rfl) (fun w' hb' => (by kernel_rfl)) ?_
            refine plan.Rest.first 12 _ (.pointer (some ⟨b, off + k * 5, none⟩)) rfl (by kernel_rfl) (by kernel_rfl) (by kernel_rfl) (by kernel_rfl) (fun w' hb' => (exec_indexF (b := b) (off := off) (len := L.length) (cap := cap) (i := k) rfl (by kernel_rfl) (by kernel_rfl) hlt)) ?_
            refine plan.Rest.first 13 _ (.pointer (some ⟨b, off + k * 5, none⟩)) rfl (by kernel_rfl) (by kernel_rfl) (by kernel_rfl) (by kernel_rfl) (fun w' hb' => (by kernel_rfl)) ?_
            refine plan.Rest.first 14 _ (.int .i64 p.id) rfl (by kernel_rfl) (by kernel_rfl) (by kernel_rfl) (by kernel_rfl) (fun w' hb' => exec_cell_int (ad := ⟨b, off + k * 5, none⟩) rfl (by kernel_rfl) ((HZ.out _ (hb.trans (hb'.mono hb.size))).2.2 0 _ rfl) Try.isAgg3) ?_
            refine plan.Rest.first 16 _ (.int .i64 (k : Int)) rfl (by kernel_rfl) (by kernel_rfl) (by kernel_rfl) (by kernel_rfl) (fun w' hb' => (by kernel_rfl)) ?_
            refine plan.Rest.call 15 _ 16 #[.agg #[.int .i64 i, .slice (some ⟨b, off, none⟩) L.length cap], .int .i64 p.id] rfl (by kernel_rfl) (by kernel_rfl) (by kernel_rfl) ((ca W1 hb).mono ?_)
            rintro e W2 ⟨rfl, hn⟩
            have hb := hb.trans (hn.mono hb.size)
            refine ⟨_, rfl, hn, ?_⟩
            refine plan.Rest.first 17 _ (.bool true) rfl (by kernel_rfl) (by kernel_rfl) (by kernel_rfl) (by kernel_rfl) (fun w' hb' => (exec_neq_int (n := J) (m := (k : Int)) rfl (by kernel_rfl) (by kernel_rfl) HNQ)) ?_
            refine plan.Rest.first 18 _ (.bool true) rfl (by kernel_rfl) (by kernel_rfl) (by kernel_rfl) (by kernel_rfl) (fun w' hb' => (by kernel_rfl)) ?_
            refine plan.Rest.done (by kernel_rfl) ?_
            walk_nrm
            go_wp2
            go_ret
            exact ⟨rfl, hbo.trans (hb.mono hbo.size)⟩
      · rw [decide_eq_false hri] at cr
        obtain rfl : false = r := by rw [← hr.out]; exact (decide_eq_false (fun e => HNO.out (fun e2 => hri e2.1) (HFI.out.1 e).1)).symm
        clear hri c0 c1 c2 c3 c4
        go_wp2
        have hb : Below wr.heap.size wr wr.drew := below_drew (Below.refl _ _)
        · refine plan.region (by kernel_rfl) ?_
          refine plan.Rest.first 0 _ (.pointer (some ⟨w.heap.size, 1, none⟩)) rfl (by kernel_rfl) (by kernel_rfl) (by kernel_rfl) (by kernel_rfl) (fun w' hb' => (by kernel_rfl)) ?_
          refine plan.Rest.first 1 _ (.slice (some ⟨b, off, none⟩) L.length cap) rfl (by kernel_rfl) (by kernel_rfl) (by kernel_rfl) (by kernel_rfl) (fun w' hb' => exec_cell_slice (ad := ⟨w.heap.size, 1, none⟩) rfl (by kernel_rfl) (HZ.out _ (hb.trans (hb'.mono hb.size))).1 Try.isAgg27) ?_
          refine plan.Rest.first 2 _ (.int .i64 (k : Int)) rfl (by kernel_rfl) (by kernel_rfl) (by kernel_rfl) (by kernel_rfl) (fun w' hb' => (by kernel_rfl)) ?_
          refine plan.Rest.first 3 _ (.pointer (some ⟨b, off + k * 5, none⟩)) rfl (by kernel_rfl) (by kernel_rfl) (by kernel_rfl) (by kernel_rfl) (fun w' hb' => (exec_indexF (b := b) (off := off) (len := L.length) (cap := cap) (i := k) rfl (by kernel_rfl) (by kernel_rfl) hlt)) ?_
          refine plan.Rest.first 4 _ (.agg #[.int .i64 p.id, .int .i64 p.kind, .int .i64 p.lo, .int .i64 p.hi, .int .i64 p.most]) rfl (by kernel_rfl) (by kernel_rfl) (by kernel_rfl) (by kernel_rfl) (fun w' hb' => exec_load_at (b := b) (off := off + k * 5) rfl (by kernel_rfl) (HZ.out _ (hb.trans (hb'.mono hb.size))).2.2 Try.underlying50 rfl info_fd.out) ?_
          refine plan.Rest.call 5 _ 30 #[.agg #[.int .i64 p.id, .int .i64 p.kind, .int .i64 p.lo, .int .i64 p.hi, .int .i64 p.most]] rfl (by kernel_rfl) (by kernel_rfl) (by kernel_rfl) ((cr wr.drew).mono ?_)
          rintro e W1 ⟨rfl, hn⟩
          have hb := hb.trans (hn.mono hb.size)
          refine ⟨_, rfl, hn, ?_⟩
          refine plan.Rest.first 6 _ (.bool true) rfl (by kernel_rfl) (by kernel_rfl) (by kernel_rfl) (by kernel_rfl) (fun w' hb' => (by kernel_rfl)) ?_
          refine plan.Rest.first 7 _ (.bool true) rfl (by kernel_rfl) (by kernel_rfl) (by kernel_rfl) (by kernel_rfl) (fun w' hb' => (by kernel_rfl)) ?_
          refine plan.Rest.skip 8 _ rfl (by kernel_rfl) (by kernel_rfl) (by kernel_rfl) (by kernel_rfl) ?_
          refine plan.Rest.skip 9 _ rfl (by kernel_rfl) (by kernel_rfl) (by kernel_rfl) (by kernel_rfl) ?_
          refine plan.Rest.skip 10 _ rfl (by kernel_rfl) (by kernel_rfl) (by kernel_rfl) (by kernel_rfl) ?_
          refine plan.Rest.skip 11 _ rfl (by kernel_rfl) (by kernel_rfl) (by kernel_rfl) (by kernel_rfl) ?_
          refine plan.Rest.skip 12 _ rfl (by kernel_rfl) (by kernel_rfl) (by kernel_rfl) (by kernel_rfl) ?_
          refine plan.Rest.skip 13 _ rfl (by kernel_rfl) (by kernel_rfl) (by kernel_rfl) (by kernel_rfl) ?_
          refine plan.Rest.skip 14 _ rfl (by kernel_rfl) (by kernel_rfl) (by kernel_rfl) (by kernel_rfl) ?_
          refine plan.Rest.skip 15 _ rfl (by kernel_rfl) (by kernel_rfl) (by kernel_rfl) (by kernel_rfl) ?_
          refine plan.Rest.skip 16 _ rfl (by kernel_rfl) (by kernel_rfl) (by kernel_rfl) (by kernel_rfl) ?_
          refine plan.Rest.skip 17 _ rfl (by kernel_rfl) (by kernel_rfl) (by kernel_rfl) (by kernel_rfl) ?_
          refine plan.Rest.first 18 _ (.bool true) rfl (by kernel_rfl) (by kernel_rfl) (by kernel_rfl) (by kernel_rfl) (fun w' hb' => (by kernel_rfl)) ?_
          refine plan.Rest.done (by kernel_rfl) ?_
          walk_nrm
          go_wp2
          go_ret
          exact ⟨rfl, hbo.trans (hb.mono hbo.size)⟩
    · obtain rfl : k = L.length := by omega
      have HOK2 : Hid (FineF L) := hid (by have := HOK.out; rw [List.take_of_length_le (Nat.le_refl _)] at this; exact this)
      have cl := refLong_any i a cap L wr (HF.out.below HB.out) (by omega)
      obtain rfl : decide ((size L : Int) ≤ 64) = r := by rw [← hr.out]; exact decide_eq_decide.2 ⟨fun e => HFI.out.2 ⟨HOK2.out, by omega⟩, fun e => by have := (HFI.out.1 e).2; omega⟩
      go_wp2_with (go_at_call 14; ((with_reducible refine cl.mono ?_); rintro e w2 ⟨rfl, hb2⟩))
      go_ret
      exact ⟨rfl, hbo.trans (hb2.mono hbo.size)⟩
end Go.Proofs.Ytacigmnnekphmaa.schema
/- Contract of the reference of layer 13 (schema): Right. No condition. -/
namespace Go.Proofs.Ytacigmnnekphmaa.schema
open Go.RowKit
open Go.Proofs.Ytacigmnnekphmaa.field (Gives newB gives_from)
set_option linter.unusedVariables false

set_option maxRecDepth 20000 in
set_option maxHeartbeats 1600000 in
theorem refRight_any (v : Int) (a : Option Addr) (cap : Nat) (F : List Fm) (w : World) (h : FmL w a F) (hF : F.length ≤ maxLen) :
    Calls Try.prog 18 #[.agg #[.int .i64 v, .slice a F.length cap]] w (Gives (.bool (decide (Right v (forms F)))) w) := by
  have hml : (F.length : Int) ≤ 9223372036854775807 := by unfold maxLen at hF; omega
  have HX := hid (boxS v a F cap w)
  have hw := newB w (.cells #[.int .i64 v, .slice a F.length cap] 24)
  have HF := hid (h.below hw)
  have HW := hid hw
  have HL := hid (forms_length F)
  obtain ⟨r, hr⟩ : ∃ r : Bool, Hid (decide (Right v (forms F)) = r) := ⟨_, rfl⟩
  rw [hr.out]
  unfold Gives
  clear h hw
  by_cases h1 : v < 1
  · obtain rfl : false = r := by rw [← hr.out]; exact (decide_eq_false (fun e => by have := e.1.1; omega)).symm
    have hd1 : decide (v < 1) = true := decide_eq_true h1
    clear h1
    go_enter Try.func18, Try.ntmps18
    go_wp2
    go_ret
    exact ⟨rfl, HW.out⟩
  have hd1 : decide (v < 1) = false := decide_eq_false h1
  by_cases h2 : v > 65535
  · obtain rfl : false = r := by rw [← hr.out]; exact (decide_eq_false (fun e => by have := e.1.2; omega)).symm
    have hd2 : decide (v > 65535) = true := decide_eq_true h2
    clear h1 h2
    go_enter Try.func18, Try.ntmps18
    go_wp2
    go_ret
    exact ⟨rfl, HW.out⟩
  have hd2 : decide (v > 65535) = false := decide_eq_false h2
  by_cases h4 : F.length > 8
  · obtain rfl : false = r := by rw [← hr.out]; exact (decide_eq_false (fun e => by have := e.2.1; rw [forms_length] at this; omega)).symm
    have hd4 : decide ((F.length : Int) > 8) = true := decide_eq_true (by omega)
    clear h1 h2 h4
    go_enter Try.func18, Try.ntmps18
    go_wp2
    go_ret
    exact ⟨rfl, HW.out⟩
  have hd4 : decide ((F.length : Int) > 8) = false := decide_eq_false (by omega)
  have HRI : Hid (Right v (forms F) ↔ FineS (forms F)) := hid ⟨fun e => e.2.2, fun e => ⟨by omega, by rw [forms_length]; omega, e⟩⟩
  have h8 : F.length ≤ 8 := by omega
  clear h1 h2 h4
  go_enter Try.func18, Try.ntmps18
  go_wp2
  clear hd1 hd2 hd4
  generalize (w.alloc (.cells #[.int .i64 v, .slice a F.length cap] 24)) = W0 at *
  go_loopw [3] (fun n wr => ∃ k : Nat, k ≤ F.length ∧ n = .int .i64 (k : Int) ∧ Hid (FineS ((forms F).take k)) ∧ Hid (Below W0.heap.size W0 wr)) (fun n _ => F.length - (intOf n).toNat)
  case atStart => exact ⟨0, Nat.zero_le _, rfl, hid FineS.nil, hid (Below.refl _ _)⟩
  case round =>
    obtain ⟨k, hk, rfl, HOK, HB⟩ := hrel
    obtain ⟨z0, z1, hbo⟩ := HX.out _ HB.out
    by_cases hlt : k < F.length
    · obtain ⟨b, off, p, rfl, hbl, hp, c0, c1, hfd, hfl⟩ := form_at HF.out HB.out hlt
      have i1 : (k : Int) < F.length := by omega
      have HNO := hid (fineS_no (forms_at hp))
      have HSUC := hid (fineS_succ (forms_at hp))
      have hR := range2 c0 c1
      obtain ⟨i, q, qc, L⟩ := p
      simp only [Fm.p] at HNO HSUC hR hfd hfl c0 c1
      have cf := fun w' (hb' : Below wr.heap.size wr w') => refFine_any i q qc L w' (hfd.below hb') hfl
      by_cases hf : Fine (i, L)
      · rw [decide_eq_true hf] at cf
        by_cases hk0 : k = 0
        · have HGT : Hid (decide ((k : Int) > 0) = false) := hid (by rw [hk0]; simp)
          have HOK2 : Hid (FineS ((forms F).take (k + 1))) := hid (HSUC.out.2 ⟨HOK.out, hf, by rw [hk0]; simp⟩)
          have HZ := hid (fun w' (hb' : Below wr.heap.size wr w') => (⟨by obtain ⟨_, y1, _⟩ := HX.out w' (HB.out.trans (hb'.mono HB.out.size)); exact y1, range_later hR hb' hbl⟩ : w'.cell? ⟨w.heap.size, 1, none⟩ = some (.slice (some ⟨b, off, none⟩) F.length cap) ∧ w'.rangeAt b (off + k * 2) [.int .i64 i, .slice q L.length qc]))
          clear hp hR hf c0 c1 hfd hk0 HOK HNO HSUC
          go_wp2
          have hb : Below wr.heap.size wr wr.drew := below_drew (Below.refl _ _)
          · refine plan.region (by kernel_rfl) ?_
            refine plan.Rest.first 0 _ (.pointer (some ⟨w.heap.size, 1, none⟩)) rfl (by kernel_rfl) (by kernel_rfl) (by kernel_rfl) (by kernel_rfl) (fun w' hb' => (by kernel_rfl)) ?_
            refine plan.Rest.first 1 _ (.slice (some ⟨b, off, none⟩) F.length cap) rfl (by kernel_rfl) (by kernel_rfl) (by kernel_rfl) (by kernel_rfl) (fun w' hb' => exec_cell_slice (ad := ⟨w.heap.size, 1, none⟩) rfl (by kernel_rfl) (HZ.out _ (hb.trans (hb'.mono hb.size))).1 Try.isAgg22) ?_
            refine plan.Rest.first 2 _ (.int .i64 (k : Int)) rfl (by kernel_rfl) (by kernel_rfl) (by kernel_rfl) (by kernel_rfl) (fun w' hb' => (by kernel_rfl)) ?_
            refine plan.Rest.first 3 _ (.pointer (some ⟨b, off + k * 2, none⟩)) rfl (by kernel_rfl) (by kernel_rfl) (by kernel_rfl) (by kernel_rfl) (fun w' hb' => (exec_indexM (b := b) (off := off) (len := F.length) (cap := cap) (i := k) rfl (by kernel_rfl) (by kernel_rfl) hlt)) ?_
            refine plan.Rest.first 4 _ (.agg #[.int .i64 i, .slice q L.length qc]) rfl (by kernel_rfl) (by kernel_rfl) (by kernel_rfl) (by kernel_rfl) (fun w' hb' => exec_load_at (b := b) (off := off + k * 2) rfl (by kernel_rfl) (HZ.out _ (hb.trans (hb'.mono hb.size))).2 Try.underlying29 rfl info_fm.out) ?_
            refine plan.Rest.call 5 _ 12 #[.agg #[.int .i64 i, .slice q L.length qc]] rfl (by kernel_rfl) (by kernel_rfl) (by kernel_rfl) ((cf wr.drew hb).mono ?_)
            rintro e W1 ⟨rfl, hn⟩
            have hb := hb.trans (hn.mono hb.size)
            refine ⟨_, rfl, hn, ?_⟩
            refine plan.Rest.first 6 _ (.bool false) rfl (by kernel_rfl) (by kernel_rfl) (by kernel_rfl) (by kernel_rfl) (fun w' hb' => (by kernel_rfl)) ?_
            refine plan.Rest.first 7 _ (.bool false) rfl (by kernel_rfl) (by kernel_rfl) (by kernel_rfl) (by kernel_rfl) (fun w' hb' => (by kernel_rfl)) ?_
            refine plan.Rest.first 8 _ (.int .i64 (k : Int)) rfl (by kernel_rfl) (by kernel_rfl) (by kernel_rfl) (by kernel_rfl) (fun w' hb' => (by kernel_rfl)) ?_
            refine plan.Rest.first 9 _ (.bool false) rfl (by kernel_rfl) (by kernel_rfl) (by kernel_rfl) (by kernel_rfl) (fun w' hb' => (exec_gtr_int (n := (k : Int)) (m := 0) rfl (by kernel_rfl) (by kernel_rfl) HGT)) ?_
            refine plan.Rest.first 10 _ (.bool false) rfl (by kernel_rfl) (by kernel_rfl) (by kernel_rfl) (by kernel_rfl) (fun w' hb' => (by kernel_rfl)) ?_
            refine plan.Rest.skip 11 _ rfl (by kernel_rfl) (by kernel_rfl) (by kernel_rfl) (by kernel_rfl) ?_
            refine plan.Rest.skip 12 _ rfl (by kernel_rfl) (by kernel_rfl) (by kernel_rfl) (by kernel_rfl) ?_
            refine plan.Rest.skip 13 _ rfl (by kernel_rfl) (by kernel_rfl) (by kernel_rfl) (by kernel_rfl) ?_
            refine plan.Rest.skip 14 _ rfl (by kernel_rfl) (by kernel_rfl) (by kernel_rfl) (by kernel_rfl) ?_
            refine plan.Rest.skip 15 _ rfl (by kernel_rfl) (by kernel_rfl) (by kernel_rfl) (by kernel_rfl) ?_
            refine plan.Rest.skip 16 _ rfl (by kernel_rfl) (by kernel_rfl) (by kernel_rfl) (by kernel_rfl) ?_
            refine plan.Rest.skip 17 _ rfl (by kernel_rfl) (by kernel_rfl) (by kernel_rfl) (by kernel_rfl) ?_
            refine plan.Rest.skip 18 _ rfl (by kernel_rfl) (by kernel_rfl) (by kernel_rfl) (by kernel_rfl) ?_
            refine plan.Rest.skip 19 _ rfl (by kernel_rfl) (by kernel_rfl) (by kernel_rfl) (by kernel_rfl) ?_
            refine plan.Rest.skip 20 _ rfl (by kernel_rfl) (by kernel_rfl) (by kernel_rfl) (by kernel_rfl) ?_
            refine plan.Rest.skip 21 _ rfl (by kernel_rfl) (by kernel_rfl) (by kernel_rfl) (by kernel_rfl) ?_
            refine plan.Rest.skip 22 _ rfl (by kernel_rfl) (by kernel_rfl) (by kernel_rfl) (by kernel_rfl) ?_
            refine plan.Rest.skip 23 _ rfl (by kernel_rfl) (by kernel_rfl) (by kernel_rfl) (by kernel_rfl) ?_
            refine plan.Rest.skip 24 _ rfl (by kernel_rfl) (by kernel_rfl) (by kernel_rfl) (by kernel_rfl) ?_
            refine plan.Rest.first 25 _ (.bool false) rfl (by kernel_rfl) (by kernel_rfl) (by kernel_rfl) (by kernel_rfl) (fun w' hb' => (by kernel_rfl)) ?_
            refine plan.Rest.first 26 _ (.bool false) rfl (by kernel_rfl) (by kernel_rfl) (by kernel_rfl) (by kernel_rfl) (fun w' hb' => (by kernel_rfl)) ?_
            refine plan.Rest.done (by kernel_rfl) ?_
            walk_nrm
            go_wp2
            exact ⟨⟨k + 1, by omega, by go_num, HOK2, hid (HB.out.trans (hb.mono HB.out.size))⟩, by simp [intOf]; omega⟩
        · obtain ⟨k, rfl⟩ : ∃ j, k = j + 1 := ⟨k - 1, by omega⟩
          clear hk0
          have hlt1 : k < F.length := by omega
          obtain ⟨b', off', p0, hab, hbl', hp0, d0, _, _, _⟩ := form_at HF.out HB.out hlt1
          obtain ⟨rfl, rfl⟩ : b = b' ∧ off = off' := by cases hab; exact ⟨rfl, rfl⟩
          clear hab
          obtain ⟨i0, q0, qc0, L0⟩ := p0
          have HRI2 := hid (rise (x := (i, L)) (forms_at hp0) HOK.out)
          simp only [Fm.p] at HRI2 d0
          have HGT : Hid (decide (((k + 1 : Nat) : Int) > 0) = true) := hid (decide_eq_true (by omega))
          have HZ := hid (fun w' (hb' : Below wr.heap.size wr w') => (⟨by obtain ⟨_, y1, _⟩ := HX.out w' (HB.out.trans (hb'.mono HB.out.size)); exact y1, range_later hR hb' hbl, (hb'.cell (p := ⟨b, off + k * 2, none⟩) hbl).trans d0⟩ : w'.cell? ⟨w.heap.size, 1, none⟩ = some (.slice (some ⟨b, off, none⟩) F.length cap) ∧ w'.rangeAt b (off + (k + 1) * 2) [.int .i64 i, .slice q L.length qc] ∧ w'.cell? ⟨b, off + k * 2, none⟩ = some (.int .i64 i0)))
          clear hp hR c0 c1 hfd hp0 d0
          by_cases hg : i0 ≥ i
          · have HGE : Hid (decide (i0 ≥ i) = true) := hid (decide_eq_true hg)
            obtain rfl : false = r := by rw [← hr.out]; exact (decide_eq_false (fun e => HNO.out (fun e2 => by have := HRI2.out.1 e2.2; omega) (HRI.out.1 e))).symm
            clear hg hf
            go_wp2
            have hb : Below wr.heap.size wr wr.drew := below_drew (Below.refl _ _)
            · refine plan.region (by kernel_rfl) ?_
              refine plan.Rest.first 0 _ (.pointer (some ⟨w.heap.size, 1, none⟩)) rfl (by kernel_rfl) (by kernel_rfl) (by kernel_rfl) (by kernel_rfl) (fun w' hb' => (by kernel_rfl)) ?_
              refine plan.Rest.first 1 _ (.slice (some ⟨b, off, none⟩) F.length cap) rfl (by kernel_rfl) (by kernel_rfl) (by kernel_rfl) (by kernel_rfl) (fun w' hb' => exec_cell_slice (ad := ⟨w.heap.size, 1, none⟩) rfl (by kernel_rfl) (HZ.out _ (hb.trans (hb'.mono hb.size))).1 Try.isAgg22) ?_
              refine plan.Rest.first 2 _ (.int .i64 ((k + 1 : Nat) : Int)) rfl (by kernel_rfl) (by kernel_rfl) (by kernel_rfl) (by kernel_rfl) (fun w' hb' => (by kernel_rfl)) ?_
              refine plan.Rest.first 3 _ (.pointer (some ⟨b, off + (k + 1) * 2, none⟩)) rfl (by kernel_rfl) (by kernel_rfl) (by kernel_rfl) (by kernel_rfl) (fun w' hb' => (exec_indexM (b := b) (off := off) (len := F.length) (cap := cap) (i := (k + 1)) rfl (by kernel_rfl) (by kernel_rfl) hlt)) ?_
              refine plan.Rest.first 4 _ (.agg #[.int .i64 i, .slice q L.length qc]) rfl (by kernel_rfl) (by kernel_rfl) (by kernel_rfl) (by kernel_rfl) (fun w' hb' => exec_load_at (b := b) (off := off + (k + 1) * 2) rfl (by kernel_rfl) (HZ.out _ (hb.trans (hb'.mono hb.size))).2.1 Try.underlying29 rfl info_fm.out) ?_
              refine plan.Rest.call 5 _ 12 #[.agg #[.int .i64 i, .slice q L.length qc]] rfl (by kernel_rfl) (by kernel_rfl) (by kernel_rfl) ((cf wr.drew hb).mono ?_)
              rintro e W1 ⟨rfl, hn⟩
              have hb := hb.trans (hn.mono hb.size)
              refine ⟨_, rfl, hn, ?_⟩
              refine plan.Rest.first 6 _ (.bool false) rfl (by kernel_rfl) (by kernel_rfl) (by kernel_rfl) (by kernel_rfl) (fun w' hb' => (by kernel_rfl)) ?_
              refine plan.Rest.first 7 _ (.bool false) rfl (by kernel_rfl) (by kernel_rfl) (by kernel_rfl) (by kernel_rfl) (fun w' hb' => (by kernel_rfl)) ?_
              refine plan.Rest.first 8 _ (.int .i64 ((k + 1 : Nat) : Int)) rfl (by kernel_rfl) (by kernel_rfl) (by kernel_rfl) (by kernel_rfl) (fun w' hb' => (by kernel_rfl)) ?_
              refine plan.Rest.first 9 _ (.bool true) rfl (by kernel_rfl) (by kernel_rfl) (by kernel_rfl) (by kernel_rfl) (fun w' hb' => (exec_gtr_int (n := ((k + 1 : Nat) : Int)) (m := 0) rfl (by kernel_rfl) (by kernel_rfl) HGT)) ?_
              refine plan.Rest.first 10 _ (.bool true) rfl (by kernel_rfl) (by kernel_rfl) (by kernel_rfl) (by kernel_rfl) (fun w' hb' => (by kernel_rfl)) ?_
              refine plan.Rest.first 11 _ (.pointer (some ⟨w.heap.size, 1, none⟩)) rfl (by kernel_rfl) (by kernel_rfl) (by kernel_rfl) (by kernel_rfl) (fun w' hb' => (by kernel_rfl)) ?_
              refine plan.Rest.first 12 _ (.slice (some ⟨b, off, none⟩) F.length cap) rfl (by kernel_rfl) (by kernel_rfl) (by kernel_rfl) (by kernel_rfl) (fun w' hb' => exec_cell_slice (ad := ⟨w.heap.size, 1, none⟩) rfl (by kernel_rfl) (HZ.out _ (hb.trans (hb'.mono hb.size))).1 Try.isAgg22) ?_
              refine plan.Rest.first 13 _ (.int .i64 ((k + 1 : Nat) : Int)) rfl (by kernel_rfl) (by kernel_rfl) (by kernel_rfl) (by kernel_rfl) (fun w' hb' => (by kernel_rfl)) ?_
              refine plan.Rest.first 14 _ (.int .i64 (k : Int)) rfl (by kernel_rfl) (by kernel_rfl) (by kernel_rfl) (by kernel_rfl) (fun w' hb' => (exec_pred (k := k) rfl (by kernel_rfl) (by kernel_rfl) (by omega))) ?_
              refine plan.Rest.first 15 _ (.pointer (some ⟨b, off + k * 2, none⟩)) rfl (by kernel_rfl) (by kernel_rfl) (by kernel_rfl) (by kernel_rfl) (fun w' hb' => (exec_indexM (b := b) (off := off) (len := F.length) (cap := cap) (i := k) rfl (by kernel_rfl) (by kernel_rfl) hlt1)) ?_
              refine plan.Rest.first 16 _ (.pointer (some ⟨b, off + k * 2, none⟩)) rfl (by kernel_rfl) (by kernel_rfl) (by kernel_rfl) (by kernel_rfl) (fun w' hb' => (by kernel_rfl)) ?_
              refine plan.Rest.first 17 _ (.int .i64 i0) rfl (by kernel_rfl) (by kernel_rfl) (by kernel_rfl) (by kernel_rfl) (fun w' hb' => exec_cell_int (ad := ⟨b, off + k * 2, none⟩) rfl (by kernel_rfl) (HZ.out _ (hb.trans (hb'.mono hb.size))).2.2 Try.isAgg3) ?_
              refine plan.Rest.first 18 _ (.pointer (some ⟨w.heap.size, 1, none⟩)) rfl (by kernel_rfl) (by kernel_rfl) (by kernel_rfl) (by kernel_rfl) (fun w' hb' => (by kernel_rfl)) ?_
              refine plan.Rest.first 19 _ (.slice (some ⟨b, off, none⟩) F.length cap) rfl (by kernel_rfl) (by kernel_rfl) (by kernel_rfl) (by kernel_rfl) (fun w' hb' => exec_cell_slice (ad := ⟨w.heap.size, 1, none⟩) rfl (by kernel_rfl) (HZ.out _ (hb.trans (hb'.mono hb.size))).1 Try.isAgg22) ?_
              refine plan.Rest.first 20 _ (.int .i64 ((k + 1 : Nat) : Int)) rfl (by kernel_rfl) (by kernel_rfl) (by kernel_rfl) (by kernel_rfl) (fun w' hb' => (by kernel_rfl)) ?_
              refine plan.Rest.first 21 _ (.pointer (some ⟨b, off + (k + 1) * 2, none⟩)) rfl (by kernel_rfl) (by kernel_rfl) (by kernel_rfl) (by kernel_rfl) (fun w' hb' => (exec_indexM (b := b) (off := off) (len := F.length) (cap := cap) (i := (k + 1)) rfl (by kernel_rfl) (by kernel_rfl) hlt)) ?_
              refine plan.Rest.first 22 _ (.pointer (some ⟨b, off + (k + 1) * 2, none⟩)) rfl (by kernel_rfl) (by kernel_rfl) (by kernel_rfl) (by kernel_rfl) (fun w' hb' => (by kernel_rfl)) ?_
              refine plan.Rest.first 23 _ (.int .i64 i) rfl (by kernel_rfl) (by kernel_rfl) (by kernel_rfl) (by kernel_rfl) (fun w' hb' => exec_cell_int (ad := ⟨b, off + (k + 1) * 2, none⟩) rfl (by kernel_rfl) ((HZ.out _ (hb.trans (hb'.mono hb.size))).2.1 0 _ rfl) Try.isAgg3) ?_
              refine plan.Rest.first 24 _ (.bool true) rfl (by kernel_rfl) (by kernel_rfl) (by kernel_rfl) (by kernel_rfl) (fun w' hb' => (exec_geq_int (n := i0) (m := i) rfl (by kernel_rfl) (by kernel_rfl) HGE)) ?_
              refine plan.Rest.first 25 _ (.bool true) rfl (by kernel_rfl) (by kernel_rfl) (by kernel_rfl) (by kernel_rfl) (fun w' hb' => (by kernel_rfl)) ?_
              refine plan.Rest.first 26 _ (.bool true) rfl (by kernel_rfl) (by kernel_rfl) (by kernel_rfl) (by kernel_rfl) (fun w' hb' => (by kernel_rfl)) ?_
              refine plan.Rest.done (by kernel_rfl) ?_
              walk_nrm
              go_wp2
              go_ret
              exact ⟨rfl, hbo.trans (hb.mono hbo.size)⟩
          · have HGE : Hid (decide (i0 ≥ i) = false) := hid (decide_eq_false hg)
            have HOK2 : Hid (FineS ((forms F).take (k + 1 + 1))) := hid (HSUC.out.2 ⟨HOK.out, hf, HRI2.out.2 (by omega)⟩)
            clear hg hf
            go_wp2
            have hb : Below wr.heap.size wr wr.drew := below_drew (Below.refl _ _)
            · refine plan.region (by kernel_rfl) ?_
              refine plan.Rest.first 0 _ (.pointer (some ⟨w.heap.size, 1, none⟩)) rfl (by kernel_rfl) (by kernel_rfl) (by kernel_rfl) (by kernel_rfl) (fun w' hb' => (by kernel_rfl)) ?_
              refine plan.Rest.first 1 _ (.slice (some ⟨b, off, none⟩) F.length cap) rfl (by kernel_rfl) (by kernel_rfl) (by kernel_rfl) (by kernel_rfl) (fun w' hb' => exec_cell_slice (ad := ⟨w.heap.size, 1, none⟩) rfl (by kernel_rfl) (HZ.out _ (hb.trans (hb'.mono hb.size))).1 Try.isAgg22) ?_
              refine plan.Rest.first 2 _ (.int .i64 ((k + 1 : Nat) : Int)) rfl (by kernel_rfl) (by kernel_rfl) (by kernel_rfl) (by kernel_rfl) (fun w' hb' => (by kernel_rfl)) ?_
              refine plan.Rest.first 3 _ (.pointer (some ⟨b, off + (k + 1) * 2, none⟩)) rfl (by kernel_rfl) (by kernel_rfl) (by kernel_rfl) (by kernel_rfl) (fun w' hb' => (exec_indexM (b := b) (off := off) (len := F.length) (cap := cap) (i := (k + 1)) rfl (by kernel_rfl) (by kernel_rfl) hlt)) ?_
              refine plan.Rest.first 4 _ (.agg #[.int .i64 i, .slice q L.length qc]) rfl (by kernel_rfl) (by kernel_rfl) (by kernel_rfl) (by kernel_rfl) (fun w' hb' => exec_load_at (b := b) (off := off + (k + 1) * 2) rfl (by kernel_rfl) (HZ.out _ (hb.trans (hb'.mono hb.size))).2.1 Try.underlying29 rfl info_fm.out) ?_
              refine plan.Rest.call 5 _ 12 #[.agg #[.int .i64 i, .slice q L.length qc]] rfl (by kernel_rfl) (by kernel_rfl) (by kernel_rfl) ((cf wr.drew hb).mono ?_)
              rintro e W1 ⟨rfl, hn⟩
              have hb := hb.trans (hn.mono hb.size)
              refine ⟨_, rfl, hn, ?_⟩
              refine plan.Rest.first 6 _ (.bool false) rfl (by kernel_rfl) (by kernel_rfl) (by kernel_rfl) (by kernel_rfl) (fun w' hb' => (by kernel_rfl)) ?_
              refine plan.Rest.first 7 _ (.bool false) rfl (by kernel_rfl) (by kernel_rfl) (by kernel_rfl) (by kernel_rfl) (fun w' hb' => (by kernel_rfl)) ?_
              refine plan.Rest.first 8 _ (.int .i64 ((k + 1 : Nat) : Int)) rfl (by kernel_rfl) (by kernel_rfl) (by kernel_rfl) (by kernel_rfl) (fun w' hb' => (by kernel_rfl)) ?_
              refine plan.Rest.first 9 _ (.bool true) rfl (by kernel_rfl) (by kernel_rfl) (by kernel_rfl) (by kernel_rfl) (fun w' hb' => (exec_gtr_int (n := ((k + 1 : Nat) : Int)) (m := 0) rfl (by kernel_rfl) (by kernel_rfl) HGT)) ?_
              refine plan.Rest.first 10 _ (.bool true) rfl (by kernel_rfl) (by kernel_rfl) (by kernel_rfl) (by kernel_rfl) (fun w' hb' => (by kernel_rfl)) ?_
              refine plan.Rest.first 11 _ (.pointer (some ⟨w.heap.size, 1, none⟩)) rfl (by kernel_rfl) (by kernel_rfl) (by kernel_rfl) (by kernel_rfl) (fun w' hb' => (by kernel_rfl)) ?_
              refine plan.Rest.first 12 _ (.slice (some ⟨b, off, none⟩) F.length cap) rfl (by kernel_rfl) (by kernel_rfl) (by kernel_rfl) (by kernel_rfl) (fun w' hb' => exec_cell_slice (ad := ⟨w.heap.size, 1, none⟩) rfl (by kernel_rfl) (HZ.out _ (hb.trans (hb'.mono hb.size))).1 Try.isAgg22) ?_
              refine plan.Rest.first 13 _ (.int .i64 ((k + 1 : Nat) : Int)) rfl (by kernel_rfl) (by kernel_rfl) (by kernel_rfl) (by kernel_rfl) (fun w' hb' => (by kernel_rfl)) ?_
              refine plan.Rest.first 14 _ (.int .i64 (k : Int)) rfl (by kernel_rfl) (by kernel_rfl) (by kernel_rfl) (by kernel_rfl) (fun w' hb' => (exec_pred (k := k) rfl (by kernel_rfl) (by kernel_rfl) (by omega))) ?_
              refine plan.Rest.first 15 _ (.pointer (some ⟨b, off + k * 2, none⟩)) rfl (by kernel_rfl) (by kernel_rfl) (by kernel_rfl) (by kernel_rfl) (fun w' hb' => (exec_indexM (b := b) (off := off) (len := F.length) (cap := cap) (i := k) rfl (by kernel_rfl) (by kernel_rfl) hlt1)) ?_
              refine plan.Rest.first 16 _ (.pointer (some ⟨b, off + k * 2, none⟩)) rfl (by kernel_rfl) (by kernel_rfl) (by kernel_rfl) (by kernel_rfl) (fun w' hb' => (by kernel_rfl)) ?_
              refine plan.Rest.first 17 _ (.int .i64 i0) rfl (by kernel_rfl) (by kernel_rfl) (by kernel_rfl) (by kernel_rfl) (fun w' hb' => exec_cell_int (ad := ⟨b, off + k * 2, none⟩) rfl (by kernel_rfl) (HZ.out _ (hb.trans (hb'.mono hb.size))).2.2 Try.isAgg3) ?_
              refine plan.Rest.first 18 _ (.pointer (some ⟨w.heap.size, 1, none⟩)) rfl (by kernel_rfl) (by kernel_rfl) (by kernel_rfl) (by kernel_rfl) (fun w' hb' => (by kernel_rfl)) ?_
              refine plan.Rest.first 19 _ (.slice (some ⟨b, off, none⟩) F.length cap) rfl (by kernel_rfl) (by kernel_rfl) (by kernel_rfl) (by kernel_rfl) (fun w' hb' => exec_cell_slice (ad := ⟨w.heap.size, 1, none⟩) rfl (by kernel_rfl) (HZ.out _ (hb.trans (hb'.mono hb.size))).1 Try.isAgg22) ?_
              refine plan.Rest.first 20 _ (.int .i64 ((k + 1 : Nat) : Int)) rfl (by kernel_rfl) (by kernel_rfl) (by kernel_rfl) (by kernel_rfl) (fun w' hb' => (by kernel_rfl)) ?_
              refine plan.Rest.first 21 _ (.pointer (some ⟨b, off + (k + 1) * 2, none⟩)) rfl (by kernel_rfl) (by kernel_rfl) (by kernel_rfl) (by kernel_rfl) (fun w' hb' => (exec_indexM (b := b) (off := off) (len := F.length) (cap := cap) (i := (k + 1)) rfl (by kernel_rfl) (by kernel_rfl) hlt)) ?_
              refine plan.Rest.first 22 _ (.pointer (some ⟨b, off + (k + 1) * 2, none⟩)) rfl (by kernel_rfl) (by kernel_rfl) (by kernel_rfl) (by kernel_rfl) (fun w' hb' => (by kernel_rfl)) ?_
              refine plan.Rest.first 23 _ (.int .i64 i) rfl (by kernel_rfl) (by kernel_rfl) (by kernel_rfl) (by kernel_rfl) (fun w' hb' => exec_cell_int (ad := ⟨b, off + (k + 1) * 2, none⟩) rfl (by kernel_rfl) ((HZ.out _ (hb.trans (hb'.mono hb.size))).2.1 0 _ rfl) Try.isAgg3) ?_
              refine plan.Rest.first 24 _ (.bool false) rfl (by kernel_rfl) (by kernel_rfl) (by kernel_rfl) (by kernel_rfl) (fun w' hb' => (exec_geq_int (n := i0) (m := i) rfl (by kernel_rfl) (by kernel_rfl) HGE)) ?_
              refine plan.Rest.first 25 _ (.bool false) rfl (by kernel_rfl) (by kernel_rfl) (by kernel_rfl) (by kernel_rfl) (fun w' hb' => (by kernel_rfl)) ?_
              refine plan.Rest.first 26 _ (.bool false) rfl (by kernel_rfl) (by kernel_rfl) (by kernel_rfl) (by kernel_rfl) (fun w' hb' => (by kernel_rfl)) ?_
              refine plan.Rest.done (by kernel_rfl) ?_
              walk_nrm
              go_wp2
              exact ⟨⟨k + 1 + 1, by omega, by go_num, HOK2, hid (HB.out.trans (hb.mono HB.out.size))⟩, by simp [intOf]; omega⟩
      · rw [decide_eq_false hf] at cf
        obtain rfl : false = r := by rw [← hr.out]; exact (decide_eq_false (fun e => HNO.out (fun e2 => hf e2.1) (HRI.out.1 e))).symm
        have HZ := hid (fun w' (hb' : Below wr.heap.size wr w') => (⟨by obtain ⟨_, y1, _⟩ := HX.out w' (HB.out.trans (hb'.mono HB.out.size)); exact y1, range_later hR hb' hbl⟩ : w'.cell? ⟨w.heap.size, 1, none⟩ = some (.slice (some ⟨b, off, none⟩) F.length cap) ∧ w'.rangeAt b (off + k * 2) [.int .i64 i, .slice q L.length qc]))
        clear hp hR hf c0 c1 hfd
        go_wp2
        have hb : Below wr.heap.size wr wr.drew := below_drew (Below.refl _ _)
        · refine plan.region (by kernel_rfl) ?_
          refine plan.Rest.first 0 _ (.pointer (some ⟨w.heap.size, 1, none⟩)) rfl (by kernel_rfl) (by kernel_rfl) (by kernel_rfl) (by kernel_rfl) (fun w' hb' => (by kernel_rfl)) ?_
          refine plan.Rest.first 1 _ (.slice (some ⟨b, off, none⟩) F.length cap) rfl (by kernel_rfl) (by kernel_rfl) (by kernel_rfl) (by kernel_rfl) (fun w' hb' => exec_cell_slice (ad := ⟨w.heap.size, 1, none⟩) rfl (by kernel_rfl) (HZ.out _ (hb.trans (hb'.mono hb.size))).1 Try.isAgg22) ?_
          refine plan.Rest.first 2 _ (.int .i64 (k : Int)) rfl (by kernel_rfl) (by kernel_rfl) (by kernel_rfl) (by kernel_rfl) (fun w' hb' => (by kernel_rfl)) ?_
          refine plan.Rest.first 3 _ (.pointer (some ⟨b, off + k * 2, none⟩)) rfl (by kernel_rfl) (by kernel_rfl) (by kernel_rfl) (by kernel_rfl) (fun w' hb' => (exec_indexM (b := b) (off := off) (len := F.length) (cap := cap) (i := k) rfl (by kernel_rfl) (by kernel_rfl) hlt)) ?_
          refine plan.Rest.first 4 _ (.agg #[.int .i64 i, .slice q L.length qc]) rfl (by kernel_rfl) (by kernel_rfl) (by kernel_rfl) (by kernel_rfl) (fun w' hb' => exec_load_at (b := b) (off := off + k * 2) rfl (by kernel_rfl) (HZ.out _ (hb.trans (hb'.mono hb.size))).2 Try.underlying29 rfl info_fm.out) ?_
          refine plan.Rest.call 5 _ 12 #[.agg #[.int .i64 i, .slice q L.length qc]] rfl (by kernel_rfl) (by kernel_rfl) (by kernel_rfl) ((cf wr.drew hb).mono ?_)
          rintro e W1 ⟨rfl, hn⟩
          have hb := hb.trans (hn.mono hb.size)
          refine ⟨_, rfl, hn, ?_⟩
          refine plan.Rest.first 6 _ (.bool true) rfl (by kernel_rfl) (by kernel_rfl) (by kernel_rfl) (by kernel_rfl) (fun w' hb' => (by kernel_rfl)) ?_
          refine plan.Rest.first 7 _ (.bool true) rfl (by kernel_rfl) (by kernel_rfl) (by kernel_rfl) (by kernel_rfl) (fun w' hb' => (by kernel_rfl)) ?_
          refine plan.Rest.skip 8 _ rfl (by kernel_rfl) (by kernel_rfl) (by kernel_rfl) (by kernel_rfl) ?_
          refine plan.Rest.skip 9 _ rfl (by kernel_rfl) (by kernel_rfl) (by kernel_rfl) (by kernel_rfl) ?_
          refine plan.Rest.skip 10 _ rfl (by kernel_rfl) (by kernel_rfl) (by kernel_rfl) (by kernel_rfl) ?_
          refine plan.Rest.skip 11 _ rfl (by kernel_rfl) (by kernel_rfl) (by kernel_rfl) (by kernel_rfl) ?_
          refine plan.Rest.skip 12 _ rfl (by kernel_rfl) (by kernel_rfl) (by kernel_rfl) (by kernel_rfl) ?_
          refine plan.Rest.skip 13 _ rfl (by kernel_rfl) (by kernel_rfl) (by kernel_rfl) (by kernel_rfl) ?_
          refine plan.Rest.skip 14 _ rfl (by kernel_rfl) (by kernel_rfl) (by kernel_rfl) (by kernel_rfl) ?_
          refine plan.Rest.skip 15 _ rfl (by kernel_rfl) (by kernel_rfl) (by kernel_rfl) (by kernel_rfl) ?_
          refine plan.Rest.skip 16 _ rfl (by kernel_rfl) (by kernel_rfl) (by kernel_rfl) (by kernel_rfl) ?_
          refine plan.Rest.skip 17 _ rfl (by kernel_rfl) (by kernel_rfl) (by kernel_rfl) (by kernel_rfl) ?_
          refine plan.Rest.skip 18 _ rfl (by kernel_rfl) (by kernel_rfl) (by kernel_rfl) (by kernel_rfl) ?_
          refine plan.Rest.skip 19 _ rfl (by kernel_rfl) (by kernel_rfl) (by kernel_rfl) (by kernel_rfl) ?_
          refine plan.Rest.skip 20 _ rfl (by kernel_rfl) (by kernel_rfl) (by kernel_rfl) (by kernel_rfl) ?_
          refine plan.Rest.skip 21 _ rfl (by kernel_rfl) (by kernel_rfl) (by kernel_rfl) (by kernel_rfl) ?_
          refine plan.Rest.skip 22 _ rfl (by kernel_rfl) (by kernel_rfl) (by kernel_rfl) (by kernel_rfl) ?_
          refine plan.Rest.skip 23 _ rfl (by kernel_rfl) (by kernel_rfl) (by kernel_rfl) (by kernel_rfl) ?_
          refine plan.Rest.skip 24 _ rfl (by kernel_rfl) (by kernel_rfl) (by kernel_rfl) (by kernel_rfl) ?_
          refine plan.Rest.skip 25 _ rfl (by kernel_rfl) (by kernel_rfl) (by kernel_rfl) (by kernel_rfl) ?_
          refine plan.Rest.first 26 _ (.bool true) rfl (by kernel_rfl) (by kernel_rfl) (by kernel_rfl) (by kernel_rfl) (fun w' hb' => (by kernel_rfl)) ?_
          refine plan.Rest.done (by kernel_rfl) ?_
          walk_nrm
          go_wp2
          go_ret
          exact ⟨rfl, hbo.trans (hb.mono hbo.size)⟩
    · obtain rfl : k = F.length := by omega
      obtain rfl : true = r := by rw [← hr.out]; have := HOK.out; rw [List.take_of_length_le (by rw [HL.out]; exact Nat.le_refl _)] at this; exact (decide_eq_true (HRI.out.2 this)).symm
      go_wp2
      go_ret
      exact ⟨rfl, hbo⟩
end Go.Proofs.Ytacigmnnekphmaa.schema
/- Contract of the reference of layer 13 (schema): Parse. No condition but bytes that are fewer than 2^47. -/
namespace Go.Proofs.Ytacigmnnekphmaa.schema
open Go.RowKit Go.Proofs.Ytacigmnnekphmaa.pen
set_option linter.unusedVariables false

theorem wpList_push_fm {w : World} {ops : Array Oper} {rest : List Oper} {o : Oper} {a : Act} {Q : Exit → Act → World → Prop} (hgd : o.guard = none) (s x : Operand)
    (ho : o.op = .call { callee := .builtin .append, args := #[s, x], argTypes := #[22, 22] }) {u : Value} {B n g : Nat} {L : List Fm} {p : Fm} (hs : a.eval s = u) (hx : a.eval x = .slice (some ⟨g, 0, none⟩) 1 1)
    (hown : w.ownsRow B 29 2 u n (fmV L)) (hb : Block w g 29 (fmC p)) (hn : n ≤ 1000) (hB : B ≤ w.heap.size)
    (h : ∀ q w', w'.ownsRow B 29 2 q (n + 1) (fmV (L ++ [p])) → w.grownBy w' u.ownBlock → wpList Try.prog ops Q rest (a.put o.dst q) w') : wpList Try.prog ops Q (o :: rest) a w := by
  obtain ⟨q, w', h1, h2, h3⟩ := exec_push_fm ho hs hx hown hb hn hB
  refine wpList_plain hgd fun K hK => ?_
  unfold Oper.wp
  rw [h1]
  exact hK _ _ (h q w' h2 h3)
theorem eye_lit (xs : List Nat) (w : World) (a : Option Addr) (c : Nat) (t : TypeId) (hr : Reads .u8 w a xs.length xs) (hc : xs.length ≤ c) (hx : ∀ c ∈ xs, c < 256) (hl : xs.length ≤ 140737488355328) :
    EyeAt t w.heap.size (xs, 0) (w.alloc (.cells #[.slice a xs.length c, .int .i64 0] t)) := by
  refine ⟨hx, hl, a, c, Block.new w t [.slice a xs.length c, .int .i64 0], hc, hr.below ((Below.refl _ _).alloc (Nat.le_refl _) _), fun h0 x hx => ?_⟩
  rcases hr.2 with e | ⟨b', off, ha, hlt, _⟩
  · simp only at h0; omega
  · rw [hx] at ha; cases ha; exact hlt
set_option maxRecDepth 20000 in
set_option maxHeartbeats 1600000 in
theorem refParse_any (a : Option Addr) (c : Nat) (xs : List Nat) (w : World) (hr : Reads .u8 w a xs.length xs) (hc : xs.length ≤ c) (hx : ∀ c ∈ xs, c < 256) (hl : xs.length ≤ 140737488355328) :
    Calls Try.prog 24 #[.slice a xs.length c] w (ParsedAs xs w) := by
  obtain ⟨V, s1, hV⟩ : ∃ V s1, eCount 65535 (xs, 0) = (V, s1) := ⟨_, _, rfl⟩
  obtain ⟨N, s2, hN⟩ : ∃ N s2, eCount 8 s1 = (N, s2) := ⟨_, _, rfl⟩
  have hN8 : N ≤ 8 := by have := eCount_le 8 s1; rw [show ((8 : Nat) : Int) = 8 from rfl, hN] at this; exact this
  have hP : parsed xs = (if eEnd (takeFms N s2).2 ≠ 0 then (0, [], eEnd (takeFms N s2).2) else if Right V (takeFms N s2).1 then ((V : Int), (takeFms N s2).1, 0) else (0, [], 2)) := by
    have h1 : readV xs = (V, s1) := hV
    have h2 : readN xs = (N, s2) := by unfold readN; rw [h1]; exact hN
    have h3 : readF xs = takeFms N s2 := by unfold readF; rw [h2]
    unfold parsed
    rw [h3, h1]
  have HP := hid hP
  clear hP
  have hb0 := field.newB w (.cells #[.int .i64 0, .slice none 0 0] 24)
  have hbe := field.newB (w.alloc (.cells #[.int .i64 0, .slice none 0 0] 24)) (.cells #[.slice a xs.length c, .int .i64 0] 74)
  have hE0 := eye_lit xs (w.alloc (.cells #[.int .i64 0, .slice none 0 0] 24)) a c 74 (hr.below hb0) hc hx hl
  have hR0 := (Block.new w 24 [.int .i64 0, .slice none 0 0]).later hbe
  have hbq : (w.alloc (.cells #[.int .i64 0, .slice none 0 0] 24)).heap.size = w.heap.size + 1 := by simp
  rw [hbq] at hE0
  have HB0 := hid (hb0.trans (hbe.mono hb0.size))
  have c1 := refSee_any (w.heap.size + 1) (xs, 0) _ hE0 65535 (by omega) (by omega)
  have HR0 := hid hR0
  have hne : w.heap.size ≠ (w.heap.size + 1) := by omega
  have hbw : w.heap.size ≤ (w.heap.size + 1) := by omega
  have c2 := fun w' hE => refSee_any (w.heap.size + 1) s1 w' hE 8 (by omega) (by omega)
  rw [hV] at c1
  rw [hN] at c2
  clear hV hN hr hx hl hb0 hbe hE0 hR0 hbq hc
  simp only at c1 c2
  unfold Saw at c1 c2
  go_enter Try.func24, Try.ntmps24
  go_wp2_with (first
    | (go_at_call 47; ((with_reducible refine c1.mono ?_); rintro e w2 ⟨rfl, hE2, hu2⟩; have hR2 := blk_but HR0.out hu2 hne))
    | (go_at_call 47; ((with_reducible refine (c2 _ (hE2.later (field.newB _ _))).mono ?_); rintro e w3 ⟨rfl, hE3, hu3⟩; have HS3 := hid ((SS.start hE2 V).call hE3 hu3))))
  have hsz2 : w.heap.size < w2.heap.size := hR2.lt
  have hb2 : Below w.heap.size w w2 := HB0.out.trans ((hu2.mono HB0.out.size).below (Nat.le_refl _) hbw)
  have HB2 := hid hb2
  have HR2 := hid hR2
  have HSZ := hid hsz2
  obtain ⟨S, hS⟩ : ∃ S, Hid (w2.heap.size = S) := ⟨_, hid rfl⟩
  rw [hS.out] at HS3 HSZ ⊢
  clear hu2 hu3 hE2 hE3 c1 c2 hb2 hsz2 hR2 HR0
  go_loopw [7] (fun m wr => ∃ k : Nat, k ≤ N ∧ m = .int .i64 (k : Int) ∧ Hid (∃ P u, forms P = (takeFms k s2).1 ∧ SS 74 V (w.heap.size + 1) S w2 P (takeFms k s2).2 k u wr)) (fun m _ => N - (intOf m).toNat)
  case atStart => exact ⟨0, Nat.zero_le _, rfl, hid ⟨[], _, rfl, HS3.out⟩⟩
  case round =>
    obtain ⟨k, hk, rfl, HS⟩ := hrel
    obtain ⟨P, u, hPk, hS⟩ := HS.out
    obtain ⟨ua, uc, rfl, _⟩ := ownsRow_slice hS.row
    by_cases hlt2 : k < N
    · have i1 : (k : Int) < N := by omega
      obtain ⟨A, s3, hA⟩ : ∃ A s3, eCount 200 (takeFms k s2).2 = (A, s3) := ⟨_, _, rfl⟩
      obtain ⟨M, s4, hM⟩ : ∃ M s4, eCount 8 s3 = (M, s4) := ⟨_, _, rfl⟩
      have hM8 : M ≤ 8 := by have := eCount_le 8 s3; rw [show ((8 : Nat) : Int) = 8 from rfl, hM] at this; exact this
      have hTm : takeFm (takeFms k s2).2 = (((A : Int), (takeFs M s4).1), (takeFs M s4).2) := by
        unfold takeFm
        rw [hA]; simp only; rw [hM]
      have HT1 : Hid ((takeFms (k + 1) s2).1 = (takeFms k s2).1 ++ [((A : Int), (takeFs M s4).1)]) := hid (by rw [takeFms, hTm])
      have HT2 : Hid ((takeFms (k + 1) s2).2 = (takeFs M s4).2) := hid (by rw [takeFms, hTm])
      have d1 := fun w' hE => refSee_any (w.heap.size + 1) (takeFms k s2).2 w' hE 200 (by omega) (by omega)
      have d2 := fun w' hE => refSee_any (w.heap.size + 1) s3 w' hE 8 (by omega) (by omega)
      rw [hA] at d1
      rw [hM] at d2
      clear hA hM hTm HS HS3
      have HPK := hid hPk
      clear hPk
      simp only at d1 d2
      unfold Saw at d1 d2
      generalize (takeFms k s2).1 = L at *
      generalize (takeFms k s2).2 = sk at *
      have HS := hid hS
      have hSE := hS.eye
      clear hS
      go_wp2_with (first
        | (go_at_call 47; ((with_reducible refine (d1 _ hSE).mono ?_); rintro e w4 ⟨rfl, hE4, hu4⟩; have HS4 := hid (HS.out.call hE4 hu4)))
        | (go_at_call 47; ((with_reducible refine (d2 _ (hE4.later (field.newB _ _))).mono ?_); rintro e w5 ⟨rfl, hE5, hu5⟩; have HF5 := hid ((FS.start hE4 A).call hE5 hu5))))
      obtain ⟨F, hF⟩ : ∃ F, Hid (w4.heap.size = F) := ⟨_, hid rfl⟩
      rw [hF.out] at HF5 ⊢
      clear hu4 hu5 hE4 hE5 d1 d2 hSE
      go_loopw [10] (fun m wr => ∃ j : Nat, j ≤ M ∧ m = .int .i64 (j : Int) ∧ Hid (∃ u, FS 74 A (w.heap.size + 1) F w4 (takeFs j s4).1 (takeFs j s4).2 j u wr)) (fun m _ => M - (intOf m).toNat)
      case atStart => exact ⟨0, Nat.zero_le _, rfl, hid ⟨_, HF5.out⟩⟩
      case round =>
        obtain ⟨j, hj, rfl, HFj⟩ := hrel
        obtain ⟨y, hFj⟩ := HFj.out
        obtain ⟨ya, yc, rfl, _⟩ := ownsRow_slice hFj.row
        by_cases hjt : j < M
        · have i2 : (j : Int) < M := by omega
          obtain ⟨p, s5, hp⟩ : ∃ p s5, takeF (takeFs j s4).2 = (p, s5) := ⟨_, _, rfl⟩
          have HU1 : Hid ((takeFs (j + 1) s4).1 = (takeFs j s4).1 ++ [p]) := hid (by rw [takeFs, hp])
          have HU2 : Hid ((takeFs (j + 1) s4).2 = s5) := hid (by rw [takeFs, hp])
          have cP := fun w' hE => takeField_any (w.heap.size + 1) (takeFs j s4).2 w' hE
          rw [hp] at cP
          clear hp HFj HF5
          generalize (takeFs j s4).1 = Lj at *
          generalize (takeFs j s4).2 = sj at *
          have HFd := hid (hFj.later (w' := wr.drew) (below_drewN (Below.refl _ _) 1))
          clear hFj
          go_wp2
          refine plan.regionT (by kernel_rfl) ?_
          have hS := HFd.out
          refine plan.free 0 _ (.pointer (some ⟨F, 1, none⟩)) rfl (by kernel_rfl) (by kernel_rfl) (by kernel_rfl) (by kernel_rfl) (fun w' => (by kernel_rfl)) ?_
          refine plan.free 2 _ (.pointer (some ⟨w.heap.size + 1, 0, none⟩)) rfl (by kernel_rfl) (by kernel_rfl) (by kernel_rfl) (by kernel_rfl) (fun w' => (by kernel_rfl)) ?_
          refine plan.toL 3 (fun x y z => #[true, x, true, y, z, false, false, false]) rfl (by kernel_rfl) ?_
          refine plan.late 1 3 4 36 38 39 (by decide) (by decide) _ _ _ (fun x y z => #[true, x, true, y, z, false, false, false]) rfl rfl rfl rfl rfl rfl rfl rfl rfl (by intro y z; cases y <;> cases z <;> rfl) (by intro x; cases x <;> rfl) (by intro x; cases x <;> rfl)
            (by kernel_rfl) (by kernel_rfl) (by kernel_rfl) (by kernel_rfl) (by kernel_rfl) (.slice ya j yc) 48 #[.pointer (some ⟨w.heap.size + 1, 0, none⟩)]
            (fun v w' => v = p.val ∧ FS 74 A (w.heap.size + 1) F w4 Lj s5 j (.slice ya j yc) w') (fun v w' => .slice (some ⟨w'.heap.size, 0, none⟩) 1 1) (fun v w' => w'.alloc (.cells #[.int .i64 p.id, .int .i64 p.kind, .int .i64 p.lo, .int .i64 p.hi, .int .i64 p.most] 50))
            (exec_cell_slice' (ad := ⟨F, 1, none⟩) rfl (by kernel_rfl) (hS.f.cell 1) Try.isAgg27)
            (fun v w' hM => exec_cell_slice' (ad := ⟨F, 1, none⟩) rfl (by kernel_rfl) (hM.2.f.cell 1) Try.isAgg27)
            (fun v w' hM => exec_cell_slice' (ad := ⟨F, 1, none⟩) rfl (by kernel_rfl) ((hM.2.f.alloc _).cell 1) Try.isAgg27)
            (by kernel_rfl) (by kernel_rfl) ((cP _ hS.eye).mono ?_) (fun v w' hM => by obtain ⟨rfl, _⟩ := hM; kernel_rfl) (fun v w' hM => by obtain ⟨rfl, _⟩ := hM; kernel_rfl) ?_
          · rintro e w6 ⟨rfl, hE6, hu6⟩
            exact ⟨_, rfl, rfl, hS.call hE6 hu6⟩
          · rintro v w6 ⟨rfl, hS6⟩
            have hS7 := hS6.later (field.newB w6 (.cells #[.int .i64 p.id, .int .i64 p.kind, .int .i64 p.lo, .int .i64 p.hi, .int .i64 p.most] 50))
            refine plan.oneE 5 _ (fun q w8 => w8.ownsRow (F + 1) 50 5 q (j + 1) (fdV (Lj ++ [p])) ∧ (w6.alloc (.cells #[.int .i64 p.id, .int .i64 p.kind, .int .i64 p.lo, .int .i64 p.hi, .int .i64 p.most] 50)).grownBy w8 (Value.slice ya j yc).ownBlock) rfl rfl (by kernel_rfl)
              (exec_push_fd (g := w6.heap.size) rfl (by kernel_rfl) (by kernel_rfl) hS7.row (Block.new w6 50 (fdC p)) (by omega) hS7.f.lt) ?_
            rintro q w8 ⟨ho8, hg8⟩
            have hF8 := hS7.held hg8
            have hS9 := hS7.push hg8 ho8
            obtain ⟨qa, qc, rfl, _⟩ := ownsRow_slice ho8
            refine plan.oneT (w1 := w8) 6 _ (.pointer (some ⟨F, 1, none⟩)) rfl rfl (by kernel_rfl) (by kernel_rfl) ?_
            refine plan.lastT (w1 := w8.setCell ⟨F, 1, none⟩ (.slice qa (j + 1) qc)) 7 _ rfl rfl rfl (by kernel_rfl) (by kernel_rfl) (exec_put_fd (ad := ⟨F, 1, none⟩) rfl (by kernel_rfl) (by kernel_rfl) (hF8.cell 1) (hF8.frozen 1)) ?_
            have HS9 := hid hS9
            clear hS9 hF8 ho8 hg8 hS7 hS6 hS
            walk_nrm
            go_wp2
            exact ⟨⟨j + 1, by omega, by go_num, hid ⟨_, by rw [HU1.out, HU2.out]; exact HS9.out⟩⟩, by simp [intOf]; omega⟩
        · obtain rfl : j = M := by omega
          have hlen := takeFs_len j s4
          have hlow : S < F := by have := HS4.out.f.lt; have := hF.out; omega
          have hS1 := HS4.out.call hFj.eye (by rw [hF.out]; exact hFj.but)
          have hN := field.newB wr (.cells #[.int .i64 (A : Int), .slice ya j yc] 29)
          have hS2 := hS1.later hN
          obtain ⟨q, hq⟩ : ∃ q : Fm, q = ⟨A, ya, yc, (takeFs j s4).1⟩ := ⟨_, rfl⟩
          have hqc : fmC q = [.int .i64 (A : Int), .slice ya j yc] := by rw [hq]; simp [fmC, hlen]
          have hqp : q.p = ((A : Int), (takeFs j s4).1) := by rw [hq]; rfl
          have hO : OwnM (S + 1) (wr.alloc (.cells #[.int .i64 (A : Int), .slice ya j yc] 29)) q := by
            rw [hq]
            unfold OwnM
            simp only [hlen]
            exact ownsRow_later (own_low hFj.row (by omega)) hN
          have hBn : Block (wr.alloc (.cells #[.int .i64 (A : Int), .slice ya j yc] 29)) wr.heap.size 29 (fmC q) := by rw [hqc]; exact Block.new wr 29 [.int .i64 (A : Int), .slice ya j yc]
          have y1 := hS1.f.cell 1
          have y2 := hFj.f.cell 0
          have y3 := hFj.f.cell 1
          have HS2 := hid hS2
          have HO := hid hO
          have HBN := hid hBn
          have HQP := hid hqp
          clear hS1 hS2 hN hq hqc hqp hO hBn hFj HFj HF5 HS4 hlen
          go_wp2_with (at_builtin; refine wpList_push_fm rfl (.tmp 43) (.tmp 45) rfl rfl rfl HS2.out.row HBN.out (by omega) HS2.out.f.lt ?_; intro z w10 ho10 hg10; have hS10 := HS2.out.held hg10; have hS11 := HS2.out.push HO.out hg10 ho10; obtain ⟨qa, qc, rfl, _⟩ := ownsRow_slice ho10; have y4 := hS10.cell 1; have y5 := hS10.frozen 1; have HS11 := hid hS11; clear hS11 hS10 ho10 hg10)
          exact ⟨⟨k + 1, by omega, by go_num, hid ⟨P ++ [q], _, by rw [HT1.out, ← HPK.out, ← HQP.out]; simp [forms], by rw [HT2.out]; exact HS11.out⟩⟩, by simp [intOf]; omega⟩
    · obtain rfl : k = N := by omega
      have hR := HR2.out.but hS.but HSZ.out (show w.heap.size ≠ (w.heap.size + 1) by omega)
      have hbw2 : Below w.heap.size w wr := HB2.out.trans (hS.but.below (Nat.le_of_lt HSZ.out) hbw)
      have hkl := hS.list.2
      have HRW := hid hR
      have HBW := hid hbw2
      have HSS := hid hS
      have HKL := hid hkl
      have HPK := hid hPk
      have HRS : Hid (w.heap.size ≠ S) := hid (Nat.ne_of_lt HSZ.out)
      have cE : Calls Try.prog 49 #[.pointer (some ⟨w.heap.size + 1, 0, none⟩)] wr (field.Gives (.int .i64 (eEnd (takeFms k s2).2 : Int)) wr) := (refEnd_any (w.heap.size + 1) _ wr hS.eye).mono (by rintro e w' ⟨rfl, m, rfl⟩; exact ⟨rfl, below_drewN (Below.refl _ _) m⟩)
      clear HS hS hR hbw2 hPk HS3 HR2 HB2 hkl
      by_cases hE : eEnd (takeFms k s2).2 = 0
      · rw [hE] at cE
        have HP2 := HP.out
        rw [if_neg (by rw [hE]; simp)] at HP2
        have HP2 := hid HP2
        have cR := fun w' (hb : Below wr.heap.size wr w') => refRight_any V ua uc P w' ((HSS.out.later hb).list.1) (by have := HKL.out; unfold maxLen; omega)
        rw [HPK.out] at cR
        rw [← HKL.out] at cR
        have hN0 : (((0 : Nat) : Int) == 0) = true := rfl
        clear HP hE
        by_cases hri : Right V (takeFms k s2).1
        · have HP3 : Hid (parsed xs = ((V : Int), (takeFms k s2).1, 0)) := hid (by rw [HP2.out, if_pos hri])
          simp only [decide_eq_true hri] at cR
          clear HP2 hri
          go_wp2_with (first
            | (go_at_call 49; ((with_reducible refine cE.mono ?_); rintro e w5 ⟨rfl, hb5⟩; have hR5 := HRW.out.later hb5; have hS5 := HSS.out.later hb5; have x0 := hR5.cell 0; have x1 := hR5.cell 1; have p0 := hR5.frozen 0; have p1 := hR5.frozen 1; have y0 := hS5.f.cell 0; have y1 := hS5.f.cell 1))
            | (go_at_call 18; ((with_reducible refine (cR _ hb5).mono ?_); rintro e w6 ⟨rfl, hb6⟩; have hR6 := hR5.later hb6; have hS6 := hS5.later hb6; have x0 := hR6.cell 0; have x1 := hR6.cell 1; have p0 := hR6.frozen 0; have p1 := hR6.frozen 1; have y0 := hS6.f.cell 0; have y1 := hS6.f.cell 1)))
          have hB := (hR6.setCell 0 (.int .i64 (V : Int))).setCell 1 (.slice ua k uc)
          exact bodyPost_ret (results_cell2 (b := w.heap.size) (o := 0) rfl rfl hB.whole Try.underlying24 rfl (sc_info2 _ _)) rfl (parse_some HP3.out HPK.out hS6 HSZ.out ((HBW.out.trans (hb5.mono HBW.out.size)).trans (hb6.mono (Nat.le_trans HBW.out.size hb5.size))))
        · have HP3 : Hid (parsed xs = (0, [], 2)) := hid (by rw [HP2.out, if_neg hri])
          simp only [decide_eq_false hri] at cR
          clear HP2 hri
          go_wp2_with (first
            | (go_at_call 49; ((with_reducible refine cE.mono ?_); rintro e w5 ⟨rfl, hb5⟩; have hR5 := HRW.out.later hb5; have hS5 := HSS.out.later hb5; have x0 := hR5.cell 0; have x1 := hR5.cell 1; have p0 := hR5.frozen 0; have p1 := hR5.frozen 1; have y0 := hS5.f.cell 0; have y1 := hS5.f.cell 1))
            | (go_at_call 18; ((with_reducible refine (cR _ hb5).mono ?_); rintro e w6 ⟨rfl, hb6⟩; have hR6 := hR5.later hb6; have hS6 := hS5.later hb6; have x0 := hR6.cell 0; have x1 := hR6.cell 1; have p0 := hR6.frozen 0; have p1 := hR6.frozen 1; have y0 := hS6.f.cell 0; have y1 := hS6.f.cell 1)))
          have hB := (hR6.setCell 0 (.int .i64 0)).setCell 1 (.slice none 0 0)
          exact bodyPost_ret (results_cell2 (b := w.heap.size) (o := 0) rfl rfl hB.whole Try.underlying24 rfl (sc_info2 _ _)) rfl (parse_none HP3.out ((HBW.out.trans (hb5.mono HBW.out.size)).trans (hb6.mono (Nat.le_trans HBW.out.size hb5.size))))
      · have HP2 : Hid (parsed xs = (0, [], eEnd (takeFms k s2).2)) := hid (by rw [HP.out, if_pos hE])
        have hne : ((eEnd (takeFms k s2).2 : Int) == 0) = false := by rw [beq_eq_false_iff_ne]; omega
        have hne2 : ((eEnd (takeFms k s2).2 : Int) != 0) = true := by simp [hE]
        generalize eEnd (takeFms k s2).2 = E at *
        clear HP hE
        go_wp2_with (first
          | (go_at_call 49; ((with_reducible refine cE.mono ?_); rintro e w5 ⟨rfl, hb5⟩; have hR5 := HRW.out.later hb5; have hS5 := HSS.out.later hb5; have x0 := hR5.cell 0; have x1 := hR5.cell 1; have p0 := hR5.frozen 0; have p1 := hR5.frozen 1; have y0 := hS5.f.cell 0; have y1 := hS5.f.cell 1))
          | (go_at_call 18; ((with_reducible refine (cR _ hb5).mono ?_); rintro e w6 ⟨rfl, hb6⟩; have hR6 := hR5.later hb6; have hS6 := hS5.later hb6; have x0 := hR6.cell 0; have x1 := hR6.cell 1; have p0 := hR6.frozen 0; have p1 := hR6.frozen 1; have y0 := hS6.f.cell 0; have y1 := hS6.f.cell 1)))
        have hB := (hR5.setCell 0 (.int .i64 0)).setCell 1 (.slice none 0 0)
        exact bodyPost_ret (results_cell2 (b := w.heap.size) (o := 0) rfl rfl hB.whole Try.underlying24 rfl (sc_info2 _ _)) rfl (parse_none HP2.out (HBW.out.trans (hb5.mono HBW.out.size)))
end Go.Proofs.Ytacigmnnekphmaa.schema
