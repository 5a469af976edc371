/- Contracts and lemmas that the claims of this seat share: SchemaRefFine, SchemaExec, SchemaRefRight, StepRefTable. Each says its own conditions. -/
import Derived.Test.YtaciegkblklokaaGreatCmH
import Derived.Conc.WalkWords
import Derived.Test.YtaciegkblklokaaGreatCmS
import Derived.Test.YtaciegkblklokaaGreatCmG
import Derived.Test.YtaciegkblklokaaGreatCmN
set_option linter.unusedVariables false
namespace Go.Proofs.YtaciegkblklokaaGreat.schema
open Go.RowKit
open Go.Proofs.YtaciegkblklokaaGreat.field (Gives newB gives_from refRight_any)
set_option maxRecDepth 20000 in
set_option maxHeartbeats 1600000 in
theorem refFine_any (i : Int) (a : Option Addr) (cap : Nat) (L : List field.Fd) (w : World) (h : field.Fds w a L) (hL : L.length ≤ maxLen) :
  Calls Tryz.prog 34 #[zS i a L.length cap] w (Gives (.bool (decide (Fine (i, L)))) w) := by
 have hml : (L.length : Int) ≤ 9223372036854775807 := by unfold maxLen at hL; omega
 have HX := hid (boxM i a L cap w)
 have hw := newB w (.cells (zS i a L.length cap) 58)
 have HF := hid (h.below hw)
 have HW := hid hw
 have HB0 := hid (Block.new w 58 (zS i a L.length cap))
 obtain ⟨r, hr⟩ : ∃ r : Bool, Hid (decide (Fine (i, L)) = r) := ⟨_, rfl⟩
 rw [hr.out]
 unfold Gives
 clear h hw
 by_cases h1 : i < 0
 ·obtain rfl : false = r := by rw [← hr.out]; exact (decide_eq_false (fun e => by have := e.1.1; simp at this; omega)).symm
  have hd1 : decide (i < 0) = true := decide_eq_true h1
  clear h1
  go_enter Tryz.func34, Tryz.ntmps34
  go_wp2
  go_ret
  exact ⟨rfl, HW.out⟩
 have hd1 : decide (i < 0) = false := decide_eq_false h1
 by_cases h2 : i > 200
 ·obtain rfl : false = r := by rw [← hr.out]; exact (decide_eq_false (fun e => by have := e.1.2; simp at this; omega)).symm
  have hd2 : decide (i > 200) = true := decide_eq_true h2
  clear h1 h2
  go_enter Tryz.func34, Tryz.ntmps34
  go_wp2
  go_ret
  exact ⟨rfl, HW.out⟩
 have hd2 : decide (i > 200) = false := decide_eq_false h2
 by_cases h3 : L.length < 1
 ·obtain rfl : false = r := by rw [← hr.out]; exact (decide_eq_false (fun e => by have := e.2.1.1; simp only at this; omega)).symm
  have hd3 : decide ((L.length : Int) < 1) = true := decide_eq_true (by omega)
  clear h1 h2 h3
  go_enter Tryz.func34, Tryz.ntmps34
  go_wp2
  go_ret
  exact ⟨rfl, HW.out⟩
 have hd3 : decide ((L.length : Int) < 1) = false := decide_eq_false (by omega)
 by_cases h4 : L.length > 8
 ·obtain rfl : false = r := by rw [← hr.out]; exact (decide_eq_false (fun e => by have := e.2.1.2; simp only at this; omega)).symm
  have hd4 : decide ((L.length : Int) > 8) = true := decide_eq_true (by omega)
  clear h1 h2 h3 h4
  go_enter Tryz.func34, Tryz.ntmps34
  go_wp2
  go_ret
  exact ⟨rfl, HW.out⟩
 have hd4 : decide ((L.length : Int) > 8) = false := decide_eq_false (by omega)
 have HFI : Hid (Fine (i, L) ↔ FineF L ∧ size L ≤ 64) := hid ⟨fun e => ⟨e.2.2.1, e.2.2.2⟩, fun e => ⟨by simp; omega, by simp; omega, e.1, e.2⟩⟩
 have h8 : L.length ≤ 8 := by omega
 clear h1 h2 h3 h4
 go_enter Tryz.func34, Tryz.ntmps34
 go_wp2
 clear hd1 hd2 hd3 hd4
 generalize (w.alloc (.cells (zS i a L.length cap) 58)) = W0 at *
 go_loopw [3] (fun n wr => ∃ k : Nat, k ≤ L.length ∧ n = .int .i64 (k : Int) ∧ Hid (FineF (L.take k)) ∧ Hid (Below W0.heap.size W0 wr)) (fun n _ => L.length - (intOf n).toNat)
 case atStart => exact ⟨0, Nat.zero_le _, rfl, hid FineF.nil, hid (Below.refl _ _)⟩
 case round =>
  obtain ⟨k, hk, rfl, HOK, HB⟩ := hrel
  obtain ⟨z0, z1, hbo⟩ := HX.out _ HB.out
  by_cases hlt : k < L.length
  ·obtain ⟨b, off, p, rfl, hbl, hp, c0, c1, c2, c3, c4⟩ := field_at HF.out HB.out hlt
   have i1 : (k : Int) < L.length := by omega
   have HNO := hid (fineF_no hp)
   have HSUC := hid (fineF_succ hp)
   have HAT := hid (at_iff (ids_at hp))
   have hR := range5 c0 c1 c2 c3 c4
   have HZ := hid (fun w' (hb' : Below wr.heap.size wr w') => (⟨by obtain ⟨_, y1, _⟩ := HX.out w' (HB.out.trans (hb'.mono HB.out.size)); exact y1, (HB0.out.later (HB.out.trans (hb'.mono HB.out.size))).whole, range_later hR hb' hbl⟩ : w'.cell? ⟨w.heap.size, 1, none⟩ = some (.slice (some ⟨b, off, none⟩) L.length cap) ∧ w'.rangeAt w.heap.size 0 (zS i (some ⟨b, off, none⟩) L.length cap) ∧ w'.rangeAt b (off + k * 5) (zF p)))
   have ca := fun w' (hb' : Below wr.heap.size wr w') => refAt_any i (some ⟨b, off, none⟩) cap L p.id w' (HF.out.below (HB.out.trans (hb'.mono HB.out.size))) hL
   have cr := fun w' => refRight_any p w'
   clear hp hR
   generalize firstAt (ids L) p.id = J at *
   by_cases hri : p.Right
   ·rw [decide_eq_true hri] at cr
    by_cases hj : J = (k : Int)
    ·have HNQ : Hid ((J != (k : Int)) = false) := hid (by rw [hj]; simp)
     have HOK2 : Hid (FineF (L.take (k + 1))) := hid (HSUC.out.2 ⟨HOK.out, hri, by rw [ids_take]; exact HAT.out.1 hj⟩)
     clear hri hj c0 c1 c2 c3 c4
     go_wp2
     have hb : Below wr.heap.size wr wr.drew := below_drew (Below.refl _ _)
     ·refine plan.region (by kernel_rfl) ?_
      refine plan.Rest.first 0 _ (.pointer (some ⟨w.heap.size, 1, none⟩)) rfl (fun w' hb' => (by kernel_rfl)) ?_
      refine plan.Rest.first 1 _ (.slice (some ⟨b, off, none⟩) L.length cap) rfl (fun w' hb' => exec_cell_slice (ad := ⟨w.heap.size, 1, none⟩) rfl (HZ.out _ (hb.trans (hb'.mono hb.size))).1 Tryz.isAgg30) ?_
      refine plan.Rest.first 2 _ (.int .i64 (k : Int)) rfl (fun w' hb' => (by kernel_rfl)) ?_
      refine plan.Rest.first 3 _ (.pointer (some ⟨b, off + k * 5, none⟩)) rfl (fun w' hb' => (exec_indexF (b := b) (off := off) (len := L.length) (cap := cap) (i := k) rfl hlt)) ?_
      refine plan.Rest.first 4 _ (zF p) rfl (fun w' hb' => exec_load_at (b := b) (off := off + k * 5) rfl (HZ.out _ (hb.trans (hb'.mono hb.size))).2.2 Tryz.underlying26 rfl info_fd.out) ?_
      refine plan.Rest.call 5 _ 32 #[zF p] rfl ((cr wr.drew).mono ?_)
      rintro e W1 ⟨rfl, hn⟩
      have hb := hb.trans (hn.mono hb.size)
      refine ⟨_, rfl, hn, ?_⟩
      refine plan.Rest.first 6 _ (.bool false) rfl (fun w' hb' => (by kernel_rfl)) ?_
      refine plan.Rest.first 7 _ (.bool false) rfl (fun w' hb' => (by kernel_rfl)) ?_
      refine plan.Rest.first 8 _ (zS i (some ⟨b, off, none⟩) L.length cap) rfl (fun w' hb' => exec_load_at (b := w.heap.size) (off := 0) rfl (HZ.out _ (hb.trans (hb'.mono hb.size))).2.1 Tryz.underlying58 rfl info_fm.out) ?_
      refine plan.Rest.first 9 _ (.pointer (some ⟨w.heap.size, 1, none⟩)) rfl (fun w' hb' => (by kernel_rfl)) ?_
      refine plan.Rest.first 10 _ (.slice (some ⟨b, off, none⟩) L.length cap) rfl (fun w' hb' => exec_cell_slice (ad := ⟨w.heap.size, 1, none⟩) rfl (HZ.out _ (hb.trans (hb'.mono hb.size))).1 Tryz.isAgg30) ?_
      refine plan.Rest.first 11 _ (.int .i64 (k : Int)) rfl (fun w' hb' => (by kernel_rfl)) ?_
      refine plan.Rest.first 12 _ (.pointer (some ⟨b, off + k * 5, none⟩)) rfl (fun w' hb' => (exec_indexF (b := b) (off := off) (len := L.length) (cap := cap) (i := k) rfl hlt)) ?_
      refine plan.Rest.first 13 _ (.pointer (some ⟨b, off + k * 5, none⟩)) rfl (fun w' hb' => (by kernel_rfl)) ?_
      refine plan.Rest.first 14 _ (.int .i64 p.id) rfl (fun w' hb' => exec_cell_int (ad := ⟨b, off + k * 5, none⟩) rfl (by kernel_rfl) ((HZ.out _ (hb.trans (hb'.mono hb.size))).2.2 0 _ rfl) Tryz.isAgg3) ?_
      refine plan.Rest.first 16 _ (.int .i64 (k : Int)) rfl (fun w' hb' => (by kernel_rfl)) ?_
      refine plan.Rest.call 15 _ 23 #[zS i (some ⟨b, off, none⟩) L.length cap, .int .i64 p.id] rfl ((ca W1 hb).mono ?_)
      rintro e W2 ⟨rfl, hn⟩
      have hb := hb.trans (hn.mono hb.size)
      refine ⟨_, rfl, hn, ?_⟩
      refine plan.Rest.first 17 _ (.bool false) rfl (fun w' hb' => (exec_neq_int (n := J) (m := (k : Int)) rfl HNQ)) ?_
      refine plan.Rest.first 18 _ (.bool false) rfl (fun w' hb' => (by kernel_rfl)) ?_
      refine plan.Rest.done ?_
      walk_nrm
      go_wp2
      exact ⟨⟨k + 1, by omega, by go_num, HOK2, hid (HB.out.trans (hb.mono HB.out.size))⟩, by simp [intOf]; omega⟩
    ·have HNQ : Hid ((J != (k : Int)) = true) := hid (by simp [hj])
     obtain rfl : false = r := by rw [← hr.out]; exact (decide_eq_false (fun e => HNO.out (fun e2 => hj (HAT.out.2 (by rw [← ids_take]; exact e2.2))) (HFI.out.1 e).1)).symm
     clear hri hj c0 c1 c2 c3 c4
     go_wp2
     have hb : Below wr.heap.size wr wr.drew := below_drew (Below.refl _ _)
     ·refine plan.region (by kernel_rfl) ?_
      refine plan.Rest.first 0 _ (.pointer (some ⟨w.heap.size, 1, none⟩)) rfl (fun w' hb' => (by kernel_rfl)) ?_
      refine plan.Rest.first 1 _ (.slice (some ⟨b, off, none⟩) L.length cap) rfl (fun w' hb' => exec_cell_slice (ad := ⟨w.heap.size, 1, none⟩) rfl (HZ.out _ (hb.trans (hb'.mono hb.size))).1 Tryz.isAgg30) ?_
      refine plan.Rest.first 2 _ (.int .i64 (k : Int)) rfl (fun w' hb' => (by kernel_rfl)) ?_
      refine plan.Rest.first 3 _ (.pointer (some ⟨b, off + k * 5, none⟩)) rfl (fun w' hb' => (exec_indexF (b := b) (off := off) (len := L.length) (cap := cap) (i := k) rfl hlt)) ?_
      refine plan.Rest.first 4 _ (zF p) rfl (fun w' hb' => exec_load_at (b := b) (off := off + k * 5) rfl (HZ.out _ (hb.trans (hb'.mono hb.size))).2.2 Tryz.underlying26 rfl info_fd.out) ?_
      refine plan.Rest.call 5 _ 32 #[zF p] rfl ((cr wr.drew).mono ?_)
      rintro e W1 ⟨rfl, hn⟩
      have hb := hb.trans (hn.mono hb.size)
      refine ⟨_, rfl, hn, ?_⟩
      refine plan.Rest.first 6 _ (.bool false) rfl (fun w' hb' => (by kernel_rfl)) ?_
      refine plan.Rest.first 7 _ (.bool false) rfl (fun w' hb' => (by kernel_rfl)) ?_
      refine plan.Rest.first 8 _ (zS i (some ⟨b, off, none⟩) L.length cap) rfl (fun w' hb' => exec_load_at (b := w.heap.size) (off := 0) rfl (HZ.out _ (hb.trans (hb'.mono hb.size))).2.1 Tryz.underlying58 rfl info_fm.out) ?_
      refine plan.Rest.first 9 _ (.pointer (some ⟨w.heap.size, 1, none⟩)) rfl (fun w' hb' => (by kernel_rfl)) ?_
      refine plan.Rest.first 10 _ (.slice (some ⟨b, off, none⟩) L.length cap) rfl (fun w' hb' => exec_cell_slice (ad := ⟨w.heap.size, 1, none⟩) rfl (HZ.out _ (hb.trans (hb'.mono hb.size))).1 Tryz.isAgg30) ?_
      refine plan.Rest.first 11 _ (.int .i64 (k : Int)) rfl (fun w' hb' => (by kernel_rfl)) ?_
      refine plan.Rest.first 12 _ (.pointer (some ⟨b, off + k * 5, none⟩)) rfl (fun w' hb' => (exec_indexF (b := b) (off := off) (len := L.length) (cap := cap) (i := k) rfl hlt)) ?_
      refine plan.Rest.first 13 _ (.pointer (some ⟨b, off + k * 5, none⟩)) rfl (fun w' hb' => (by kernel_rfl)) ?_
      refine plan.Rest.first 14 _ (.int .i64 p.id) rfl (fun w' hb' => exec_cell_int (ad := ⟨b, off + k * 5, none⟩) rfl (by kernel_rfl) ((HZ.out _ (hb.trans (hb'.mono hb.size))).2.2 0 _ rfl) Tryz.isAgg3) ?_
      refine plan.Rest.first 16 _ (.int .i64 (k : Int)) rfl (fun w' hb' => (by kernel_rfl)) ?_
      refine plan.Rest.call 15 _ 23 #[zS i (some ⟨b, off, none⟩) L.length cap, .int .i64 p.id] rfl ((ca W1 hb).mono ?_)
      rintro e W2 ⟨rfl, hn⟩
      have hb := hb.trans (hn.mono hb.size)
      refine ⟨_, rfl, hn, ?_⟩
      refine plan.Rest.first 17 _ (.bool true) rfl (fun w' hb' => (exec_neq_int (n := J) (m := (k : Int)) rfl HNQ)) ?_
      refine plan.Rest.first 18 _ (.bool true) rfl (fun w' hb' => (by kernel_rfl)) ?_
      refine plan.Rest.done ?_
      walk_nrm
      go_wp2
      go_ret
      exact ⟨rfl, hbo.trans (hb.mono hbo.size)⟩
   ·rw [decide_eq_false hri] at cr
    obtain rfl : false = r := by rw [← hr.out]; exact (decide_eq_false (fun e => HNO.out (fun e2 => hri e2.1) (HFI.out.1 e).1)).symm
    clear hri c0 c1 c2 c3 c4
    go_wp2
    have hb : Below wr.heap.size wr wr.drew := below_drew (Below.refl _ _)
    ·refine plan.region (by kernel_rfl) ?_
     refine plan.Rest.first 0 _ (.pointer (some ⟨w.heap.size, 1, none⟩)) rfl (fun w' hb' => (by kernel_rfl)) ?_
     refine plan.Rest.first 1 _ (.slice (some ⟨b, off, none⟩) L.length cap) rfl (fun w' hb' => exec_cell_slice (ad := ⟨w.heap.size, 1, none⟩) rfl (HZ.out _ (hb.trans (hb'.mono hb.size))).1 Tryz.isAgg30) ?_
     refine plan.Rest.first 2 _ (.int .i64 (k : Int)) rfl (fun w' hb' => (by kernel_rfl)) ?_
     refine plan.Rest.first 3 _ (.pointer (some ⟨b, off + k * 5, none⟩)) rfl (fun w' hb' => (exec_indexF (b := b) (off := off) (len := L.length) (cap := cap) (i := k) rfl hlt)) ?_
     refine plan.Rest.first 4 _ (zF p) rfl (fun w' hb' => exec_load_at (b := b) (off := off + k * 5) rfl (HZ.out _ (hb.trans (hb'.mono hb.size))).2.2 Tryz.underlying26 rfl info_fd.out) ?_
     refine plan.Rest.call 5 _ 32 #[zF p] rfl ((cr wr.drew).mono ?_)
     rintro e W1 ⟨rfl, hn⟩
     have hb := hb.trans (hn.mono hb.size)
     refine ⟨_, rfl, hn, ?_⟩
     refine plan.Rest.first 6 _ (.bool true) rfl (fun w' hb' => (by kernel_rfl)) ?_
     refine plan.Rest.first 7 _ (.bool true) rfl (fun w' hb' => (by kernel_rfl)) ?_
     refine plan.Rest.skip 8 _ rfl ?_
     refine plan.Rest.skip 9 _ rfl ?_
     refine plan.Rest.skip 10 _ rfl ?_
     refine plan.Rest.skip 11 _ rfl ?_
     refine plan.Rest.skip 12 _ rfl ?_
     refine plan.Rest.skip 13 _ rfl ?_
     refine plan.Rest.skip 14 _ rfl ?_
     refine plan.Rest.skip 15 _ rfl ?_
     refine plan.Rest.skip 16 _ rfl ?_
     refine plan.Rest.skip 17 _ rfl ?_
     refine plan.Rest.first 18 _ (.bool true) rfl (fun w' hb' => (by kernel_rfl)) ?_
     refine plan.Rest.done ?_
     walk_nrm
     go_wp2
     go_ret
     exact ⟨rfl, hbo.trans (hb.mono hbo.size)⟩
  ·obtain rfl : k = L.length := by omega
   have HOK2 : Hid (FineF L) := hid (by have := HOK.out; rw [List.take_of_length_le (Nat.le_refl _)] at this; exact this)
   have cl := refLong_any i a cap L wr (HF.out.below HB.out) (by omega)
   obtain rfl : decide ((size L : Int) ≤ 64) = r := by rw [← hr.out]; exact decide_eq_decide.2 ⟨fun e => HFI.out.2 ⟨HOK2.out, by omega⟩, fun e => by have := (HFI.out.1 e).2; omega⟩
   go_wp2_with (go_at_call 55; ((with_reducible refine cl.mono ?_); rintro e w2 ⟨rfl, hb2⟩))
   go_ret
   exact ⟨rfl, hbo.trans (hb2.mono hbo.size)⟩
end Go.Proofs.YtaciegkblklokaaGreat.schema
namespace Go.Proofs.YtaciegkblklokaaGreat.schema
open Go.RowKit
section
variable {o : Oper} {a : Act} {w : World}
theorem exec_indexM {x y : Operand} {b off len cap i : Nat} (ho : o.op = .indexAddr 22 x y) (hi : i < len) (hx : a.eval x = .slice (some ⟨b, off, none⟩) len cap := by kernel_rfl) (hy : a.eval y = .int .i64 (i : Int) := by kernel_rfl) :
  (execOp a.eval o).run Tryz.prog w = .ok (.value (.pointer (some ⟨b, off + i * 2, none⟩))) w := by
 unfold execOp
 rw [ho]
 simp only [hx, hy]
 go_simp
end
end Go.Proofs.YtaciegkblklokaaGreat.schema
namespace Go.Proofs.YtaciegkblklokaaGreat.schema
open Go.RowKit
open Go.Proofs.YtaciegkblklokaaGreat.field (Gives newB gives_from)
set_option maxRecDepth 20000 in
set_option maxHeartbeats 1600000 in
theorem refRight_any (v : Int) (a : Option Addr) (cap : Nat) (F : List Fm) (w : World) (h : FmL w a F) (hF : F.length ≤ maxLen) :
  Calls Tryz.prog 43 #[zS v a F.length cap] w (Gives (.bool (decide (Right v (forms F)))) w) := by
 have hml : (F.length : Int) ≤ 9223372036854775807 := by unfold maxLen at hF; omega
 have HX := hid (boxS v a F cap w)
 have hw := newB w (.cells (zS v a F.length cap) 24)
 have HF := hid (h.below hw)
 have HW := hid hw
 have HL := hid (forms_length F)
 obtain ⟨r, hr⟩ : ∃ r : Bool, Hid (decide (Right v (forms F)) = r) := ⟨_, rfl⟩
 rw [hr.out]
 unfold Gives
 clear h hw
 by_cases h1 : v < 1
 ·obtain rfl : false = r := by rw [← hr.out]; exact (decide_eq_false (fun e => by have := e.1.1; omega)).symm
  have hd1 : decide (v < 1) = true := decide_eq_true h1
  clear h1
  go_enter Tryz.func43, Tryz.ntmps43
  go_wp2
  go_ret
  exact ⟨rfl, HW.out⟩
 have hd1 : decide (v < 1) = false := decide_eq_false h1
 by_cases h2 : v > 65535
 ·obtain rfl : false = r := by rw [← hr.out]; exact (decide_eq_false (fun e => by have := e.1.2; omega)).symm
  have hd2 : decide (v > 65535) = true := decide_eq_true h2
  clear h1 h2
  go_enter Tryz.func43, Tryz.ntmps43
  go_wp2
  go_ret
  exact ⟨rfl, HW.out⟩
 have hd2 : decide (v > 65535) = false := decide_eq_false h2
 by_cases h4 : F.length > 8
 ·obtain rfl : false = r := by rw [← hr.out]; exact (decide_eq_false (fun e => by have := e.2.1; rw [forms_length] at this; omega)).symm
  have hd4 : decide ((F.length : Int) > 8) = true := decide_eq_true (by omega)
  clear h1 h2 h4
  go_enter Tryz.func43, Tryz.ntmps43
  go_wp2
  go_ret
  exact ⟨rfl, HW.out⟩
 have hd4 : decide ((F.length : Int) > 8) = false := decide_eq_false (by omega)
 have HRI : Hid (Right v (forms F) ↔ FineS (forms F)) := hid ⟨fun e => e.2.2, fun e => ⟨by omega, by rw [forms_length]; omega, e⟩⟩
 have h8 : F.length ≤ 8 := by omega
 clear h1 h2 h4
 go_enter Tryz.func43, Tryz.ntmps43
 go_wp2
 clear hd1 hd2 hd4
 generalize (w.alloc (.cells (zS v a F.length cap) 24)) = W0 at *
 go_loopw [3] (fun n wr => ∃ k : Nat, k ≤ F.length ∧ n = .int .i64 (k : Int) ∧ Hid (FineS ((forms F).take k)) ∧ Hid (Below W0.heap.size W0 wr)) (fun n _ => F.length - (intOf n).toNat)
 case atStart => exact ⟨0, Nat.zero_le _, rfl, hid FineS.nil, hid (Below.refl _ _)⟩
 case round =>
  obtain ⟨k, hk, rfl, HOK, HB⟩ := hrel
  obtain ⟨z0, z1, hbo⟩ := HX.out _ HB.out
  by_cases hlt : k < F.length
  ·obtain ⟨b, off, p, rfl, hbl, hp, c0, c1, hfd, hfl⟩ := form_at HF.out HB.out hlt
   have i1 : (k : Int) < F.length := by omega
   have HNO := hid (fineS_no (forms_at hp))
   have HSUC := hid (fineS_succ (forms_at hp))
   have hR := range2 c0 c1
   obtain ⟨i, q, qc, L⟩ := p
   simp only [Fm.p] at HNO HSUC hR hfd hfl c0 c1
   have cf := fun w' (hb' : Below wr.heap.size wr w') => refFine_any i q qc L w' (hfd.below hb') hfl
   by_cases hf : Fine (i, L)
   ·rw [decide_eq_true hf] at cf
    by_cases hk0 : k = 0
    ·have HGT : Hid (decide ((k : Int) > 0) = false) := hid (by rw [hk0]; simp)
     have HOK2 : Hid (FineS ((forms F).take (k + 1))) := hid (HSUC.out.2 ⟨HOK.out, hf, by rw [hk0]; simp⟩)
     have HZ := hid (fun w' (hb' : Below wr.heap.size wr w') => (⟨by obtain ⟨_, y1, _⟩ := HX.out w' (HB.out.trans (hb'.mono HB.out.size)); exact y1, range_later hR hb' hbl⟩ : w'.cell? ⟨w.heap.size, 1, none⟩ = some (.slice (some ⟨b, off, none⟩) F.length cap) ∧ w'.rangeAt b (off + k * 2) (zS i q L.length qc)))
     clear hp hR hf c0 c1 hfd hk0 HOK HNO HSUC
     go_wp2
     have hb : Below wr.heap.size wr wr.drew := below_drew (Below.refl _ _)
     ·refine plan.region (by kernel_rfl) ?_
      refine plan.Rest.first 0 _ (.pointer (some ⟨w.heap.size, 1, none⟩)) rfl (fun w' hb' => (by kernel_rfl)) ?_
      refine plan.Rest.first 1 _ (.slice (some ⟨b, off, none⟩) F.length cap) rfl (fun w' hb' => exec_cell_slice (ad := ⟨w.heap.size, 1, none⟩) rfl (HZ.out _ (hb.trans (hb'.mono hb.size))).1 Tryz.isAgg22) ?_
      refine plan.Rest.first 2 _ (.int .i64 (k : Int)) rfl (fun w' hb' => (by kernel_rfl)) ?_
      refine plan.Rest.first 3 _ (.pointer (some ⟨b, off + k * 2, none⟩)) rfl (fun w' hb' => (exec_indexM (b := b) (off := off) (len := F.length) (cap := cap) (i := k) rfl hlt)) ?_
      refine plan.Rest.first 4 _ (zS i q L.length qc) rfl (fun w' hb' => exec_load_at (b := b) (off := off + k * 2) rfl (HZ.out _ (hb.trans (hb'.mono hb.size))).2 Tryz.underlying58 rfl info_fm.out) ?_
      refine plan.Rest.call 5 _ 34 #[zS i q L.length qc] rfl ((cf wr.drew hb).mono ?_)
      rintro e W1 ⟨rfl, hn⟩
      have hb := hb.trans (hn.mono hb.size)
      refine ⟨_, rfl, hn, ?_⟩
      refine plan.Rest.first 6 _ (.bool false) rfl (fun w' hb' => (by kernel_rfl)) ?_
      refine plan.Rest.first 7 _ (.bool false) rfl (fun w' hb' => (by kernel_rfl)) ?_
      refine plan.Rest.first 8 _ (.int .i64 (k : Int)) rfl (fun w' hb' => (by kernel_rfl)) ?_
      refine plan.Rest.first 9 _ (.bool false) rfl (fun w' hb' => (exec_gtr_int (n := (k : Int)) (m := 0) rfl HGT)) ?_
      refine plan.Rest.first 10 _ (.bool false) rfl (fun w' hb' => (by kernel_rfl)) ?_
      refine plan.Rest.skip 11 _ rfl ?_
      refine plan.Rest.skip 12 _ rfl ?_
      refine plan.Rest.skip 13 _ rfl ?_
      refine plan.Rest.skip 14 _ rfl ?_
      refine plan.Rest.skip 15 _ rfl ?_
      refine plan.Rest.skip 16 _ rfl ?_
      refine plan.Rest.skip 17 _ rfl ?_
      refine plan.Rest.skip 18 _ rfl ?_
      refine plan.Rest.skip 19 _ rfl ?_
      refine plan.Rest.skip 20 _ rfl ?_
      refine plan.Rest.skip 21 _ rfl ?_
      refine plan.Rest.skip 22 _ rfl ?_
      refine plan.Rest.skip 23 _ rfl ?_
      refine plan.Rest.skip 24 _ rfl ?_
      refine plan.Rest.first 25 _ (.bool false) rfl (fun w' hb' => (by kernel_rfl)) ?_
      refine plan.Rest.first 26 _ (.bool false) rfl (fun w' hb' => (by kernel_rfl)) ?_
      refine plan.Rest.done ?_
      walk_nrm
      go_wp2
      exact ⟨⟨k + 1, by omega, by go_num, HOK2, hid (HB.out.trans (hb.mono HB.out.size))⟩, by simp [intOf]; omega⟩
    ·obtain ⟨k, rfl⟩ : ∃ j, k = j + 1 := ⟨k - 1, by omega⟩
     clear hk0
     have hlt1 : k < F.length := by omega
     obtain ⟨b', off', p0, hab, hbl', hp0, d0, _, _, _⟩ := form_at HF.out HB.out hlt1
     obtain ⟨rfl, rfl⟩ : b = b' ∧ off = off' := by cases hab; exact ⟨rfl, rfl⟩
     clear hab
     obtain ⟨i0, q0, qc0, L0⟩ := p0
     have HRI2 := hid (rise (x := (i, L)) (forms_at hp0) HOK.out)
     simp only [Fm.p] at HRI2 d0
     have HGT : Hid (decide (((k + 1 : Nat) : Int) > 0) = true) := hid (decide_eq_true (by omega))
     have HZ := hid (fun w' (hb' : Below wr.heap.size wr w') => (⟨by obtain ⟨_, y1, _⟩ := HX.out w' (HB.out.trans (hb'.mono HB.out.size)); exact y1, range_later hR hb' hbl, (hb'.cell (p := ⟨b, off + k * 2, none⟩) hbl).trans d0⟩ : w'.cell? ⟨w.heap.size, 1, none⟩ = some (.slice (some ⟨b, off, none⟩) F.length cap) ∧ w'.rangeAt b (off + (k + 1) * 2) (zS i q L.length qc) ∧ w'.cell? ⟨b, off + k * 2, none⟩ = some (.int .i64 i0)))
     clear hp hR c0 c1 hfd hp0 d0
     by_cases hg : i0 ≥ i
     ·have HGE : Hid (decide (i0 ≥ i) = true) := hid (decide_eq_true hg)
      obtain rfl : false = r := by rw [← hr.out]; exact (decide_eq_false (fun e => HNO.out (fun e2 => by have := HRI2.out.1 e2.2; omega) (HRI.out.1 e))).symm
      clear hg hf
      go_wp2
      have hb : Below wr.heap.size wr wr.drew := below_drew (Below.refl _ _)
      ·refine plan.region (by kernel_rfl) ?_
       refine plan.Rest.first 0 _ (.pointer (some ⟨w.heap.size, 1, none⟩)) rfl (fun w' hb' => (by kernel_rfl)) ?_
       refine plan.Rest.first 1 _ (.slice (some ⟨b, off, none⟩) F.length cap) rfl (fun w' hb' => exec_cell_slice (ad := ⟨w.heap.size, 1, none⟩) rfl (HZ.out _ (hb.trans (hb'.mono hb.size))).1 Tryz.isAgg22) ?_
       refine plan.Rest.first 2 _ (.int .i64 ((k + 1 : Nat) : Int)) rfl (fun w' hb' => (by kernel_rfl)) ?_
       refine plan.Rest.first 3 _ (.pointer (some ⟨b, off + (k + 1) * 2, none⟩)) rfl (fun w' hb' => (exec_indexM (b := b) (off := off) (len := F.length) (cap := cap) (i := (k + 1)) rfl hlt)) ?_
       refine plan.Rest.first 4 _ (zS i q L.length qc) rfl (fun w' hb' => exec_load_at (b := b) (off := off + (k + 1) * 2) rfl (HZ.out _ (hb.trans (hb'.mono hb.size))).2.1 Tryz.underlying58 rfl info_fm.out) ?_
       refine plan.Rest.call 5 _ 34 #[zS i q L.length qc] rfl ((cf wr.drew hb).mono ?_)
       rintro e W1 ⟨rfl, hn⟩
       have hb := hb.trans (hn.mono hb.size)
       refine ⟨_, rfl, hn, ?_⟩
       refine plan.Rest.first 6 _ (.bool false) rfl (fun w' hb' => (by kernel_rfl)) ?_
       refine plan.Rest.first 7 _ (.bool false) rfl (fun w' hb' => (by kernel_rfl)) ?_
       refine plan.Rest.first 8 _ (.int .i64 ((k + 1 : Nat) : Int)) rfl (fun w' hb' => (by kernel_rfl)) ?_
       refine plan.Rest.first 9 _ (.bool true) rfl (fun w' hb' => (exec_gtr_int (n := ((k + 1 : Nat) : Int)) (m := 0) rfl HGT)) ?_
       refine plan.Rest.first 10 _ (.bool true) rfl (fun w' hb' => (by kernel_rfl)) ?_
       refine plan.Rest.first 11 _ (.pointer (some ⟨w.heap.size, 1, none⟩)) rfl (fun w' hb' => (by kernel_rfl)) ?_
       refine plan.Rest.first 12 _ (.slice (some ⟨b, off, none⟩) F.length cap) rfl (fun w' hb' => exec_cell_slice (ad := ⟨w.heap.size, 1, none⟩) rfl (HZ.out _ (hb.trans (hb'.mono hb.size))).1 Tryz.isAgg22) ?_
       refine plan.Rest.first 13 _ (.int .i64 ((k + 1 : Nat) : Int)) rfl (fun w' hb' => (by kernel_rfl)) ?_
       refine plan.Rest.first 14 _ (.int .i64 (k : Int)) rfl (fun w' hb' => (exec_pred (k := k) rfl (by omega))) ?_
       refine plan.Rest.first 15 _ (.pointer (some ⟨b, off + k * 2, none⟩)) rfl (fun w' hb' => (exec_indexM (b := b) (off := off) (len := F.length) (cap := cap) (i := k) rfl hlt1)) ?_
       refine plan.Rest.first 16 _ (.pointer (some ⟨b, off + k * 2, none⟩)) rfl (fun w' hb' => (by kernel_rfl)) ?_
       refine plan.Rest.first 17 _ (.int .i64 i0) rfl (fun w' hb' => exec_cell_int (ad := ⟨b, off + k * 2, none⟩) rfl (by kernel_rfl) (HZ.out _ (hb.trans (hb'.mono hb.size))).2.2 Tryz.isAgg3) ?_
       refine plan.Rest.first 18 _ (.pointer (some ⟨w.heap.size, 1, none⟩)) rfl (fun w' hb' => (by kernel_rfl)) ?_
       refine plan.Rest.first 19 _ (.slice (some ⟨b, off, none⟩) F.length cap) rfl (fun w' hb' => exec_cell_slice (ad := ⟨w.heap.size, 1, none⟩) rfl (HZ.out _ (hb.trans (hb'.mono hb.size))).1 Tryz.isAgg22) ?_
       refine plan.Rest.first 20 _ (.int .i64 ((k + 1 : Nat) : Int)) rfl (fun w' hb' => (by kernel_rfl)) ?_
       refine plan.Rest.first 21 _ (.pointer (some ⟨b, off + (k + 1) * 2, none⟩)) rfl (fun w' hb' => (exec_indexM (b := b) (off := off) (len := F.length) (cap := cap) (i := (k + 1)) rfl hlt)) ?_
       refine plan.Rest.first 22 _ (.pointer (some ⟨b, off + (k + 1) * 2, none⟩)) rfl (fun w' hb' => (by kernel_rfl)) ?_
       refine plan.Rest.first 23 _ (.int .i64 i) rfl (fun w' hb' => exec_cell_int (ad := ⟨b, off + (k + 1) * 2, none⟩) rfl (by kernel_rfl) ((HZ.out _ (hb.trans (hb'.mono hb.size))).2.1 0 _ rfl) Tryz.isAgg3) ?_
       refine plan.Rest.first 24 _ (.bool true) rfl (fun w' hb' => (exec_geq_int (n := i0) (m := i) rfl HGE)) ?_
       refine plan.Rest.first 25 _ (.bool true) rfl (fun w' hb' => (by kernel_rfl)) ?_
       refine plan.Rest.first 26 _ (.bool true) rfl (fun w' hb' => (by kernel_rfl)) ?_
       refine plan.Rest.done ?_
       walk_nrm
       go_wp2
       go_ret
       exact ⟨rfl, hbo.trans (hb.mono hbo.size)⟩
     ·have HGE : Hid (decide (i0 ≥ i) = false) := hid (decide_eq_false hg)
      have HOK2 : Hid (FineS ((forms F).take (k + 1 + 1))) := hid (HSUC.out.2 ⟨HOK.out, hf, HRI2.out.2 (by omega)⟩)
      clear hg hf
      go_wp2
      have hb : Below wr.heap.size wr wr.drew := below_drew (Below.refl _ _)
      ·refine plan.region (by kernel_rfl) ?_
       refine plan.Rest.first 0 _ (.pointer (some ⟨w.heap.size, 1, none⟩)) rfl (fun w' hb' => (by kernel_rfl)) ?_
       refine plan.Rest.first 1 _ (.slice (some ⟨b, off, none⟩) F.length cap) rfl (fun w' hb' => exec_cell_slice (ad := ⟨w.heap.size, 1, none⟩) rfl (HZ.out _ (hb.trans (hb'.mono hb.size))).1 Tryz.isAgg22) ?_
       refine plan.Rest.first 2 _ (.int .i64 ((k + 1 : Nat) : Int)) rfl (fun w' hb' => (by kernel_rfl)) ?_
       refine plan.Rest.first 3 _ (.pointer (some ⟨b, off + (k + 1) * 2, none⟩)) rfl (fun w' hb' => (exec_indexM (b := b) (off := off) (len := F.length) (cap := cap) (i := (k + 1)) rfl hlt)) ?_
       refine plan.Rest.first 4 _ (zS i q L.length qc) rfl (fun w' hb' => exec_load_at (b := b) (off := off + (k + 1) * 2) rfl (HZ.out _ (hb.trans (hb'.mono hb.size))).2.1 Tryz.underlying58 rfl info_fm.out) ?_
       refine plan.Rest.call 5 _ 34 #[zS i q L.length qc] rfl ((cf wr.drew hb).mono ?_)
       rintro e W1 ⟨rfl, hn⟩
       have hb := hb.trans (hn.mono hb.size)
       refine ⟨_, rfl, hn, ?_⟩
       refine plan.Rest.first 6 _ (.bool false) rfl (fun w' hb' => (by kernel_rfl)) ?_
       refine plan.Rest.first 7 _ (.bool false) rfl (fun w' hb' => (by kernel_rfl)) ?_
       refine plan.Rest.first 8 _ (.int .i64 ((k + 1 : Nat) : Int)) rfl (fun w' hb' => (by kernel_rfl)) ?_
       refine plan.Rest.first 9 _ (.bool true) rfl (fun w' hb' => (exec_gtr_int (n := ((k + 1 : Nat) : Int)) (m := 0) rfl HGT)) ?_
       refine plan.Rest.first 10 _ (.bool true) rfl (fun w' hb' => (by kernel_rfl)) ?_
       refine plan.Rest.first 11 _ (.pointer (some ⟨w.heap.size, 1, none⟩)) rfl (fun w' hb' => (by kernel_rfl)) ?_
       refine plan.Rest.first 12 _ (.slice (some ⟨b, off, none⟩) F.length cap) rfl (fun w' hb' => exec_cell_slice (ad := ⟨w.heap.size, 1, none⟩) rfl (HZ.out _ (hb.trans (hb'.mono hb.size))).1 Tryz.isAgg22) ?_
       refine plan.Rest.first 13 _ (.int .i64 ((k + 1 : Nat) : Int)) rfl (fun w' hb' => (by kernel_rfl)) ?_
       refine plan.Rest.first 14 _ (.int .i64 (k : Int)) rfl (fun w' hb' => (exec_pred (k := k) rfl (by omega))) ?_
       refine plan.Rest.first 15 _ (.pointer (some ⟨b, off + k * 2, none⟩)) rfl (fun w' hb' => (exec_indexM (b := b) (off := off) (len := F.length) (cap := cap) (i := k) rfl hlt1)) ?_
       refine plan.Rest.first 16 _ (.pointer (some ⟨b, off + k * 2, none⟩)) rfl (fun w' hb' => (by kernel_rfl)) ?_
       refine plan.Rest.first 17 _ (.int .i64 i0) rfl (fun w' hb' => exec_cell_int (ad := ⟨b, off + k * 2, none⟩) rfl (by kernel_rfl) (HZ.out _ (hb.trans (hb'.mono hb.size))).2.2 Tryz.isAgg3) ?_
       refine plan.Rest.first 18 _ (.pointer (some ⟨w.heap.size, 1, none⟩)) rfl (fun w' hb' => (by kernel_rfl)) ?_
       refine plan.Rest.first 19 _ (.slice (some ⟨b, off, none⟩) F.length cap) rfl (fun w' hb' => exec_cell_slice (ad := ⟨w.heap.size, 1, none⟩) rfl (HZ.out _ (hb.trans (hb'.mono hb.size))).1 Tryz.isAgg22) ?_
       refine plan.Rest.first 20 _ (.int .i64 ((k + 1 : Nat) : Int)) rfl (fun w' hb' => (by kernel_rfl)) ?_
       refine plan.Rest.first 21 _ (.pointer (some ⟨b, off + (k + 1) * 2, none⟩)) rfl (fun w' hb' => (exec_indexM (b := b) (off := off) (len := F.length) (cap := cap) (i := (k + 1)) rfl hlt)) ?_
       refine plan.Rest.first 22 _ (.pointer (some ⟨b, off + (k + 1) * 2, none⟩)) rfl (fun w' hb' => (by kernel_rfl)) ?_
       refine plan.Rest.first 23 _ (.int .i64 i) rfl (fun w' hb' => exec_cell_int (ad := ⟨b, off + (k + 1) * 2, none⟩) rfl (by kernel_rfl) ((HZ.out _ (hb.trans (hb'.mono hb.size))).2.1 0 _ rfl) Tryz.isAgg3) ?_
       refine plan.Rest.first 24 _ (.bool false) rfl (fun w' hb' => (exec_geq_int (n := i0) (m := i) rfl HGE)) ?_
       refine plan.Rest.first 25 _ (.bool false) rfl (fun w' hb' => (by kernel_rfl)) ?_
       refine plan.Rest.first 26 _ (.bool false) rfl (fun w' hb' => (by kernel_rfl)) ?_
       refine plan.Rest.done ?_
       walk_nrm
       go_wp2
       exact ⟨⟨k + 1 + 1, by omega, by go_num, HOK2, hid (HB.out.trans (hb.mono HB.out.size))⟩, by simp [intOf]; omega⟩
   ·rw [decide_eq_false hf] at cf
    obtain rfl : false = r := by rw [← hr.out]; exact (decide_eq_false (fun e => HNO.out (fun e2 => hf e2.1) (HRI.out.1 e))).symm
    have HZ := hid (fun w' (hb' : Below wr.heap.size wr w') => (⟨by obtain ⟨_, y1, _⟩ := HX.out w' (HB.out.trans (hb'.mono HB.out.size)); exact y1, range_later hR hb' hbl⟩ : w'.cell? ⟨w.heap.size, 1, none⟩ = some (.slice (some ⟨b, off, none⟩) F.length cap) ∧ w'.rangeAt b (off + k * 2) (zS i q L.length qc)))
    clear hp hR hf c0 c1 hfd
    go_wp2
    have hb : Below wr.heap.size wr wr.drew := below_drew (Below.refl _ _)
    ·refine plan.region (by kernel_rfl) ?_
     refine plan.Rest.first 0 _ (.pointer (some ⟨w.heap.size, 1, none⟩)) rfl (fun w' hb' => (by kernel_rfl)) ?_
     refine plan.Rest.first 1 _ (.slice (some ⟨b, off, none⟩) F.length cap) rfl (fun w' hb' => exec_cell_slice (ad := ⟨w.heap.size, 1, none⟩) rfl (HZ.out _ (hb.trans (hb'.mono hb.size))).1 Tryz.isAgg22) ?_
     refine plan.Rest.first 2 _ (.int .i64 (k : Int)) rfl (fun w' hb' => (by kernel_rfl)) ?_
     refine plan.Rest.first 3 _ (.pointer (some ⟨b, off + k * 2, none⟩)) rfl (fun w' hb' => (exec_indexM (b := b) (off := off) (len := F.length) (cap := cap) (i := k) rfl hlt)) ?_
     refine plan.Rest.first 4 _ (zS i q L.length qc) rfl (fun w' hb' => exec_load_at (b := b) (off := off + k * 2) rfl (HZ.out _ (hb.trans (hb'.mono hb.size))).2 Tryz.underlying58 rfl info_fm.out) ?_
     refine plan.Rest.call 5 _ 34 #[zS i q L.length qc] rfl ((cf wr.drew hb).mono ?_)
     rintro e W1 ⟨rfl, hn⟩
     have hb := hb.trans (hn.mono hb.size)
     refine ⟨_, rfl, hn, ?_⟩
     refine plan.Rest.first 6 _ (.bool true) rfl (fun w' hb' => (by kernel_rfl)) ?_
     refine plan.Rest.first 7 _ (.bool true) rfl (fun w' hb' => (by kernel_rfl)) ?_
     refine plan.Rest.skip 8 _ rfl ?_
     refine plan.Rest.skip 9 _ rfl ?_
     refine plan.Rest.skip 10 _ rfl ?_
     refine plan.Rest.skip 11 _ rfl ?_
     refine plan.Rest.skip 12 _ rfl ?_
     refine plan.Rest.skip 13 _ rfl ?_
     refine plan.Rest.skip 14 _ rfl ?_
     refine plan.Rest.skip 15 _ rfl ?_
     refine plan.Rest.skip 16 _ rfl ?_
     refine plan.Rest.skip 17 _ rfl ?_
     refine plan.Rest.skip 18 _ rfl ?_
     refine plan.Rest.skip 19 _ rfl ?_
     refine plan.Rest.skip 20 _ rfl ?_
     refine plan.Rest.skip 21 _ rfl ?_
     refine plan.Rest.skip 22 _ rfl ?_
     refine plan.Rest.skip 23 _ rfl ?_
     refine plan.Rest.skip 24 _ rfl ?_
     refine plan.Rest.skip 25 _ rfl ?_
     refine plan.Rest.first 26 _ (.bool true) rfl (fun w' hb' => (by kernel_rfl)) ?_
     refine plan.Rest.done ?_
     walk_nrm
     go_wp2
     go_ret
     exact ⟨rfl, hbo.trans (hb.mono hbo.size)⟩
  ·obtain rfl : k = F.length := by omega
   obtain rfl : true = r := by rw [← hr.out]; have := HOK.out; rw [List.take_of_length_le (by rw [HL.out]; exact Nat.le_refl _)] at this; exact (decide_eq_true (HRI.out.2 this)).symm
   go_wp2
   go_ret
   exact ⟨rfl, hbo⟩
end Go.Proofs.YtaciegkblklokaaGreat.schema
namespace Go.Proofs.YtaciegkblklokaaGreat.step
open Go.RowKit
open Go.Proofs.YtaciegkblklokaaGreat.field (Gives newB gives_from)
open Go.Proofs.YtaciegkblklokaaGreat.schema (take_succ_at below_out)
theorem not_take {L : List Int} {k : Nat} {x q : Int} (h : L[k]? = some q) (hn : x ∉ L.take k) (hq : ¬ q = x) : x ∉ L.take (k + 1) := by
 rw [take_succ_at h]
 intro hm
 rcases List.mem_append.1 hm with h1 | h1
 ·exact hn h1
 ·exact hq (List.mem_singleton.1 h1).symm
theorem mem_take {L : List Int} {j k : Nat} {q : Int} (h : L[j]? = some q) (hj : j < k) : q ∈ L.take k := by
 have := (List.getElem?_take_of_lt (l := L) hj).trans h
 exact List.mem_of_getElem? this
theorem int_cell {w w' : World} {b off k : Nat} {p : Int} {L : List Int} (h : Ins w (some ⟨b, off, none⟩) L) (hb : Below w.heap.size w w') (hp : L[k]? = some p) : w'.cell? ⟨b, off + k, none⟩ = some (.int .i64 p) := by
 rcases h.below hb with rfl | ⟨b', off', he, hlt, hc⟩
 ·simp at hp
 ·injection he with e
  injection e with e1 e2
  subst e1 e2
  exact hc k p hp
theorem int_block {w w' : World} {b off k : Nat} {p : Int} {L : List Int} (h : Ins w (some ⟨b, off, none⟩) L) (hb : Below w.heap.size w w') (hp : L[k]? = some p) : b < w'.heap.size := by
 rcases h.below hb with rfl | ⟨b', off', he, hlt, hc⟩
 ·simp at hp
 ·injection he with e
  injection e with e1 e2
  subst e1 e2
  exact hlt
set_option maxRecDepth 20000 in
theorem refTable_any (a : Option Addr) (cap : Nat) (L : List Int) (lim : Int) (h1 : 1 ≤ lim) (h2 : lim ≤ 1000) (w : World) (h : Ins w a L) (hL : L.length ≤ maxLen) :
  Calls Tryz.prog 53 #[.slice a L.length cap, .int .i64 lim] w (Gives (.bool (decide (Table L lim))) w) := by
 have hml : (L.length : Int) ≤ 9223372036854775807 := by unfold maxLen at hL; omega
 obtain ⟨v, hv⟩ : ∃ v : Bool, Hid (decide (Table L lim) = v) := ⟨_, rfl⟩
 rw [hv.out]
 have cV := fun n (w' : World) => between_any n 0 (lim - 1) w'
 unfold Gives at cV ⊢
 have HF := hid h
 clear h hL
 go_enter Tryz.func53, Tryz.ntmps53
 go_wp2
 go_loopw [5] (fun n wr => ∃ k : Nat, k ≤ L.length ∧ n = .int .i64 (k : Int) ∧ Hid (TabOk lim (L.take k)) ∧ Hid (Below w.heap.size w wr)) (fun n _ => L.length - (intOf n).toNat)
 case atStart => exact ⟨0, Nat.zero_le _, rfl, hid ⟨by simp, by simp⟩, hid (Below.refl _ _)⟩
 case round =>
  obtain ⟨k, hk, rfl, HOK, HB⟩ := hrel
  by_cases hlt : k < L.length
  ·obtain ⟨b, off, p, rfl, hbl, hp, c0⟩ := int_at HF.out HB.out hlt
   have i1 : (k : Int) < L.length := by omega
   have HP := hid hp
   have HNO := hid (tab_no (lim := lim) hp)
   have HSUC := hid (tab_succ (lim := lim) hp)
   have cs := fun w' => cV p w'
   clear hp
   by_cases hr : 0 ≤ p ∧ p ≤ lim - 1
   ·rw [decide_eq_true hr] at cs
    have HR := hid hr
    clear hr
    go_wp2_with (go_at_call 29; ((with_reducible refine (cs _).mono ?_); rintro e w3 ⟨rfl, hb3⟩; have HB3 := hid (HB.out.trans (hb3.mono HB.out.size)); clear hb3))
    clear c0 hbl
    go_loopw [6] (fun n wr => ∃ j : Nat, j ≤ k ∧ n = .int .i64 (j : Int) ∧ Hid (p ∉ L.take j) ∧ Hid (Below w.heap.size w wr)) (fun n _ => k - (intOf n).toNat)
    case atStart => exact ⟨0, Nat.zero_le _, rfl, hid (by simp), HB3⟩
    case round =>
     obtain ⟨j, hj, rfl, HNI, HB4⟩ := hrel
     by_cases hlt2 : j < k
     ·have hq0 := List.getElem?_eq_getElem (show j < L.length by omega)
      generalize L[j]'(show j < L.length by omega) = q at hq0
      have d0 := int_cell HF.out HB4.out hq0
      have c1 := int_cell HF.out HB4.out HP.out
      have hbl := int_block HF.out HB4.out hq0
      have i2 : (j : Int) < k := by omega
      have i3 : (j : Int) < L.length := by omega
      have hq := hq0
      clear hq0
      have HQ := hid hq
      clear hq
      by_cases hpq : q = p
      ·obtain rfl : false = v := by
        rw [← hv.out]
        exact (decide_eq_false (fun h => (HSUC.out.1 (tab_take h.2 _)).2.2 (by rw [← hpq]; exact mem_take HQ.out hlt2))).symm
       subst hpq
       go_wp2
       go_quiet (fail)
       go_wp2
       go_ret
       exact ⟨rfl, below_drewN HB4.out _⟩
      ·have hd : (q == p) = false := by rw [beq_eq_false_iff_ne]; exact hpq
       have HPQ := hid hpq
       clear hpq
       go_wp2
       go_quiet (fail)
       go_wp2
       exact ⟨⟨j + 1, by omega, by go_num, hid (not_take HQ.out HNI.out HPQ.out), hid (below_drewN HB4.out _)⟩, by simp [intOf]; omega⟩
     ·obtain rfl : j = k := by omega
      go_wp2
      exact ⟨⟨j + 1, by omega, by go_num, hid (HSUC.out.2 ⟨HOK.out, HR.out, HNI.out⟩), hid HB4.out⟩, by simp [intOf]; omega⟩
   ·obtain rfl : false = v := by rw [← hv.out]; exact (decide_eq_false (fun h => HNO.out (fun h => hr h.1) h.2)).symm
    rw [decide_eq_false hr] at cs
    clear hr
    go_wp2_with (go_at_call 29; ((with_reducible refine (cs _).mono ?_); rintro e w3 ⟨rfl, hb3⟩))
    go_ret
    exact ⟨rfl, HB.out.trans (hb3.mono HB.out.size)⟩
  ·obtain rfl : k = L.length := by omega
   have HT := HOK.out
   rw [List.take_of_length_le (Nat.le_refl _)] at HT
   have HT := hid HT
   by_cases h3 : 1 ≤ L.length
   ·have hd3 : decide ((L.length : Int) ≥ 1) = true := decide_eq_true (by omega)
    by_cases h4 : L.length ≤ 64
    ·have hd4 : decide ((L.length : Int) ≤ 64) = true := decide_eq_true (by omega)
     obtain rfl : true = v := by rw [← hv.out]; exact (decide_eq_true ⟨⟨h3, h4⟩, HT.out⟩).symm
     go_wp2
     go_ret
     exact ⟨rfl, HB.out⟩
    ·have hd4 : decide ((L.length : Int) ≤ 64) = false := decide_eq_false (by omega)
     obtain rfl : false = v := by rw [← hv.out]; exact (decide_eq_false (fun h => h4 h.1.2)).symm
     go_wp2
     go_ret
     exact ⟨rfl, HB.out⟩
   ·have hd3 : decide ((L.length : Int) ≥ 1) = false := decide_eq_false (by omega)
    obtain rfl : false = v := by rw [← hv.out]; exact (decide_eq_false (fun h => h3 h.1.1)).symm
    go_wp2
    go_ret
    exact ⟨rfl, HB.out⟩
end Go.Proofs.YtaciegkblklokaaGreat.step
