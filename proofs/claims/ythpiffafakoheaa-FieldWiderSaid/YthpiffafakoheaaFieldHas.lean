/- Contract of Has of layer 12 (field). No condition. -/
import Derived.Test.YthpiffafakoheaaFieldRefSmall
import Derived.Test.YthpiffafakoheaaPlanMore
namespace Go.Proofs.Ythpiffafakoheaa.field
open Go.RowKit
set_option linter.unusedVariables false

theorem exec_cell_int {P : Program} {o : Oper} {a : Act} {w : World} {ty : TypeId} {x : Operand} {ad : Addr} {k : IntKind} {n : Int} (ho : o.op = .load ty x) (hx : a.eval x = .pointer (some ad)) (hc : w.cell? ad = some (.int k n)) (hu : ∀ w', (isAgg ty).run P w' = .ok false w') :
    (execOp a.eval o).run P w = .ok (.value (.int k n)) w := by
  unfold execOp
  rw [ho]
  simp only [hx]
  go_simp
theorem exec_cell_str {P : Program} {o : Oper} {a : Act} {w : World} {ty : TypeId} {x : Operand} {ad : Addr} {s : ByteArray} (ho : o.op = .load ty x) (hx : a.eval x = .pointer (some ad)) (hc : w.cell? ad = some (.string s)) (hu : ∀ w', (isAgg ty).run P w' = .ok false w') :
    (execOp a.eval o).run P w = .ok (.value (.string s)) w := by
  unfold execOp
  rw [ho]
  simp only [hx]
  go_simp
theorem info_field : Hid ((Try.prog.info? 23).map (·.size) = some 5) := by show _ = _; kernel_rfl
theorem within_at (n lo hi : Int) (w : World) (b : Bool) (h : Hid (decide (lo ≤ n ∧ n ≤ hi) = b)) : Calls Try.prog 22 #[.int .i64 n, .int .i64 lo, .int .i64 hi] w (Gives (.bool b) w) := by
  by_cases hb : lo ≤ n ∧ n ≤ hi
  · obtain rfl : b = true := by rw [← h.out]; exact decide_eq_true hb
    exact (within_yes n lo hi w hb.1 hb.2).mono fun _ _ ⟨he, hw⟩ => ⟨he, hw ▸ Below.refl _ _⟩
  · obtain rfl : b = false := by rw [← h.out]; exact decide_eq_false hb
    exact (within_no n lo hi w (by omega)).mono fun _ _ ⟨he, hw⟩ => ⟨he, hw ▸ Below.refl _ _⟩
set_option maxRecDepth 20000 in
theorem has_any (f : Fd) (v : Va) (w : World) : Calls Try.prog 9 #[.agg #[.int .i64 f.id, .int .i64 f.kind, .int .i64 f.lo, .int .i64 f.hi, .int .i64 f.most], .agg #[.int .i64 v.n, .string v.s]] w (Gives (.bool (decide (f.Has v))) w) := by
  have HLF := info_field
  have HB := hid (fun w' hb => (WV.all f v w w' hb).2.2)
  obtain ⟨w0, hw0⟩ : ∃ x, Hid ((w.alloc (.cells #[.int .i64 f.id, .int .i64 f.kind, .int .i64 f.lo, .int .i64 f.hi, .int .i64 f.most] 23)).alloc (.cells #[.int .i64 v.n, .string v.s] 25) = x) := ⟨_, rfl⟩
  have HB2 : Hid (∀ w', Below w0.heap.size w0 w' → Below w.heap.size w w') := hid (by rw [← hw0.out]; exact HB.out)
  have HBF : Hid (Block w0.drew w.heap.size 23 [.int .i64 f.id, .int .i64 f.kind, .int .i64 f.lo, .int .i64 f.hi, .int .i64 f.most]) := hid (by rw [← hw0.out]; exact ((Block.new w 23 [.int .i64 f.id, .int .i64 f.kind, .int .i64 f.lo, .int .i64 f.hi, .int .i64 f.most]).alloc _).drewN 1)
  have HBV : Hid (Block w0.drew (w.heap.size + 1) 25 [.int .i64 v.n, .string v.s]) := hid (by
    have h := Block.new (w.alloc (.cells #[.int .i64 f.id, .int .i64 f.kind, .int .i64 f.lo, .int .i64 f.hi, .int .i64 f.most] 23)) 25 [.int .i64 v.n, .string v.s]
    rw [World.size_alloc] at h
    rw [← hw0.out]
    exact h.drewN 1)
  obtain ⟨r, hr⟩ : ∃ r, Hid (decide (f.Has v) = r) := ⟨_, rfl⟩
  rw [hr.out]
  unfold Gives
  go_enter Try.func9, Try.ntmps9
  go_wp2
  rw [hw0.out]
  clear HB hw0
  have hb : Below w0.heap.size w0 w0.drew := below_drewN (Below.refl _ _) 1
  have hblk := HBF.out
  have hval := HBV.out
  refine plan.region (by kernel_rfl) ?_
  by_cases h : f.Right
  · by_cases hi : f.lo ≤ v.n ∧ v.n ≤ f.great
    · have hin : Hid (decide (f.lo ≤ v.n ∧ v.n ≤ f.great) = true) := decide_eq_true hi
      refine plan.Rest.first 0 _ (.agg #[.int .i64 f.id, .int .i64 f.kind, .int .i64 f.lo, .int .i64 f.hi, .int .i64 f.most]) rfl (by kernel_rfl) (by kernel_rfl) (by kernel_rfl) (by kernel_rfl) (fun w' hb' => plan.exec_load rfl (by kernel_rfl) (hblk.later hb').whole Try.underlying23 rfl HLF.out) ?_
      refine plan.Rest.call 1 _ 7 #[.agg #[.int .i64 f.id, .int .i64 f.kind, .int .i64 f.lo, .int .i64 f.hi, .int .i64 f.most]] rfl (by kernel_rfl) (by kernel_rfl) (by kernel_rfl) ((right_yes f h w0.drew).mono ?_)
      rintro e W1 ⟨rfl, hn⟩
      have hb := hb.trans (hn.mono hb.size)
      have hblk := hblk.later hn
      have hval := hval.later hn
      refine ⟨_, rfl, hn, ?_⟩
      refine plan.Rest.first 2 _ (.bool true) rfl (by kernel_rfl) (by kernel_rfl) (by kernel_rfl) (by kernel_rfl) (fun w' hb' => (by kernel_rfl)) ?_
      refine plan.Rest.first 3 _ (.pointer (some ⟨w.heap.size + 1, 0, none⟩)) rfl (by kernel_rfl) (by kernel_rfl) (by kernel_rfl) (by kernel_rfl) (fun w' hb' => (by kernel_rfl)) ?_
      refine plan.Rest.first 4 _ (.int .i64 v.n) rfl (by kernel_rfl) (by kernel_rfl) (by kernel_rfl) (by kernel_rfl) (fun w' hb' => exec_cell_int (ad := ⟨w.heap.size + 1, 0, none⟩) rfl (by kernel_rfl) ((hval.later hb').cell 0) Try.isAgg3) ?_
      refine plan.Rest.first 5 _ (.pointer (some ⟨w.heap.size, 2, none⟩)) rfl (by kernel_rfl) (by kernel_rfl) (by kernel_rfl) (by kernel_rfl) (fun w' hb' => (by kernel_rfl)) ?_
      refine plan.Rest.first 6 _ (.int .i64 f.lo) rfl (by kernel_rfl) (by kernel_rfl) (by kernel_rfl) (by kernel_rfl) (fun w' hb' => exec_cell_int (ad := ⟨w.heap.size, 2, none⟩) rfl (by kernel_rfl) ((hblk.later hb').cell 2) Try.isAgg3) ?_
      refine plan.Rest.first 7 _ (.agg #[.int .i64 f.id, .int .i64 f.kind, .int .i64 f.lo, .int .i64 f.hi, .int .i64 f.most]) rfl (by kernel_rfl) (by kernel_rfl) (by kernel_rfl) (by kernel_rfl) (fun w' hb' => plan.exec_load rfl (by kernel_rfl) (hblk.later hb').whole Try.underlying23 rfl HLF.out) ?_
      refine plan.Rest.call 8 _ 25 #[.agg #[.int .i64 f.id, .int .i64 f.kind, .int .i64 f.lo, .int .i64 f.hi, .int .i64 f.most]] rfl (by kernel_rfl) (by kernel_rfl) (by kernel_rfl) ((greatest_any f h W1).mono ?_)
      rintro e W2 ⟨rfl, hn⟩
      have hb := hb.trans (hn.mono hb.size)
      have hblk := hblk.later hn
      have hval := hval.later hn
      refine ⟨_, rfl, hn, ?_⟩
      refine plan.Rest.call 9 _ 22 #[.int .i64 v.n, .int .i64 f.lo, .int .i64 f.great] rfl (by kernel_rfl) (by kernel_rfl) (by kernel_rfl) ((within_at v.n f.lo f.great W2 true hin).mono ?_)
      rintro e W3 ⟨rfl, hn⟩
      have hb := hb.trans (hn.mono hb.size)
      have hblk := hblk.later hn
      have hval := hval.later hn
      refine ⟨_, rfl, hn, ?_⟩
      refine plan.Rest.first 10 _ (.bool true) rfl (by kernel_rfl) (by kernel_rfl) (by kernel_rfl) (by kernel_rfl) (fun w' hb' => (by kernel_rfl)) ?_
      refine plan.Rest.first 11 _ (.bool true) rfl (by kernel_rfl) (by kernel_rfl) (by kernel_rfl) (by kernel_rfl) (fun w' hb' => (by kernel_rfl)) ?_
      refine plan.Rest.first 12 _ (.pointer (some ⟨w.heap.size + 1, 1, none⟩)) rfl (by kernel_rfl) (by kernel_rfl) (by kernel_rfl) (by kernel_rfl) (fun w' hb' => (by kernel_rfl)) ?_
      refine plan.Rest.first 13 _ (.string v.s) rfl (by kernel_rfl) (by kernel_rfl) (by kernel_rfl) (by kernel_rfl) (fun w' hb' => exec_cell_str (ad := ⟨w.heap.size + 1, 1, none⟩) rfl (by kernel_rfl) ((hval.later hb').cell 1) Try.isAgg9) ?_
      refine plan.Rest.first 14 _ (.int .i64 (v.s.size : Int)) rfl (by kernel_rfl) (by kernel_rfl) (by kernel_rfl) (by kernel_rfl) (fun w' hb' => (by kernel_rfl)) ?_
      refine plan.Rest.first 15 _ (.agg #[.int .i64 f.id, .int .i64 f.kind, .int .i64 f.lo, .int .i64 f.hi, .int .i64 f.most]) rfl (by kernel_rfl) (by kernel_rfl) (by kernel_rfl) (by kernel_rfl) (fun w' hb' => plan.exec_load rfl (by kernel_rfl) (hblk.later hb').whole Try.underlying23 rfl HLF.out) ?_
      refine plan.Rest.call 16 _ 26 #[.agg #[.int .i64 f.id, .int .i64 f.kind, .int .i64 f.lo, .int .i64 f.hi, .int .i64 f.most]] rfl (by kernel_rfl) (by kernel_rfl) (by kernel_rfl) ((longest_any f W3).mono ?_)
      rintro e W4 ⟨rfl, hn⟩
      have hb := hb.trans (hn.mono hb.size)
      have hblk := hblk.later hn
      have hval := hval.later hn
      refine ⟨_, rfl, hn, ?_⟩
      refine plan.Rest.first 17 _ (.bool (decide ((v.s.size : Int) ≤ f.long))) rfl (by kernel_rfl) (by kernel_rfl) (by kernel_rfl) (by kernel_rfl) (fun w' hb' => (by kernel_rfl)) ?_
      refine plan.Rest.first 18 _ (.bool (decide ((v.s.size : Int) ≤ f.long))) rfl (by kernel_rfl) (by kernel_rfl) (by kernel_rfl) (by kernel_rfl) (fun w' hb' => (by kernel_rfl)) ?_
      refine plan.Rest.value 19 _ (.bool (decide ((v.s.size : Int) ≤ f.long))) rfl (by kernel_rfl) (by kernel_rfl) (by kernel_rfl) ?_
      refine plan.Rest.done (by kernel_rfl) ?_
      go_wp2
      exact bodyPost_ret (v := .bool (decide ((v.s.size : Int) ≤ f.long))) (by kernel_rfl) (by kernel_rfl) ⟨ret_bool (by rw [← hr.out]; exact decide_eq_decide.2 ⟨fun k => ⟨h, hi, k⟩, fun k => k.2.2⟩), HB2.out _ hb⟩
    · have hin : Hid (decide (f.lo ≤ v.n ∧ v.n ≤ f.great) = false) := decide_eq_false hi
      refine plan.Rest.first 0 _ (.agg #[.int .i64 f.id, .int .i64 f.kind, .int .i64 f.lo, .int .i64 f.hi, .int .i64 f.most]) rfl (by kernel_rfl) (by kernel_rfl) (by kernel_rfl) (by kernel_rfl) (fun w' hb' => plan.exec_load rfl (by kernel_rfl) (hblk.later hb').whole Try.underlying23 rfl HLF.out) ?_
      refine plan.Rest.call 1 _ 7 #[.agg #[.int .i64 f.id, .int .i64 f.kind, .int .i64 f.lo, .int .i64 f.hi, .int .i64 f.most]] rfl (by kernel_rfl) (by kernel_rfl) (by kernel_rfl) ((right_yes f h w0.drew).mono ?_)
      rintro e W1 ⟨rfl, hn⟩
      have hb := hb.trans (hn.mono hb.size)
      have hblk := hblk.later hn
      have hval := hval.later hn
      refine ⟨_, rfl, hn, ?_⟩
      refine plan.Rest.first 2 _ (.bool true) rfl (by kernel_rfl) (by kernel_rfl) (by kernel_rfl) (by kernel_rfl) (fun w' hb' => (by kernel_rfl)) ?_
      refine plan.Rest.first 3 _ (.pointer (some ⟨w.heap.size + 1, 0, none⟩)) rfl (by kernel_rfl) (by kernel_rfl) (by kernel_rfl) (by kernel_rfl) (fun w' hb' => (by kernel_rfl)) ?_
      refine plan.Rest.first 4 _ (.int .i64 v.n) rfl (by kernel_rfl) (by kernel_rfl) (by kernel_rfl) (by kernel_rfl) (fun w' hb' => exec_cell_int (ad := ⟨w.heap.size + 1, 0, none⟩) rfl (by kernel_rfl) ((hval.later hb').cell 0) Try.isAgg3) ?_
      refine plan.Rest.first 5 _ (.pointer (some ⟨w.heap.size, 2, none⟩)) rfl (by kernel_rfl) (by kernel_rfl) (by kernel_rfl) (by kernel_rfl) (fun w' hb' => (by kernel_rfl)) ?_
      refine plan.Rest.first 6 _ (.int .i64 f.lo) rfl (by kernel_rfl) (by kernel_rfl) (by kernel_rfl) (by kernel_rfl) (fun w' hb' => exec_cell_int (ad := ⟨w.heap.size, 2, none⟩) rfl (by kernel_rfl) ((hblk.later hb').cell 2) Try.isAgg3) ?_
      refine plan.Rest.first 7 _ (.agg #[.int .i64 f.id, .int .i64 f.kind, .int .i64 f.lo, .int .i64 f.hi, .int .i64 f.most]) rfl (by kernel_rfl) (by kernel_rfl) (by kernel_rfl) (by kernel_rfl) (fun w' hb' => plan.exec_load rfl (by kernel_rfl) (hblk.later hb').whole Try.underlying23 rfl HLF.out) ?_
      refine plan.Rest.call 8 _ 25 #[.agg #[.int .i64 f.id, .int .i64 f.kind, .int .i64 f.lo, .int .i64 f.hi, .int .i64 f.most]] rfl (by kernel_rfl) (by kernel_rfl) (by kernel_rfl) ((greatest_any f h W1).mono ?_)
      rintro e W2 ⟨rfl, hn⟩
      have hb := hb.trans (hn.mono hb.size)
      have hblk := hblk.later hn
      have hval := hval.later hn
      refine ⟨_, rfl, hn, ?_⟩
      refine plan.Rest.call 9 _ 22 #[.int .i64 v.n, .int .i64 f.lo, .int .i64 f.great] rfl (by kernel_rfl) (by kernel_rfl) (by kernel_rfl) ((within_at v.n f.lo f.great W2 false hin).mono ?_)
      rintro e W3 ⟨rfl, hn⟩
      have hb := hb.trans (hn.mono hb.size)
      have hblk := hblk.later hn
      have hval := hval.later hn
      refine ⟨_, rfl, hn, ?_⟩
      refine plan.Rest.first 10 _ (.bool false) rfl (by kernel_rfl) (by kernel_rfl) (by kernel_rfl) (by kernel_rfl) (fun w' hb' => (by kernel_rfl)) ?_
      refine plan.Rest.first 11 _ (.bool false) rfl (by kernel_rfl) (by kernel_rfl) (by kernel_rfl) (by kernel_rfl) (fun w' hb' => (by kernel_rfl)) ?_
      refine plan.Rest.skip 12 _ rfl (by kernel_rfl) (by kernel_rfl) (by kernel_rfl) (by kernel_rfl) ?_
      refine plan.Rest.skip 13 _ rfl (by kernel_rfl) (by kernel_rfl) (by kernel_rfl) (by kernel_rfl) ?_
      refine plan.Rest.skip 14 _ rfl (by kernel_rfl) (by kernel_rfl) (by kernel_rfl) (by kernel_rfl) ?_
      refine plan.Rest.skip 15 _ rfl (by kernel_rfl) (by kernel_rfl) (by kernel_rfl) (by kernel_rfl) ?_
      refine plan.Rest.skip 16 _ rfl (by kernel_rfl) (by kernel_rfl) (by kernel_rfl) (by kernel_rfl) ?_
      refine plan.Rest.skip 17 _ rfl (by kernel_rfl) (by kernel_rfl) (by kernel_rfl) (by kernel_rfl) ?_
      refine plan.Rest.first 18 _ (.bool false) rfl (by kernel_rfl) (by kernel_rfl) (by kernel_rfl) (by kernel_rfl) (fun w' hb' => (by kernel_rfl)) ?_
      refine plan.Rest.value 19 _ (.bool false) rfl (by kernel_rfl) (by kernel_rfl) (by kernel_rfl) ?_
      refine plan.Rest.done (by kernel_rfl) ?_
      go_wp2
      exact bodyPost_ret (v := .bool false) (by kernel_rfl) (by kernel_rfl) ⟨ret_bool (by rw [← hr.out]; exact (decide_eq_false (fun k => hi k.2.1)).symm), HB2.out _ hb⟩
  · refine plan.Rest.first 0 _ (.agg #[.int .i64 f.id, .int .i64 f.kind, .int .i64 f.lo, .int .i64 f.hi, .int .i64 f.most]) rfl (by kernel_rfl) (by kernel_rfl) (by kernel_rfl) (by kernel_rfl) (fun w' hb' => plan.exec_load rfl (by kernel_rfl) (hblk.later hb').whole Try.underlying23 rfl HLF.out) ?_
    refine plan.Rest.call 1 _ 7 #[.agg #[.int .i64 f.id, .int .i64 f.kind, .int .i64 f.lo, .int .i64 f.hi, .int .i64 f.most]] rfl (by kernel_rfl) (by kernel_rfl) (by kernel_rfl) ((right_no f h w0.drew).mono ?_)
    rintro e W1 ⟨rfl, hn⟩
    have hb := hb.trans (hn.mono hb.size)
    have hblk := hblk.later hn
    have hval := hval.later hn
    refine ⟨_, rfl, hn, ?_⟩
    refine plan.Rest.first 2 _ (.bool false) rfl (by kernel_rfl) (by kernel_rfl) (by kernel_rfl) (by kernel_rfl) (fun w' hb' => (by kernel_rfl)) ?_
    refine plan.Rest.skip 3 _ rfl (by kernel_rfl) (by kernel_rfl) (by kernel_rfl) (by kernel_rfl) ?_
    refine plan.Rest.skip 4 _ rfl (by kernel_rfl) (by kernel_rfl) (by kernel_rfl) (by kernel_rfl) ?_
    refine plan.Rest.skip 5 _ rfl (by kernel_rfl) (by kernel_rfl) (by kernel_rfl) (by kernel_rfl) ?_
    refine plan.Rest.skip 6 _ rfl (by kernel_rfl) (by kernel_rfl) (by kernel_rfl) (by kernel_rfl) ?_
    refine plan.Rest.skip 7 _ rfl (by kernel_rfl) (by kernel_rfl) (by kernel_rfl) (by kernel_rfl) ?_
    refine plan.Rest.skip 8 _ rfl (by kernel_rfl) (by kernel_rfl) (by kernel_rfl) (by kernel_rfl) ?_
    refine plan.Rest.skip 9 _ rfl (by kernel_rfl) (by kernel_rfl) (by kernel_rfl) (by kernel_rfl) ?_
    refine plan.Rest.first 10 _ (.bool false) rfl (by kernel_rfl) (by kernel_rfl) (by kernel_rfl) (by kernel_rfl) (fun w' hb' => (by kernel_rfl)) ?_
    refine plan.Rest.first 11 _ (.bool false) rfl (by kernel_rfl) (by kernel_rfl) (by kernel_rfl) (by kernel_rfl) (fun w' hb' => (by kernel_rfl)) ?_
    refine plan.Rest.skip 12 _ rfl (by kernel_rfl) (by kernel_rfl) (by kernel_rfl) (by kernel_rfl) ?_
    refine plan.Rest.skip 13 _ rfl (by kernel_rfl) (by kernel_rfl) (by kernel_rfl) (by kernel_rfl) ?_
    refine plan.Rest.skip 14 _ rfl (by kernel_rfl) (by kernel_rfl) (by kernel_rfl) (by kernel_rfl) ?_
    refine plan.Rest.skip 15 _ rfl (by kernel_rfl) (by kernel_rfl) (by kernel_rfl) (by kernel_rfl) ?_
    refine plan.Rest.skip 16 _ rfl (by kernel_rfl) (by kernel_rfl) (by kernel_rfl) (by kernel_rfl) ?_
    refine plan.Rest.skip 17 _ rfl (by kernel_rfl) (by kernel_rfl) (by kernel_rfl) (by kernel_rfl) ?_
    refine plan.Rest.first 18 _ (.bool false) rfl (by kernel_rfl) (by kernel_rfl) (by kernel_rfl) (by kernel_rfl) (fun w' hb' => (by kernel_rfl)) ?_
    refine plan.Rest.value 19 _ (.bool false) rfl (by kernel_rfl) (by kernel_rfl) (by kernel_rfl) ?_
    refine plan.Rest.done (by kernel_rfl) ?_
    go_wp2
    exact bodyPost_ret (v := .bool false) (by kernel_rfl) (by kernel_rfl) ⟨ret_bool (by rw [← hr.out]; exact (decide_eq_false (fun k => h k.1)).symm), HB2.out _ hb⟩
end Go.Proofs.Ythpiffafakoheaa.field
