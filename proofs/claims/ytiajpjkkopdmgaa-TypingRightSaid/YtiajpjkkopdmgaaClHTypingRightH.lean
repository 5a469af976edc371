/- Lemmas of the claim HTypingRight. Each says its own conditions. -/
import Derived.Test.YtiajpjkkopdmgaaClHTypingRightG
import Derived.Test.YtiajpjkkopdmgaaClHTypingRightE
import Derived.Test.YtiajpjkkopdmgaaClHTypingRightA
/- Contract of Has of layer 12 (field). No condition. -/
namespace Go.Proofs.Ytiajpjkkopdmgaa.field
open Go.RowKit
set_option linter.unusedVariables false

theorem exec_cell_int {P : Program} {o : Oper} {a : Act} {w : World} {ty : TypeId} {x : Operand} {ad : Addr} {k : IntKind} {n : Int} (ho : o.op = .load ty x) (hx : a.eval x = .pointer (some ad)) (hc : w.cell? ad = some (.int k n)) (hu : ∀ w', (isAgg ty).run P w' = .ok false w') :
    (execOp a.eval o).run P w = .ok (.value (.int k n)) w := by
  unfold execOp
  rw [ho]
  simp only [hx]
  go_simp
theorem exec_cell_str {P : Program} {o : Oper} {a : Act} {w : World} {ty : TypeId} {x : Operand} {ad : Addr} {s : ByteArray} (ho : o.op = .load ty x) (hx : a.eval x = .pointer (some ad)) (hc : w.cell? ad = some (.string s)) (hu : ∀ w', (isAgg ty).run P w' = .ok false w') :
    (execOp a.eval o).run P w = .ok (.value (.string s)) w := by
  unfold execOp
  rw [ho]
  simp only [hx]
  go_simp
theorem info_field : Hid ((Try.prog.info? 26).map (·.size) = some 5) := by show _ = _; kernel_rfl
theorem within_at (n lo hi : Int) (w : World) (b : Bool) (h : Hid (decide (lo ≤ n ∧ n ≤ hi) = b)) : Calls Try.prog 100 #[.int .i64 n, .int .i64 lo, .int .i64 hi] w (Gives (.bool b) w) := by
  by_cases hb : lo ≤ n ∧ n ≤ hi
  · obtain rfl : b = true := by rw [← h.out]; exact decide_eq_true hb
    exact (within_yes n lo hi w hb.1 hb.2).mono fun _ _ ⟨he, hw⟩ => ⟨he, hw ▸ Below.refl _ _⟩
  · obtain rfl : b = false := by rw [← h.out]; exact decide_eq_false hb
    exact (within_no n lo hi w (by omega)).mono fun _ _ ⟨he, hw⟩ => ⟨he, hw ▸ Below.refl _ _⟩
set_option maxRecDepth 20000 in
theorem has_any (f : Fd) (v : Va) (w : World) : Calls Try.prog 78 #[.agg #[.int .i64 f.id, .int .i64 f.kind, .int .i64 f.lo, .int .i64 f.hi, .int .i64 f.most], .agg #[.int .i64 v.n, .string v.s]] w (Gives (.bool (decide (f.Has v))) w) := by
  have HLF := info_field
  have HB := hid (fun w' hb => (WV.all f v w w' hb).2.2)
  obtain ⟨w0, hw0⟩ : ∃ x, Hid ((w.alloc (.cells #[.int .i64 f.id, .int .i64 f.kind, .int .i64 f.lo, .int .i64 f.hi, .int .i64 f.most] 26)).alloc (.cells #[.int .i64 v.n, .string v.s] 28) = x) := ⟨_, rfl⟩
  have HB2 : Hid (∀ w', Below w0.heap.size w0 w' → Below w.heap.size w w') := hid (by rw [← hw0.out]; exact HB.out)
  have HBF : Hid (Block w0.drew w.heap.size 26 [.int .i64 f.id, .int .i64 f.kind, .int .i64 f.lo, .int .i64 f.hi, .int .i64 f.most]) := hid (by rw [← hw0.out]; exact ((Block.new w 26 [.int .i64 f.id, .int .i64 f.kind, .int .i64 f.lo, .int .i64 f.hi, .int .i64 f.most]).alloc _).drewN 1)
  have HBV : Hid (Block w0.drew (w.heap.size + 1) 28 [.int .i64 v.n, .string v.s]) := hid (by
    have h := Block.new (w.alloc (.cells #[.int .i64 f.id, .int .i64 f.kind, .int .i64 f.lo, .int .i64 f.hi, .int .i64 f.most] 26)) 28 [.int .i64 v.n, .string v.s]
    rw [World.size_alloc] at h
    rw [← hw0.out]
    exact h.drewN 1)
  obtain ⟨r, hr⟩ : ∃ r, Hid (decide (f.Has v) = r) := ⟨_, rfl⟩
  rw [hr.out]
  unfold Gives
  go_enter Try.func78, Try.ntmps78
  go_wp2
  rw [hw0.out]
  clear HB hw0
  have hb : Below w0.heap.size w0 w0.drew := below_drewN (Below.refl _ _) 1
  have hblk := HBF.out
  have hval := HBV.out
  refine plan.region (by kernel_rfl) ?_
  by_cases h : f.Right
  · by_cases hi : f.lo ≤ v.n ∧ v.n ≤ f.great
    · have hin : Hid (decide (f.lo ≤ v.n ∧ v.n ≤ f.great) = true) := decide_eq_true hi
      refine plan.Rest.first 0 _ (.agg #[.int .i64 f.id, .int .i64 f.kind, .int .i64 f.lo, .int .i64 f.hi, .int .i64 f.most]) rfl (by kernel_rfl) (by kernel_rfl) (by kernel_rfl) (by kernel_rfl) (fun w' hb' => plan.exec_load rfl (by kernel_rfl) (hblk.later hb').whole Try.underlying26 rfl HLF.out) ?_
      refine plan.Rest.call 1 _ 93 #[.agg #[.int .i64 f.id, .int .i64 f.kind, .int .i64 f.lo, .int .i64 f.hi, .int .i64 f.most]] rfl (by kernel_rfl) (by kernel_rfl) (by kernel_rfl) ((right_yes f h w0.drew).mono ?_)
      rintro e W1 ⟨rfl, hn⟩
      have hb := hb.trans (hn.mono hb.size)
      have hblk := hblk.later hn
      have hval := hval.later hn
      refine ⟨_, rfl, hn, ?_⟩
      refine plan.Rest.first 2 _ (.bool true) rfl (by kernel_rfl) (by kernel_rfl) (by kernel_rfl) (by kernel_rfl) (fun w' hb' => (by kernel_rfl)) ?_
      refine plan.Rest.first 3 _ (.pointer (some ⟨w.heap.size + 1, 0, none⟩)) rfl (by kernel_rfl) (by kernel_rfl) (by kernel_rfl) (by kernel_rfl) (fun w' hb' => (by kernel_rfl)) ?_
      refine plan.Rest.first 4 _ (.int .i64 v.n) rfl (by kernel_rfl) (by kernel_rfl) (by kernel_rfl) (by kernel_rfl) (fun w' hb' => exec_cell_int (ad := ⟨w.heap.size + 1, 0, none⟩) rfl (by kernel_rfl) ((hval.later hb').cell 0) Try.isAgg3) ?_
      refine plan.Rest.first 5 _ (.pointer (some ⟨w.heap.size, 2, none⟩)) rfl (by kernel_rfl) (by kernel_rfl) (by kernel_rfl) (by kernel_rfl) (fun w' hb' => (by kernel_rfl)) ?_
      refine plan.Rest.first 6 _ (.int .i64 f.lo) rfl (by kernel_rfl) (by kernel_rfl) (by kernel_rfl) (by kernel_rfl) (fun w' hb' => exec_cell_int (ad := ⟨w.heap.size, 2, none⟩) rfl (by kernel_rfl) ((hblk.later hb').cell 2) Try.isAgg3) ?_
      refine plan.Rest.first 7 _ (.agg #[.int .i64 f.id, .int .i64 f.kind, .int .i64 f.lo, .int .i64 f.hi, .int .i64 f.most]) rfl (by kernel_rfl) (by kernel_rfl) (by kernel_rfl) (by kernel_rfl) (fun w' hb' => plan.exec_load rfl (by kernel_rfl) (hblk.later hb').whole Try.underlying26 rfl HLF.out) ?_
      refine plan.Rest.call 8 _ 101 #[.agg #[.int .i64 f.id, .int .i64 f.kind, .int .i64 f.lo, .int .i64 f.hi, .int .i64 f.most]] rfl (by kernel_rfl) (by kernel_rfl) (by kernel_rfl) ((greatest_any f h W1).mono ?_)
      rintro e W2 ⟨rfl, hn⟩
      have hb := hb.trans (hn.mono hb.size)
      have hblk := hblk.later hn
      have hval := hval.later hn
      refine ⟨_, rfl, hn, ?_⟩
      refine plan.Rest.call 9 _ 100 #[.int .i64 v.n, .int .i64 f.lo, .int .i64 f.great] rfl (by kernel_rfl) (by kernel_rfl) (by kernel_rfl) ((within_at v.n f.lo f.great W2 true hin).mono ?_)
      rintro e W3 ⟨rfl, hn⟩
      have hb := hb.trans (hn.mono hb.size)
      have hblk := hblk.later hn
      have hval := hval.later hn
      refine ⟨_, rfl, hn, ?_⟩
      refine plan.Rest.first 10 _ (.bool true) rfl (by kernel_rfl) (by kernel_rfl) (by kernel_rfl) (by kernel_rfl) (fun w' hb' => (by kernel_rfl)) ?_
      refine plan.Rest.first 11 _ (.bool true) rfl (by kernel_rfl) (by kernel_rfl) (by kernel_rfl) (by kernel_rfl) (fun w' hb' => (by kernel_rfl)) ?_
      refine plan.Rest.first 12 _ (.pointer (some ⟨w.heap.size + 1, 1, none⟩)) rfl (by kernel_rfl) (by kernel_rfl) (by kernel_rfl) (by kernel_rfl) (fun w' hb' => (by kernel_rfl)) ?_
      refine plan.Rest.first 13 _ (.string v.s) rfl (by kernel_rfl) (by kernel_rfl) (by kernel_rfl) (by kernel_rfl) (fun w' hb' => exec_cell_str (ad := ⟨w.heap.size + 1, 1, none⟩) rfl (by kernel_rfl) ((hval.later hb').cell 1) Try.isAgg9) ?_
      refine plan.Rest.first 14 _ (.int .i64 (v.s.size : Int)) rfl (by kernel_rfl) (by kernel_rfl) (by kernel_rfl) (by kernel_rfl) (fun w' hb' => (by kernel_rfl)) ?_
      refine plan.Rest.first 15 _ (.agg #[.int .i64 f.id, .int .i64 f.kind, .int .i64 f.lo, .int .i64 f.hi, .int .i64 f.most]) rfl (by kernel_rfl) (by kernel_rfl) (by kernel_rfl) (by kernel_rfl) (fun w' hb' => plan.exec_load rfl (by kernel_rfl) (hblk.later hb').whole Try.underlying26 rfl HLF.out) ?_
      refine plan.Rest.call 16 _ 102 #[.agg #[.int .i64 f.id, .int .i64 f.kind, .int .i64 f.lo, .int .i64 f.hi, .int .i64 f.most]] rfl (by kernel_rfl) (by kernel_rfl) (by kernel_rfl) ((longest_any f W3).mono ?_)
      rintro e W4 ⟨rfl, hn⟩
      have hb := hb.trans (hn.mono hb.size)
      have hblk := hblk.later hn
      have hval := hval.later hn
      refine ⟨_, rfl, hn, ?_⟩
      refine plan.Rest.first 17 _ (.bool (decide ((v.s.size : Int) ≤ f.long))) rfl (by kernel_rfl) (by kernel_rfl) (by kernel_rfl) (by kernel_rfl) (fun w' hb' => (by kernel_rfl)) ?_
      refine plan.Rest.first 18 _ (.bool (decide ((v.s.size : Int) ≤ f.long))) rfl (by kernel_rfl) (by kernel_rfl) (by kernel_rfl) (by kernel_rfl) (fun w' hb' => (by kernel_rfl)) ?_
      refine plan.Rest.value 19 _ (.bool (decide ((v.s.size : Int) ≤ f.long))) rfl (by kernel_rfl) (by kernel_rfl) (by kernel_rfl) ?_
      refine plan.Rest.done (by kernel_rfl) ?_
      go_wp2
      exact bodyPost_ret (v := .bool (decide ((v.s.size : Int) ≤ f.long))) (by kernel_rfl) (by kernel_rfl) ⟨ret_bool (by rw [← hr.out]; exact decide_eq_decide.2 ⟨fun k => ⟨h, hi, k⟩, fun k => k.2.2⟩), HB2.out _ hb⟩
    · have hin : Hid (decide (f.lo ≤ v.n ∧ v.n ≤ f.great) = false) := decide_eq_false hi
      refine plan.Rest.first 0 _ (.agg #[.int .i64 f.id, .int .i64 f.kind, .int .i64 f.lo, .int .i64 f.hi, .int .i64 f.most]) rfl (by kernel_rfl) (by kernel_rfl) (by kernel_rfl) (by kernel_rfl) (fun w' hb' => plan.exec_load rfl (by kernel_rfl) (hblk.later hb').whole Try.underlying26 rfl HLF.out) ?_
      refine plan.Rest.call 1 _ 93 #[.agg #[.int .i64 f.id, .int .i64 f.kind, .int .i64 f.lo, .int .i64 f.hi, .int .i64 f.most]] rfl (by kernel_rfl) (by kernel_rfl) (by kernel_rfl) ((right_yes f h w0.drew).mono ?_)
      rintro e W1 ⟨rfl, hn⟩
      have hb := hb.trans (hn.mono hb.size)
      have hblk := hblk.later hn
      have hval := hval.later hn
      refine ⟨_, rfl, hn, ?_⟩
      refine plan.Rest.first 2 _ (.bool true) rfl (by kernel_rfl) (by kernel_rfl) (by kernel_rfl) (by kernel_rfl) (fun w' hb' => (by kernel_rfl)) ?_
      refine plan.Rest.first 3 _ (.pointer (some ⟨w.heap.size + 1, 0, none⟩)) rfl (by kernel_rfl) (by kernel_rfl) (by kernel_rfl) (by kernel_rfl) (fun w' hb' => (by kernel_rfl)) ?_
      refine plan.Rest.first 4 _ (.int .i64 v.n) rfl (by kernel_rfl) (by kernel_rfl) (by kernel_rfl) (by kernel_rfl) (fun w' hb' => exec_cell_int (ad := ⟨w.heap.size + 1, 0, none⟩) rfl (by kernel_rfl) ((hval.later hb').cell 0) Try.isAgg3) ?_
      refine plan.Rest.first 5 _ (.pointer (some ⟨w.heap.size, 2, none⟩)) rfl (by kernel_rfl) (by kernel_rfl) (by kernel_rfl) (by kernel_rfl) (fun w' hb' => (by kernel_rfl)) ?_
      refine plan.Rest.first 6 _ (.int .i64 f.lo) rfl (by kernel_rfl) (by kernel_rfl) (by kernel_rfl) (by kernel_rfl) (fun w' hb' => exec_cell_int (ad := ⟨w.heap.size, 2, none⟩) rfl (by kernel_rfl) ((hblk.later hb').cell 2) Try.isAgg3) ?_
      refine plan.Rest.first 7 _ (.agg #[.int .i64 f.id, .int .i64 f.kind, .int .i64 f.lo, .int .i64 f.hi, .int .i64 f.most]) rfl (by kernel_rfl) (by kernel_rfl) (by kernel_rfl) (by kernel_rfl) (fun w' hb' => plan.exec_load rfl (by kernel_rfl) (hblk.later hb').whole Try.underlying26 rfl HLF.out) ?_
      refine plan.Rest.call 8 _ 101 #[.agg #[.int .i64 f.id, .int .i64 f.kind, .int .i64 f.lo, .int .i64 f.hi, .int .i64 f.most]] rfl (by kernel_rfl) (by kernel_rfl) (by kernel_rfl) ((greatest_any f h W1).mono ?_)
      rintro e W2 ⟨rfl, hn⟩
      have hb := hb.trans (hn.mono hb.size)
      have hblk := hblk.later hn
      have hval := hval.later hn
      refine ⟨_, rfl, hn, ?_⟩
      refine plan.Rest.call 9 _ 100 #[.int .i64 v.n, .int .i64 f.lo, .int .i64 f.great] rfl (by kernel_rfl) (by kernel_rfl) (by kernel_rfl) ((within_at v.n f.lo f.great W2 false hin).mono ?_)
      rintro e W3 ⟨rfl, hn⟩
      have hb := hb.trans (hn.mono hb.size)
      have hblk := hblk.later hn
      have hval := hval.later hn
      refine ⟨_, rfl, hn, ?_⟩
      refine plan.Rest.first 10 _ (.bool false) rfl (by kernel_rfl) (by kernel_rfl) (by kernel_rfl) (by kernel_rfl) (fun w' hb' => (by kernel_rfl)) ?_
      refine plan.Rest.first 11 _ (.bool false) rfl (by kernel_rfl) (by kernel_rfl) (by kernel_rfl) (by kernel_rfl) (fun w' hb' => (by kernel_rfl)) ?_
      refine plan.Rest.skip 12 _ rfl (by kernel_rfl) (by kernel_rfl) (by kernel_rfl) (by kernel_rfl) ?_
      refine plan.Rest.skip 13 _ rfl (by kernel_rfl) (by kernel_rfl) (by kernel_rfl) (by kernel_rfl) ?_
      refine plan.Rest.skip 14 _ rfl (by kernel_rfl) (by kernel_rfl) (by kernel_rfl) (by kernel_rfl) ?_
      refine plan.Rest.skip 15 _ rfl (by kernel_rfl) (by kernel_rfl) (by kernel_rfl) (by kernel_rfl) ?_
      refine plan.Rest.skip 16 _ rfl (by kernel_rfl) (by kernel_rfl) (by kernel_rfl) (by kernel_rfl) ?_
      refine plan.Rest.skip 17 _ rfl (by kernel_rfl) (by kernel_rfl) (by kernel_rfl) (by kernel_rfl) ?_
      refine plan.Rest.first 18 _ (.bool false) rfl (by kernel_rfl) (by kernel_rfl) (by kernel_rfl) (by kernel_rfl) (fun w' hb' => (by kernel_rfl)) ?_
      refine plan.Rest.value 19 _ (.bool false) rfl (by kernel_rfl) (by kernel_rfl) (by kernel_rfl) ?_
      refine plan.Rest.done (by kernel_rfl) ?_
      go_wp2
      exact bodyPost_ret (v := .bool false) (by kernel_rfl) (by kernel_rfl) ⟨ret_bool (by rw [← hr.out]; exact (decide_eq_false (fun k => hi k.2.1)).symm), HB2.out _ hb⟩
  · refine plan.Rest.first 0 _ (.agg #[.int .i64 f.id, .int .i64 f.kind, .int .i64 f.lo, .int .i64 f.hi, .int .i64 f.most]) rfl (by kernel_rfl) (by kernel_rfl) (by kernel_rfl) (by kernel_rfl) (fun w' hb' => plan.exec_load rfl (by kernel_rfl) (hblk.later hb').whole Try.underlying26 rfl HLF.out) ?_
    refine plan.Rest.call 1 _ 93 #[.agg #[.int .i64 f.id, .int .i64 f.kind, .int .i64 f.lo, .int .i64 f.hi, .int .i64 f.most]] rfl (by kernel_rfl) (by kernel_rfl) (by kernel_rfl) ((right_no f h w0.drew).mono ?_)
    rintro e W1 ⟨rfl, hn⟩
    have hb := hb.trans (hn.mono hb.size)
    have hblk := hblk.later hn
    have hval := hval.later hn
    refine ⟨_, rfl, hn, ?_⟩
    refine plan.Rest.first 2 _ (.bool false) rfl (by kernel_rfl) (by kernel_rfl) (by kernel_rfl) (by kernel_rfl) (fun w' hb' => (by kernel_rfl)) ?_
    refine plan.Rest.skip 3 _ rfl (by kernel_rfl) (by kernel_rfl) (by kernel_rfl) (by kernel_rfl) ?_
    refine plan.Rest.skip 4 _ rfl (by kernel_rfl) (by kernel_rfl) (by kernel_rfl) (by kernel_rfl) ?_
    refine plan.Rest.skip 5 _ rfl (by kernel_rfl) (by kernel_rfl) (by kernel_rfl) (by kernel_rfl) ?_
    refine plan.Rest.skip 6 _ rfl (by kernel_rfl) (by kernel_rfl) (by kernel_rfl) (by kernel_rfl) ?_
    refine plan.Rest.skip 7 _ rfl (by kernel_rfl) (by kernel_rfl) (by kernel_rfl) (by kernel_rfl) ?_
    refine plan.Rest.skip 8 _ rfl (by kernel_rfl) (by kernel_rfl) (by kernel_rfl) (by kernel_rfl) ?_
    refine plan.Rest.skip 9 _ rfl (by kernel_rfl) (by kernel_rfl) (by kernel_rfl) (by kernel_rfl) ?_
    refine plan.Rest.first 10 _ (.bool false) rfl (by kernel_rfl) (by kernel_rfl) (by kernel_rfl) (by kernel_rfl) (fun w' hb' => (by kernel_rfl)) ?_
    refine plan.Rest.first 11 _ (.bool false) rfl (by kernel_rfl) (by kernel_rfl) (by kernel_rfl) (by kernel_rfl) (fun w' hb' => (by kernel_rfl)) ?_
    refine plan.Rest.skip 12 _ rfl (by kernel_rfl) (by kernel_rfl) (by kernel_rfl) (by kernel_rfl) ?_
    refine plan.Rest.skip 13 _ rfl (by kernel_rfl) (by kernel_rfl) (by kernel_rfl) (by kernel_rfl) ?_
    refine plan.Rest.skip 14 _ rfl (by kernel_rfl) (by kernel_rfl) (by kernel_rfl) (by kernel_rfl) ?_
    refine plan.Rest.skip 15 _ rfl (by kernel_rfl) (by kernel_rfl) (by kernel_rfl) (by kernel_rfl) ?_
    refine plan.Rest.skip 16 _ rfl (by kernel_rfl) (by kernel_rfl) (by kernel_rfl) (by kernel_rfl) ?_
    refine plan.Rest.skip 17 _ rfl (by kernel_rfl) (by kernel_rfl) (by kernel_rfl) (by kernel_rfl) ?_
    refine plan.Rest.first 18 _ (.bool false) rfl (by kernel_rfl) (by kernel_rfl) (by kernel_rfl) (by kernel_rfl) (fun w' hb' => (by kernel_rfl)) ?_
    refine plan.Rest.value 19 _ (.bool false) rfl (by kernel_rfl) (by kernel_rfl) (by kernel_rfl) ?_
    refine plan.Rest.done (by kernel_rfl) ?_
    go_wp2
    exact bodyPost_ret (v := .bool false) (by kernel_rfl) (by kernel_rfl) ⟨ret_bool (by rw [← hr.out]; exact (decide_eq_false (fun k => h k.1)).symm), HB2.out _ hb⟩
end Go.Proofs.Ytiajpjkkopdmgaa.field
/- Contract of Wider of layer 12 (field), of the program and of the reference. No condition. -/
namespace Go.Proofs.Ytiajpjkkopdmgaa.field
open Go.RowKit
set_option linter.unusedVariables false
/-- the world in which two fields have been boxed -/
def WW (f g : Fd) (w : World) : World := (w.alloc (.cells #[.int .i64 f.id, .int .i64 f.kind, .int .i64 f.lo, .int .i64 f.hi, .int .i64 f.most] 26)).alloc (.cells #[.int .i64 g.id, .int .i64 g.kind, .int .i64 g.lo, .int .i64 g.hi, .int .i64 g.most] 26)
theorem WW.all (f g : Fd) (w w' : World) (hb : Below (WW f g w).heap.size (WW f g w) w') : (w'.cell? ⟨w.heap.size, 0, none⟩ = some (.int .i64 f.id) ∧ w'.cell? ⟨w.heap.size, 1, none⟩ = some (.int .i64 f.kind) ∧ w'.cell? ⟨w.heap.size, 2, none⟩ = some (.int .i64 f.lo) ∧ w'.cell? ⟨w.heap.size, 3, none⟩ = some (.int .i64 f.hi) ∧ w'.cell? ⟨w.heap.size, 4, none⟩ = some (.int .i64 f.most)) ∧ (w'.cell? ⟨w.heap.size + 1, 0, none⟩ = some (.int .i64 g.id) ∧ w'.cell? ⟨w.heap.size + 1, 1, none⟩ = some (.int .i64 g.kind) ∧ w'.cell? ⟨w.heap.size + 1, 2, none⟩ = some (.int .i64 g.lo) ∧ w'.cell? ⟨w.heap.size + 1, 3, none⟩ = some (.int .i64 g.hi) ∧ w'.cell? ⟨w.heap.size + 1, 4, none⟩ = some (.int .i64 g.most)) ∧ Below w.heap.size w w' := by
  have h1 : Below (w.alloc (.cells #[.int .i64 f.id, .int .i64 f.kind, .int .i64 f.lo, .int .i64 f.hi, .int .i64 f.most] 26)).heap.size (w.alloc (.cells #[.int .i64 f.id, .int .i64 f.kind, .int .i64 f.lo, .int .i64 f.hi, .int .i64 f.most] 26)) w' := (newB _ _).trans (hb.mono (by unfold WW; simp))
  refine ⟨five f w w' h1, ?_, belowF f w w' h1⟩
  have h2 := five g (w.alloc (.cells #[.int .i64 f.id, .int .i64 f.kind, .int .i64 f.lo, .int .i64 f.hi, .int .i64 f.most] 26)) w' hb
  simpa using h2
/-- Wider by the spans -/
theorem Fd.wider_span {f g : Fd} (hf : f.Right) (hg : g.Right) : f.Wider g ↔ f.kind = g.kind ∧ g.lo ≤ f.lo ∧ f.great ≤ g.great ∧ f.long ≤ g.long := by
  have h1 := hf
  have h2 := hg
  unfold Fd.Right at h1 h2
  unfold Fd.Wider Fd.great Fd.long
  constructor
  · rintro ⟨_, _, hk, h3, h4, h5⟩
    rw [← hk]
    rcases kinds hf with k | k | k | k <;> rw [k] <;> simp <;> omega
  · rintro ⟨hk, h3, h4, h5⟩
    rw [← hk] at h4 h5 h2
    refine ⟨hf, hg, hk, h3, ?_⟩
    rcases kinds hf with k | k | k | k <;> rw [k] at h4 h5 h1 h2 <;> simp at h4 h5 <;> omega
set_option maxHeartbeats 4000000 in
theorem wider_any (f g : Fd) (w : World) : Calls Try.prog 79 #[.agg #[.int .i64 f.id, .int .i64 f.kind, .int .i64 f.lo, .int .i64 f.hi, .int .i64 f.most], .agg #[.int .i64 g.id, .int .i64 g.kind, .int .i64 g.lo, .int .i64 g.hi, .int .i64 g.most]] w (Gives (.bool (decide (f.Wider g))) w) := by
  have HW := hid (WW.all f g w)
  obtain ⟨V, hV⟩ : ∃ V, Hid (decide (f.Wider g) = V) := ⟨_, rfl⟩
  rw [hV.out]
  unfold Gives
  by_cases hf : f.Right
  · by_cases hg : g.Right
    · have cr1 := gives_from (right_any f (WW f g w)) (w0 := WW f g w) (Below.refl _ _)
      have cr2 := fun w1 (hb : Below (WW f g w).heap.size (WW f g w) w1) => gives_from (right_any g w1) hb
      rw [decide_eq_true hf] at cr1
      rw [decide_eq_true hg] at cr2
      have HQ : Hid (f.Wider g ↔ (f.kind = g.kind ∧ g.lo ≤ f.lo ∧ f.hi ≤ g.hi ∧ f.most ≤ g.most)) := hid ⟨fun h => h.2.2, fun h => ⟨hf, hg, h⟩⟩
      unfold WW at cr1 cr2 HW
      clear hf hg
      by_cases a1 : f.kind = g.kind
      · by_cases a2 : g.lo ≤ f.lo
        · by_cases a3 : f.hi ≤ g.hi
          · by_cases a4 : f.most ≤ g.most
            · have HY : Hid (true = V) := hid (by rw [← hV.out]; symm; exact decide_eq_true (by rw [HQ.out]; omega))
              clear HQ hV
              have e1 : (f.kind == g.kind) = true := by rw [beq_iff_eq]; exact a1
              clear a1
              go_enter Try.func79, Try.ntmps79
              go_wp2_with (first
                | (go_at_call 93; (with_reducible refine cr1.mono ?_); rintro e w1 ⟨rfl, hb1⟩; obtain ⟨hf1, hg1, hbw1⟩ := HW.out _ hb1; clear cr1)
                | (go_at_call 93; (with_reducible refine (cr2 _ hb1).mono ?_); rintro e w2 ⟨rfl, hb2⟩; obtain ⟨hf2, hg2, hbw2⟩ := HW.out _ hb2))
              go_ret
              exact ⟨ret_bool (HY.out), hbw2⟩
            · have HY : Hid (false = V) := hid (by rw [← hV.out]; symm; exact decide_eq_false (by rw [HQ.out]; omega))
              clear HQ hV
              have e1 : (f.kind == g.kind) = true := by rw [beq_iff_eq]; exact a1
              have d4 : decide (f.most ≤ g.most) = false := decide_eq_false a4
              clear a1 a4
              go_enter Try.func79, Try.ntmps79
              go_wp2_with (first
                | (go_at_call 93; (with_reducible refine cr1.mono ?_); rintro e w1 ⟨rfl, hb1⟩; obtain ⟨hf1, hg1, hbw1⟩ := HW.out _ hb1; clear cr1)
                | (go_at_call 93; (with_reducible refine (cr2 _ hb1).mono ?_); rintro e w2 ⟨rfl, hb2⟩; obtain ⟨hf2, hg2, hbw2⟩ := HW.out _ hb2))
              go_ret
              exact ⟨ret_bool (HY.out), hbw2⟩
          · have HY : Hid (false = V) := hid (by rw [← hV.out]; symm; exact decide_eq_false (by rw [HQ.out]; omega))
            clear HQ hV
            have e1 : (f.kind == g.kind) = true := by rw [beq_iff_eq]; exact a1
            have d4 : decide (f.hi ≤ g.hi) = false := decide_eq_false a3
            clear a1 a3
            go_enter Try.func79, Try.ntmps79
            go_wp2_with (first
              | (go_at_call 93; (with_reducible refine cr1.mono ?_); rintro e w1 ⟨rfl, hb1⟩; obtain ⟨hf1, hg1, hbw1⟩ := HW.out _ hb1; clear cr1)
              | (go_at_call 93; (with_reducible refine (cr2 _ hb1).mono ?_); rintro e w2 ⟨rfl, hb2⟩; obtain ⟨hf2, hg2, hbw2⟩ := HW.out _ hb2))
            go_ret
            exact ⟨ret_bool (HY.out), hbw2⟩
        · have HY : Hid (false = V) := hid (by rw [← hV.out]; symm; exact decide_eq_false (by rw [HQ.out]; omega))
          clear HQ hV
          have e1 : (f.kind == g.kind) = true := by rw [beq_iff_eq]; exact a1
          have d4 : decide (g.lo ≤ f.lo) = false := decide_eq_false a2
          clear a1 a2
          go_enter Try.func79, Try.ntmps79
          go_wp2_with (first
            | (go_at_call 93; (with_reducible refine cr1.mono ?_); rintro e w1 ⟨rfl, hb1⟩; obtain ⟨hf1, hg1, hbw1⟩ := HW.out _ hb1; clear cr1)
            | (go_at_call 93; (with_reducible refine (cr2 _ hb1).mono ?_); rintro e w2 ⟨rfl, hb2⟩; obtain ⟨hf2, hg2, hbw2⟩ := HW.out _ hb2))
          go_ret
          exact ⟨ret_bool (HY.out), hbw2⟩
      · have HY : Hid (false = V) := hid (by rw [← hV.out]; symm; exact decide_eq_false (by rw [HQ.out]; omega))
        clear HQ hV
        have e1 : (f.kind == g.kind) = false := by rw [beq_eq_false_iff_ne]; exact a1
        clear a1
        go_enter Try.func79, Try.ntmps79
        go_wp2_with (first
          | (go_at_call 93; (with_reducible refine cr1.mono ?_); rintro e w1 ⟨rfl, hb1⟩; obtain ⟨hf1, hg1, hbw1⟩ := HW.out _ hb1; clear cr1)
          | (go_at_call 93; (with_reducible refine (cr2 _ hb1).mono ?_); rintro e w2 ⟨rfl, hb2⟩; obtain ⟨hf2, hg2, hbw2⟩ := HW.out _ hb2))
        go_ret
        exact ⟨ret_bool (HY.out), hbw2⟩
    · have cr1 := gives_from (right_any f (WW f g w)) (w0 := WW f g w) (Below.refl _ _)
      have cr2 := fun w1 (hb : Below (WW f g w).heap.size (WW f g w) w1) => gives_from (right_any g w1) hb
      rw [decide_eq_true hf] at cr1
      rw [decide_eq_false hg] at cr2
      have HY : Hid (false = V) := hid (by rw [← hV.out]; symm; exact decide_eq_false (fun h => hg h.2.1))
      unfold WW at cr1 cr2 HW
      clear hf hg hV
      go_enter Try.func79, Try.ntmps79
      go_wp2_with (first
        | (go_at_call 93; (with_reducible refine cr1.mono ?_); rintro e w1 ⟨rfl, hb1⟩; obtain ⟨hf1, hg1, hbw1⟩ := HW.out _ hb1; clear cr1)
        | (go_at_call 93; (with_reducible refine (cr2 _ hb1).mono ?_); rintro e w2 ⟨rfl, hb2⟩; obtain ⟨hf2, hg2, hbw2⟩ := HW.out _ hb2))
      go_ret
      exact ⟨ret_bool (HY.out), hbw2⟩
  · have cr1 := gives_from (right_any f (WW f g w)) (w0 := WW f g w) (Below.refl _ _)
    rw [decide_eq_false hf] at cr1
    have HY : Hid (false = V) := hid (by rw [← hV.out]; symm; exact decide_eq_false (fun h => hf h.1))
    unfold WW at cr1 HW
    clear hf hV
    go_enter Try.func79, Try.ntmps79
    go_wp2_with (first
      | (go_at_call 93; (with_reducible refine cr1.mono ?_); rintro e w1 ⟨rfl, hb1⟩; obtain ⟨hf1, hg1, hbw1⟩ := HW.out _ hb1; clear cr1))
    go_ret
    exact ⟨ret_bool (HY.out), hbw1⟩
set_option maxHeartbeats 4000000 in
theorem refWider_any (f g : Fd) (w : World) : Calls Try.prog 61 #[.agg #[.int .i64 f.id, .int .i64 f.kind, .int .i64 f.lo, .int .i64 f.hi, .int .i64 f.most], .agg #[.int .i64 g.id, .int .i64 g.kind, .int .i64 g.lo, .int .i64 g.hi, .int .i64 g.most]] w (Gives (.bool (decide (f.Wider g))) w) := by
  have HW := hid (WW.all f g w)
  obtain ⟨V, hV⟩ : ∃ V, Hid (decide (f.Wider g) = V) := ⟨_, rfl⟩
  rw [hV.out]
  unfold Gives
  by_cases hf : f.Right
  · by_cases hg : g.Right
    · have cs1 := span_from f hf (w0 := WW f g w) (Below.refl _ _)
      have cs2 := fun w1 (hb : Below (WW f g w).heap.size (WW f g w) w1) => span_from g hg hb
      have HQ := hid (Fd.wider_span hf hg)
      unfold WW at cs1 cs2 HW
      clear hf hg
      generalize f.great = G1 at *
      generalize g.great = G2 at *
      generalize f.long = L1 at *
      generalize g.long = L2 at *
      by_cases a1 : f.kind = g.kind
      · by_cases a2 : g.lo ≤ f.lo
        · by_cases a3 : G1 ≤ G2
          · by_cases a4 : L1 ≤ L2
            · have HY : Hid (true = V) := hid (by rw [← hV.out]; symm; exact decide_eq_true (by rw [HQ.out]; omega))
              clear HQ hV
              have e1 : (f.kind == g.kind) = true := by rw [beq_iff_eq]; exact a1
              clear a1
              go_enter Try.func61, Try.ntmps61
              go_wp2_with (first
                | (go_at_call 89; (with_reducible refine cs1.mono ?_); rintro e w1 ⟨rfl, hb1⟩; obtain ⟨hf1, hg1, hbw1⟩ := HW.out _ hb1; clear cs1)
                | (go_at_call 89; (with_reducible refine (cs2 _ hb1).mono ?_); rintro e w2 ⟨rfl, hb2⟩; obtain ⟨hf2, hg2, hbw2⟩ := HW.out _ hb2))
              go_ret
              exact ⟨ret_bool (HY.out), hbw2⟩
            · have HY : Hid (false = V) := hid (by rw [← hV.out]; symm; exact decide_eq_false (by rw [HQ.out]; omega))
              clear HQ hV
              have e1 : (f.kind == g.kind) = true := by rw [beq_iff_eq]; exact a1
              have d4 : decide (L1 ≤ L2) = false := decide_eq_false a4
              clear a1 a4
              go_enter Try.func61, Try.ntmps61
              go_wp2_with (first
                | (go_at_call 89; (with_reducible refine cs1.mono ?_); rintro e w1 ⟨rfl, hb1⟩; obtain ⟨hf1, hg1, hbw1⟩ := HW.out _ hb1; clear cs1)
                | (go_at_call 89; (with_reducible refine (cs2 _ hb1).mono ?_); rintro e w2 ⟨rfl, hb2⟩; obtain ⟨hf2, hg2, hbw2⟩ := HW.out _ hb2))
              go_ret
              exact ⟨ret_bool (HY.out), hbw2⟩
          · have HY : Hid (false = V) := hid (by rw [← hV.out]; symm; exact decide_eq_false (by rw [HQ.out]; omega))
            clear HQ hV
            have e1 : (f.kind == g.kind) = true := by rw [beq_iff_eq]; exact a1
            have d4 : decide (G1 ≤ G2) = false := decide_eq_false a3
            clear a1 a3
            go_enter Try.func61, Try.ntmps61
            go_wp2_with (first
              | (go_at_call 89; (with_reducible refine cs1.mono ?_); rintro e w1 ⟨rfl, hb1⟩; obtain ⟨hf1, hg1, hbw1⟩ := HW.out _ hb1; clear cs1)
              | (go_at_call 89; (with_reducible refine (cs2 _ hb1).mono ?_); rintro e w2 ⟨rfl, hb2⟩; obtain ⟨hf2, hg2, hbw2⟩ := HW.out _ hb2))
            go_ret
            exact ⟨ret_bool (HY.out), hbw2⟩
        · have HY : Hid (false = V) := hid (by rw [← hV.out]; symm; exact decide_eq_false (by rw [HQ.out]; omega))
          clear HQ hV
          have e1 : (f.kind == g.kind) = true := by rw [beq_iff_eq]; exact a1
          have d4 : decide (g.lo ≤ f.lo) = false := decide_eq_false a2
          clear a1 a2
          go_enter Try.func61, Try.ntmps61
          go_wp2_with (first
            | (go_at_call 89; (with_reducible refine cs1.mono ?_); rintro e w1 ⟨rfl, hb1⟩; obtain ⟨hf1, hg1, hbw1⟩ := HW.out _ hb1; clear cs1)
            | (go_at_call 89; (with_reducible refine (cs2 _ hb1).mono ?_); rintro e w2 ⟨rfl, hb2⟩; obtain ⟨hf2, hg2, hbw2⟩ := HW.out _ hb2))
          go_ret
          exact ⟨ret_bool (HY.out), hbw2⟩
      · have HY : Hid (false = V) := hid (by rw [← hV.out]; symm; exact decide_eq_false (by rw [HQ.out]; omega))
        clear HQ hV
        have e1 : (f.kind == g.kind) = false := by rw [beq_eq_false_iff_ne]; exact a1
        clear a1
        go_enter Try.func61, Try.ntmps61
        go_wp2_with (first
          | (go_at_call 89; (with_reducible refine cs1.mono ?_); rintro e w1 ⟨rfl, hb1⟩; obtain ⟨hf1, hg1, hbw1⟩ := HW.out _ hb1; clear cs1)
          | (go_at_call 89; (with_reducible refine (cs2 _ hb1).mono ?_); rintro e w2 ⟨rfl, hb2⟩; obtain ⟨hf2, hg2, hbw2⟩ := HW.out _ hb2))
        go_ret
        exact ⟨ret_bool (HY.out), hbw2⟩
    · have cs1 := span_from f hf (w0 := WW f g w) (Below.refl _ _)
      have cs2 := fun w1 (hb : Below (WW f g w).heap.size (WW f g w) w1) => span_from_no g hg hb
      have HY : Hid (false = V) := hid (by rw [← hV.out]; symm; exact decide_eq_false (fun h => hg h.2.1))
      unfold WW at cs1 cs2 HW
      clear hf hg hV
      go_enter Try.func61, Try.ntmps61
      go_wp2_with (first
        | (go_at_call 89; (with_reducible refine cs1.mono ?_); rintro e w1 ⟨rfl, hb1⟩; obtain ⟨hf1, hg1, hbw1⟩ := HW.out _ hb1; clear cs1)
        | (go_at_call 89; (with_reducible refine (cs2 _ hb1).mono ?_); rintro e w2 ⟨⟨a2, b2, c2, rfl⟩, hb2⟩; obtain ⟨hf2, hg2, hbw2⟩ := HW.out _ hb2))
      go_ret
      exact ⟨ret_bool (HY.out), hbw2⟩
  · have cs1 := span_from_no f hf (w0 := WW f g w) (Below.refl _ _)
    have HY : Hid (false = V) := hid (by rw [← hV.out]; symm; exact decide_eq_false (fun h => hf h.1))
    clear hf hV
    by_cases hg : g.Right
    · have cs2 := fun w1 (hb : Below (WW f g w).heap.size (WW f g w) w1) => span_from g hg hb
      unfold WW at cs1 cs2 HW
      clear hg
      go_enter Try.func61, Try.ntmps61
      go_wp2_with (first
        | (go_at_call 89; (with_reducible refine cs1.mono ?_); rintro e w1 ⟨⟨a1, b1, c1, rfl⟩, hb1⟩; obtain ⟨hf1, hg1, hbw1⟩ := HW.out _ hb1; clear cs1)
        | (go_at_call 89; (with_reducible refine (cs2 _ hb1).mono ?_); rintro e w2 ⟨rfl, hb2⟩; obtain ⟨hf2, hg2, hbw2⟩ := HW.out _ hb2))
      go_ret
      exact ⟨ret_bool (HY.out), hbw2⟩
    · have cs2 := fun w1 (hb : Below (WW f g w).heap.size (WW f g w) w1) => span_from_no g hg hb
      unfold WW at cs1 cs2 HW
      clear hg
      go_enter Try.func61, Try.ntmps61
      go_wp2_with (first
        | (go_at_call 89; (with_reducible refine cs1.mono ?_); rintro e w1 ⟨⟨a1, b1, c1, rfl⟩, hb1⟩; obtain ⟨hf1, hg1, hbw1⟩ := HW.out _ hb1; clear cs1)
        | (go_at_call 89; (with_reducible refine (cs2 _ hb1).mono ?_); rintro e w2 ⟨⟨a2, b2, c2, rfl⟩, hb2⟩; obtain ⟨hf2, hg2, hbw2⟩ := HW.out _ hb2))
      go_ret
      exact ⟨ret_bool (HY.out), hbw2⟩
end Go.Proofs.Ytiajpjkkopdmgaa.field
/- A step that has just been boxed, and one in a variable. No condition. -/
namespace Go.Proofs.Ytiajpjkkopdmgaa.step
open Go.RowKit
open Go.Proofs.Ytiajpjkkopdmgaa.field (Gives newB gives_from)
open Go.Proofs.Ytiajpjkkopdmgaa.schema (below_out)
set_option linter.unusedVariables false

theorem boxP (s : Sp) (ta : Option Addr) (tc : Nat) (la : Option Addr) (lc : Nat) (w w' : World) (hb : Below (w.alloc (.cells #[.int .i64 s.op, .int .i64 s.fm, .int .i64 s.fd, .int .i64 s.pl, .int .i64 s.tt, .int .i64 s.a, .int .i64 s.b, .int .i64 s.f.id, .int .i64 s.f.kind, .int .i64 s.f.lo, .int .i64 s.f.hi, .int .i64 s.f.most, .int .i64 s.v.n, .string s.v.s, .slice ta s.t.length tc, .slice la s.l.length lc] 32)).heap.size (w.alloc (.cells #[.int .i64 s.op, .int .i64 s.fm, .int .i64 s.fd, .int .i64 s.pl, .int .i64 s.tt, .int .i64 s.a, .int .i64 s.b, .int .i64 s.f.id, .int .i64 s.f.kind, .int .i64 s.f.lo, .int .i64 s.f.hi, .int .i64 s.f.most, .int .i64 s.v.n, .string s.v.s, .slice ta s.t.length tc, .slice la s.l.length lc] 32)) w') : (w'.cell? ⟨w.heap.size, 0, none⟩ = some (.int .i64 s.op) ∧ w'.cell? ⟨w.heap.size, 1, none⟩ = some (.int .i64 s.fm) ∧ w'.cell? ⟨w.heap.size, 2, none⟩ = some (.int .i64 s.fd) ∧ w'.cell? ⟨w.heap.size, 3, none⟩ = some (.int .i64 s.pl) ∧ w'.cell? ⟨w.heap.size, 4, none⟩ = some (.int .i64 s.tt) ∧ w'.cell? ⟨w.heap.size, 5, none⟩ = some (.int .i64 s.a) ∧ w'.cell? ⟨w.heap.size, 6, none⟩ = some (.int .i64 s.b) ∧ w'.cell? ⟨w.heap.size, 7, none⟩ = some (.int .i64 s.f.id) ∧ w'.cell? ⟨w.heap.size, 8, none⟩ = some (.int .i64 s.f.kind) ∧ w'.cell? ⟨w.heap.size, 9, none⟩ = some (.int .i64 s.f.lo) ∧ w'.cell? ⟨w.heap.size, 10, none⟩ = some (.int .i64 s.f.hi) ∧ w'.cell? ⟨w.heap.size, 11, none⟩ = some (.int .i64 s.f.most) ∧ w'.cell? ⟨w.heap.size, 12, none⟩ = some (.int .i64 s.v.n) ∧ w'.cell? ⟨w.heap.size, 13, none⟩ = some (.string s.v.s) ∧ w'.cell? ⟨w.heap.size, 14, none⟩ = some (.slice ta s.t.length tc) ∧ w'.cell? ⟨w.heap.size, 15, none⟩ = some (.slice la s.l.length lc)) ∧ Below w.heap.size w w' := by
  have hB := (Block.new w 32 [.int .i64 s.op, .int .i64 s.fm, .int .i64 s.fd, .int .i64 s.pl, .int .i64 s.tt, .int .i64 s.a, .int .i64 s.b, .int .i64 s.f.id, .int .i64 s.f.kind, .int .i64 s.f.lo, .int .i64 s.f.hi, .int .i64 s.f.most, .int .i64 s.v.n, .string s.v.s, .slice ta s.t.length tc, .slice la s.l.length lc]).later hb
  exact ⟨⟨hB.cell 0, hB.cell 1, hB.cell 2, hB.cell 3, hB.cell 4, hB.cell 5, hB.cell 6, hB.cell 7, hB.cell 8, hB.cell 9, hB.cell 10, hB.cell 11, hB.cell 12, hB.cell 13, hB.cell 14, hB.cell 15⟩, below_out hb⟩
/-- the two lists of a step, as they lie in memory -/
structure Lists (w : World) (s : Sp) (ta la : Option Addr) : Prop where
  t : Ins w ta s.t
  l : field.Fds w la s.l
  mt : s.t.length ≤ maxLen
  ml : s.l.length ≤ maxLen
theorem Lists.below {w w' : World} {s : Sp} {ta la : Option Addr} (h : Lists w s ta la) (hb : Below w.heap.size w w') : Lists w' s ta la := ⟨h.t.below hb, h.l.below hb, h.mt, h.ml⟩
theorem St.Good.lists {w : World} {p : St} (h : p.Good w) : Lists w p.s p.ta p.la := ⟨h.rt, h.rl, Nat.le_trans h.ct h.dt, Nat.le_trans h.cl h.dl⟩
/-- a call that gives v, from every later world -/
abbrev From (F : FuncId) (args : Array Value) (v : Value) (w0 : World) : Prop := ∀ w', Below w0.heap.size w0 w' → Calls Try.prog F args w' fun e w2 => e = .returned v ∧ Below w0.heap.size w0 w2
theorem from_all {F : FuncId} {args : Array Value} {v : Value} (w0 : World) (h : ∀ w', Calls Try.prog F args w' (Gives v w')) : From F args v w0 := fun w' hb => gives_from (h w') hb
theorem from_in {F : FuncId} {args : Array Value} {v : Value} (w0 : World) (h : ∀ w', Below w0.heap.size w0 w' → Calls Try.prog F args w' (Gives v w')) : From F args v w0 := fun w' hb => gives_from (h w' hb) hb
end Go.Proofs.Ytiajpjkkopdmgaa.step
