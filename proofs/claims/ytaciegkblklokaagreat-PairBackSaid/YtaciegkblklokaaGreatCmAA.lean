/- Contracts and lemmas that the claims of this seat share: StepRefSame. Each says its own conditions. -/
import Derived.Test.YtaciegkblklokaaGreatCmO
import Derived.Test.YtaciegkblklokaaGreatCmR
import Derived.Deep.CutRange
set_option linter.unusedVariables false
namespace Go.Proofs.YtaciegkblklokaaGreat.step
open Go.RowKit
open Go.Proofs.YtaciegkblklokaaGreat.field (Gives newB gives_from)
open Go.Proofs.YtaciegkblklokaaGreat.schema (below_out take_succ_at eq_take_succ neq_fd field_at exec_two exec_load_at exec_cell_slice exec_cell_int exec_neq_int info_fd)
set_option maxRecDepth 20000 in
set_option maxHeartbeats 6400000 in
theorem refSame_any (s : Sp) (ta : Option Addr) (tc : Nat) (la : Option Addr) (lc : Nat) (u : Sp) (ua : Option Addr) (uc : Nat) (va : Option Addr) (vc : Nat) (w : World) (h : Lists w s ta la) (h' : Lists w u ua va) :
  Calls Tryz.prog 13 #[zP s ta tc la lc, zP u ua uc va vc] w (Gives (.bool (decide (s = u))) w) := by
 obtain ⟨hA, hU, hw⟩ := WP2.all s ta tc la lc u ua uc va vc w
 have hl1 := h.below hw
 have hl2 := h'.below hw
 unfold WP2 at hA hU hw hl1 hl2
 obtain ⟨W0, hW0⟩ : ∃ x, (w.alloc (.cells (zP s ta tc la lc) 32)).alloc (.cells (zP u ua uc va vc) 32) = x := ⟨_, rfl⟩
 have HW0 := hid hW0
 rw [hW0] at hA hU hw hl1 hl2
 have HZ : Hid (∀ w', Below W0.heap.size W0 w' → Block w' w.heap.size 32 (zP s ta tc la lc) ∧ Block w' (w.heap.size + 1) 32 (zP u ua uc va vc)) := hid (fun w' hb => ⟨hA.later hb, hU.later hb⟩)
 have HZ0s := hid hA
 have HZ0u := hid hU
 have HL1 := hid hl1
 have HL2 := hid hl2
 have HB0 := hid hw
 have b1 : (s.t.length : Int) ≤ 9223372036854775807 := by have := hl1.mt; unfold maxLen at this; omega
 have b2 : (u.t.length : Int) ≤ 9223372036854775807 := by have := hl2.mt; unfold maxLen at this; omega
 have b3 : (s.l.length : Int) ≤ 9223372036854775807 := by have := hl1.ml; unfold maxLen at this; omega
 have b4 : (u.l.length : Int) ≤ 9223372036854775807 := by have := hl2.ml; unfold maxLen at this; omega
 obtain ⟨r, hr⟩ : ∃ r : Bool, Hid (decide (s = u) = r) := ⟨_, rfl⟩
 rw [hr.out]
 unfold Gives
 clear h h' hA hU hw hl1 hl2 hW0
 by_cases hx : s.op = u.op
 rotate_left
 ·have d0 : (s.op == u.op) = false := by rw [beq_eq_false_iff_ne]; exact hx
  have e0 : (s.op != u.op) = true := by simp [hx]
  obtain rfl : false = r := by rw [← hr.out]; exact (decide_eq_false (fun e => hx (sp_eq.1 e).1.1)).symm
  clear hx
  go_enter Tryz.func13, Tryz.ntmps13
  go_upto_region 1 with fail
  rw [HW0.out]
  refine plan.line ?_
  refine plan.line_same 0 _ (.pointer (some ⟨w.heap.size, 0, none⟩)) rfl ?_
  refine plan.line_same 1 _ (.int .i64 s.op) rfl (hv := (exec_cell_int (ad := ⟨w.heap.size, 0, none⟩) rfl (by kernel_rfl) (HZ0s.out.cell 0) Tryz.isAgg3)) ?_
  refine plan.line_same 2 _ (.pointer (some ⟨w.heap.size + 1, 0, none⟩)) rfl ?_
  refine plan.line_same 3 _ (.int .i64 u.op) rfl (hv := (exec_cell_int (ad := ⟨w.heap.size + 1, 0, none⟩) rfl (by kernel_rfl) (HZ0u.out.cell 0) Tryz.isAgg3)) ?_
  refine plan.line_same 4 _ (.bool true) rfl (hv := (exec_neq_int (n := s.op) (m := u.op) rfl (hid e0))) ?_
  refine plan.line_same 5 _ (.bool true) rfl ?_
  refine plan.line_skip 6 _ rfl ?_
  refine plan.line_skip 7 _ rfl ?_
  refine plan.line_skip 8 _ rfl ?_
  refine plan.line_skip 9 _ rfl ?_
  refine plan.line_skip 10 _ rfl ?_
  refine plan.line_same 11 _ (.bool true) rfl ?_
  refine plan.line_same 12 _ (.bool true) rfl ?_
  refine plan.line_skip 13 _ rfl ?_
  refine plan.line_skip 14 _ rfl ?_
  refine plan.line_skip 15 _ rfl ?_
  refine plan.line_skip 16 _ rfl ?_
  refine plan.line_skip 17 _ rfl ?_
  refine plan.line_same 18 _ (.bool true) rfl ?_
  refine plan.line_same 19 _ (.bool true) rfl ?_
  refine plan.line_skip 20 _ rfl ?_
  refine plan.line_skip 21 _ rfl ?_
  refine plan.line_skip 22 _ rfl ?_
  refine plan.line_skip 23 _ rfl ?_
  refine plan.line_skip 24 _ rfl ?_
  refine plan.line_same 25 _ (.bool true) rfl ?_
  refine plan.line_same 26 _ (.bool true) rfl ?_
  refine plan.line_skip 27 _ rfl ?_
  refine plan.line_skip 28 _ rfl ?_
  refine plan.line_skip 29 _ rfl ?_
  refine plan.line_skip 30 _ rfl ?_
  refine plan.line_skip 31 _ rfl ?_
  refine plan.line_same 32 _ (.bool true) rfl ?_
  refine plan.line_same 33 _ (.bool true) rfl ?_
  refine plan.line_skip 34 _ rfl ?_
  refine plan.line_skip 35 _ rfl ?_
  refine plan.line_skip 36 _ rfl ?_
  refine plan.line_skip 37 _ rfl ?_
  refine plan.line_skip 38 _ rfl ?_
  refine plan.line_same 39 _ (.bool true) rfl ?_
  refine plan.line_same 40 _ (.bool true) rfl ?_
  refine plan.line_skip 41 _ rfl ?_
  refine plan.line_skip 42 _ rfl ?_
  refine plan.line_skip 43 _ rfl ?_
  refine plan.line_skip 44 _ rfl ?_
  refine plan.line_skip 45 _ rfl ?_
  refine plan.line_same 46 _ (.bool true) rfl ?_
  refine plan.line_same 47 _ (.bool true) rfl ?_
  refine plan.line_skip 48 _ rfl ?_
  refine plan.line_skip 49 _ rfl ?_
  refine plan.line_skip 50 _ rfl ?_
  refine plan.line_skip 51 _ rfl ?_
  refine plan.line_skip 52 _ rfl ?_
  refine plan.line_same 53 _ (.bool true) rfl ?_
  refine plan.line_same 54 _ (.bool true) rfl ?_
  refine plan.line_skip 55 _ rfl ?_
  refine plan.line_skip 56 _ rfl ?_
  refine plan.line_skip 57 _ rfl ?_
  refine plan.line_skip 58 _ rfl ?_
  refine plan.line_skip 59 _ rfl ?_
  refine plan.line_same 60 _ (.bool true) rfl ?_
  refine plan.line_same 61 _ (.bool true) rfl ?_
  refine plan.line_skip 62 _ rfl ?_
  refine plan.line_skip 63 _ rfl ?_
  refine plan.line_skip 64 _ rfl ?_
  refine plan.line_skip 65 _ rfl ?_
  refine plan.line_skip 66 _ rfl ?_
  refine plan.line_skip 67 _ rfl ?_
  refine plan.line_skip 68 _ rfl ?_
  refine plan.line_same 69 _ (.bool true) rfl ?_
  refine plan.line_same 70 _ (.bool true) rfl ?_
  refine plan.line_skip 71 _ rfl ?_
  refine plan.line_skip 72 _ rfl ?_
  refine plan.line_skip 73 _ rfl ?_
  refine plan.line_skip 74 _ rfl ?_
  refine plan.line_skip 75 _ rfl ?_
  refine plan.line_skip 76 _ rfl ?_
  refine plan.line_skip 77 _ rfl ?_
  refine plan.line_same 78 _ (.bool true) rfl ?_
  refine plan.line_done (by decide) ?_
  walk_nrm
  go_wp2
  go_ret
  exact ⟨rfl, HB0.out⟩
 have d0 : (s.op == u.op) = true := by rw [beq_iff_eq]; exact hx
 have e0 : (s.op != u.op) = false := by simp [hx]
 have H0 := hid hx
 clear hx
 by_cases hx : s.fm = u.fm
 rotate_left
 ·have d1 : (s.fm == u.fm) = false := by rw [beq_eq_false_iff_ne]; exact hx
  have e1 : (s.fm != u.fm) = true := by simp [hx]
  obtain rfl : false = r := by rw [← hr.out]; exact (decide_eq_false (fun e => hx (sp_eq.1 e).1.2.1)).symm
  clear hx
  go_enter Tryz.func13, Tryz.ntmps13
  go_upto_region 1 with fail
  rw [HW0.out]
  refine plan.line ?_
  refine plan.line_same 0 _ (.pointer (some ⟨w.heap.size, 0, none⟩)) rfl ?_
  refine plan.line_same 1 _ (.int .i64 s.op) rfl (hv := (exec_cell_int (ad := ⟨w.heap.size, 0, none⟩) rfl (by kernel_rfl) (HZ0s.out.cell 0) Tryz.isAgg3)) ?_
  refine plan.line_same 2 _ (.pointer (some ⟨w.heap.size + 1, 0, none⟩)) rfl ?_
  refine plan.line_same 3 _ (.int .i64 u.op) rfl (hv := (exec_cell_int (ad := ⟨w.heap.size + 1, 0, none⟩) rfl (by kernel_rfl) (HZ0u.out.cell 0) Tryz.isAgg3)) ?_
  refine plan.line_same 4 _ (.bool false) rfl (hv := (exec_neq_int (n := s.op) (m := u.op) rfl (hid e0))) ?_
  refine plan.line_same 5 _ (.bool false) rfl ?_
  refine plan.line_same 6 _ (.pointer (some ⟨w.heap.size, 1, none⟩)) rfl ?_
  refine plan.line_same 7 _ (.int .i64 s.fm) rfl (hv := (exec_cell_int (ad := ⟨w.heap.size, 1, none⟩) rfl (by kernel_rfl) (HZ0s.out.cell 1) Tryz.isAgg3)) ?_
  refine plan.line_same 8 _ (.pointer (some ⟨w.heap.size + 1, 1, none⟩)) rfl ?_
  refine plan.line_same 9 _ (.int .i64 u.fm) rfl (hv := (exec_cell_int (ad := ⟨w.heap.size + 1, 1, none⟩) rfl (by kernel_rfl) (HZ0u.out.cell 1) Tryz.isAgg3)) ?_
  refine plan.line_same 10 _ (.bool true) rfl (hv := (exec_neq_int (n := s.fm) (m := u.fm) rfl (hid e1))) ?_
  refine plan.line_same 11 _ (.bool true) rfl ?_
  refine plan.line_same 12 _ (.bool true) rfl ?_
  refine plan.line_skip 13 _ rfl ?_
  refine plan.line_skip 14 _ rfl ?_
  refine plan.line_skip 15 _ rfl ?_
  refine plan.line_skip 16 _ rfl ?_
  refine plan.line_skip 17 _ rfl ?_
  refine plan.line_same 18 _ (.bool true) rfl ?_
  refine plan.line_same 19 _ (.bool true) rfl ?_
  refine plan.line_skip 20 _ rfl ?_
  refine plan.line_skip 21 _ rfl ?_
  refine plan.line_skip 22 _ rfl ?_
  refine plan.line_skip 23 _ rfl ?_
  refine plan.line_skip 24 _ rfl ?_
  refine plan.line_same 25 _ (.bool true) rfl ?_
  refine plan.line_same 26 _ (.bool true) rfl ?_
  refine plan.line_skip 27 _ rfl ?_
  refine plan.line_skip 28 _ rfl ?_
  refine plan.line_skip 29 _ rfl ?_
  refine plan.line_skip 30 _ rfl ?_
  refine plan.line_skip 31 _ rfl ?_
  refine plan.line_same 32 _ (.bool true) rfl ?_
  refine plan.line_same 33 _ (.bool true) rfl ?_
  refine plan.line_skip 34 _ rfl ?_
  refine plan.line_skip 35 _ rfl ?_
  refine plan.line_skip 36 _ rfl ?_
  refine plan.line_skip 37 _ rfl ?_
  refine plan.line_skip 38 _ rfl ?_
  refine plan.line_same 39 _ (.bool true) rfl ?_
  refine plan.line_same 40 _ (.bool true) rfl ?_
  refine plan.line_skip 41 _ rfl ?_
  refine plan.line_skip 42 _ rfl ?_
  refine plan.line_skip 43 _ rfl ?_
  refine plan.line_skip 44 _ rfl ?_
  refine plan.line_skip 45 _ rfl ?_
  refine plan.line_same 46 _ (.bool true) rfl ?_
  refine plan.line_same 47 _ (.bool true) rfl ?_
  refine plan.line_skip 48 _ rfl ?_
  refine plan.line_skip 49 _ rfl ?_
  refine plan.line_skip 50 _ rfl ?_
  refine plan.line_skip 51 _ rfl ?_
  refine plan.line_skip 52 _ rfl ?_
  refine plan.line_same 53 _ (.bool true) rfl ?_
  refine plan.line_same 54 _ (.bool true) rfl ?_
  refine plan.line_skip 55 _ rfl ?_
  refine plan.line_skip 56 _ rfl ?_
  refine plan.line_skip 57 _ rfl ?_
  refine plan.line_skip 58 _ rfl ?_
  refine plan.line_skip 59 _ rfl ?_
  refine plan.line_same 60 _ (.bool true) rfl ?_
  refine plan.line_same 61 _ (.bool true) rfl ?_
  refine plan.line_skip 62 _ rfl ?_
  refine plan.line_skip 63 _ rfl ?_
  refine plan.line_skip 64 _ rfl ?_
  refine plan.line_skip 65 _ rfl ?_
  refine plan.line_skip 66 _ rfl ?_
  refine plan.line_skip 67 _ rfl ?_
  refine plan.line_skip 68 _ rfl ?_
  refine plan.line_same 69 _ (.bool true) rfl ?_
  refine plan.line_same 70 _ (.bool true) rfl ?_
  refine plan.line_skip 71 _ rfl ?_
  refine plan.line_skip 72 _ rfl ?_
  refine plan.line_skip 73 _ rfl ?_
  refine plan.line_skip 74 _ rfl ?_
  refine plan.line_skip 75 _ rfl ?_
  refine plan.line_skip 76 _ rfl ?_
  refine plan.line_skip 77 _ rfl ?_
  refine plan.line_same 78 _ (.bool true) rfl ?_
  refine plan.line_done (by decide) ?_
  walk_nrm
  go_wp2
  go_ret
  exact ⟨rfl, HB0.out⟩
 have d1 : (s.fm == u.fm) = true := by rw [beq_iff_eq]; exact hx
 have e1 : (s.fm != u.fm) = false := by simp [hx]
 have H1 := hid hx
 clear hx
 by_cases hx : s.fd = u.fd
 rotate_left
 ·have d2 : (s.fd == u.fd) = false := by rw [beq_eq_false_iff_ne]; exact hx
  have e2 : (s.fd != u.fd) = true := by simp [hx]
  obtain rfl : false = r := by rw [← hr.out]; exact (decide_eq_false (fun e => hx (sp_eq.1 e).1.2.2.1)).symm
  clear hx
  go_enter Tryz.func13, Tryz.ntmps13
  go_upto_region 1 with fail
  rw [HW0.out]
  refine plan.line ?_
  refine plan.line_same 0 _ (.pointer (some ⟨w.heap.size, 0, none⟩)) rfl ?_
  refine plan.line_same 1 _ (.int .i64 s.op) rfl (hv := (exec_cell_int (ad := ⟨w.heap.size, 0, none⟩) rfl (by kernel_rfl) (HZ0s.out.cell 0) Tryz.isAgg3)) ?_
  refine plan.line_same 2 _ (.pointer (some ⟨w.heap.size + 1, 0, none⟩)) rfl ?_
  refine plan.line_same 3 _ (.int .i64 u.op) rfl (hv := (exec_cell_int (ad := ⟨w.heap.size + 1, 0, none⟩) rfl (by kernel_rfl) (HZ0u.out.cell 0) Tryz.isAgg3)) ?_
  refine plan.line_same 4 _ (.bool false) rfl (hv := (exec_neq_int (n := s.op) (m := u.op) rfl (hid e0))) ?_
  refine plan.line_same 5 _ (.bool false) rfl ?_
  refine plan.line_same 6 _ (.pointer (some ⟨w.heap.size, 1, none⟩)) rfl ?_
  refine plan.line_same 7 _ (.int .i64 s.fm) rfl (hv := (exec_cell_int (ad := ⟨w.heap.size, 1, none⟩) rfl (by kernel_rfl) (HZ0s.out.cell 1) Tryz.isAgg3)) ?_
  refine plan.line_same 8 _ (.pointer (some ⟨w.heap.size + 1, 1, none⟩)) rfl ?_
  refine plan.line_same 9 _ (.int .i64 u.fm) rfl (hv := (exec_cell_int (ad := ⟨w.heap.size + 1, 1, none⟩) rfl (by kernel_rfl) (HZ0u.out.cell 1) Tryz.isAgg3)) ?_
  refine plan.line_same 10 _ (.bool false) rfl (hv := (exec_neq_int (n := s.fm) (m := u.fm) rfl (hid e1))) ?_
  refine plan.line_same 11 _ (.bool false) rfl ?_
  refine plan.line_same 12 _ (.bool false) rfl ?_
  refine plan.line_same 13 _ (.pointer (some ⟨w.heap.size, 2, none⟩)) rfl ?_
  refine plan.line_same 14 _ (.int .i64 s.fd) rfl (hv := (exec_cell_int (ad := ⟨w.heap.size, 2, none⟩) rfl (by kernel_rfl) (HZ0s.out.cell 2) Tryz.isAgg3)) ?_
  refine plan.line_same 15 _ (.pointer (some ⟨w.heap.size + 1, 2, none⟩)) rfl ?_
  refine plan.line_same 16 _ (.int .i64 u.fd) rfl (hv := (exec_cell_int (ad := ⟨w.heap.size + 1, 2, none⟩) rfl (by kernel_rfl) (HZ0u.out.cell 2) Tryz.isAgg3)) ?_
  refine plan.line_same 17 _ (.bool true) rfl (hv := (exec_neq_int (n := s.fd) (m := u.fd) rfl (hid e2))) ?_
  refine plan.line_same 18 _ (.bool true) rfl ?_
  refine plan.line_same 19 _ (.bool true) rfl ?_
  refine plan.line_skip 20 _ rfl ?_
  refine plan.line_skip 21 _ rfl ?_
  refine plan.line_skip 22 _ rfl ?_
  refine plan.line_skip 23 _ rfl ?_
  refine plan.line_skip 24 _ rfl ?_
  refine plan.line_same 25 _ (.bool true) rfl ?_
  refine plan.line_same 26 _ (.bool true) rfl ?_
  refine plan.line_skip 27 _ rfl ?_
  refine plan.line_skip 28 _ rfl ?_
  refine plan.line_skip 29 _ rfl ?_
  refine plan.line_skip 30 _ rfl ?_
  refine plan.line_skip 31 _ rfl ?_
  refine plan.line_same 32 _ (.bool true) rfl ?_
  refine plan.line_same 33 _ (.bool true) rfl ?_
  refine plan.line_skip 34 _ rfl ?_
  refine plan.line_skip 35 _ rfl ?_
  refine plan.line_skip 36 _ rfl ?_
  refine plan.line_skip 37 _ rfl ?_
  refine plan.line_skip 38 _ rfl ?_
  refine plan.line_same 39 _ (.bool true) rfl ?_
  refine plan.line_same 40 _ (.bool true) rfl ?_
  refine plan.line_skip 41 _ rfl ?_
  refine plan.line_skip 42 _ rfl ?_
  refine plan.line_skip 43 _ rfl ?_
  refine plan.line_skip 44 _ rfl ?_
  refine plan.line_skip 45 _ rfl ?_
  refine plan.line_same 46 _ (.bool true) rfl ?_
  refine plan.line_same 47 _ (.bool true) rfl ?_
  refine plan.line_skip 48 _ rfl ?_
  refine plan.line_skip 49 _ rfl ?_
  refine plan.line_skip 50 _ rfl ?_
  refine plan.line_skip 51 _ rfl ?_
  refine plan.line_skip 52 _ rfl ?_
  refine plan.line_same 53 _ (.bool true) rfl ?_
  refine plan.line_same 54 _ (.bool true) rfl ?_
  refine plan.line_skip 55 _ rfl ?_
  refine plan.line_skip 56 _ rfl ?_
  refine plan.line_skip 57 _ rfl ?_
  refine plan.line_skip 58 _ rfl ?_
  refine plan.line_skip 59 _ rfl ?_
  refine plan.line_same 60 _ (.bool true) rfl ?_
  refine plan.line_same 61 _ (.bool true) rfl ?_
  refine plan.line_skip 62 _ rfl ?_
  refine plan.line_skip 63 _ rfl ?_
  refine plan.line_skip 64 _ rfl ?_
  refine plan.line_skip 65 _ rfl ?_
  refine plan.line_skip 66 _ rfl ?_
  refine plan.line_skip 67 _ rfl ?_
  refine plan.line_skip 68 _ rfl ?_
  refine plan.line_same 69 _ (.bool true) rfl ?_
  refine plan.line_same 70 _ (.bool true) rfl ?_
  refine plan.line_skip 71 _ rfl ?_
  refine plan.line_skip 72 _ rfl ?_
  refine plan.line_skip 73 _ rfl ?_
  refine plan.line_skip 74 _ rfl ?_
  refine plan.line_skip 75 _ rfl ?_
  refine plan.line_skip 76 _ rfl ?_
  refine plan.line_skip 77 _ rfl ?_
  refine plan.line_same 78 _ (.bool true) rfl ?_
  refine plan.line_done (by decide) ?_
  walk_nrm
  go_wp2
  go_ret
  exact ⟨rfl, HB0.out⟩
 have d2 : (s.fd == u.fd) = true := by rw [beq_iff_eq]; exact hx
 have e2 : (s.fd != u.fd) = false := by simp [hx]
 have H2 := hid hx
 clear hx
 by_cases hx : s.pl = u.pl
 rotate_left
 ·have d3 : (s.pl == u.pl) = false := by rw [beq_eq_false_iff_ne]; exact hx
  have e3 : (s.pl != u.pl) = true := by simp [hx]
  obtain rfl : false = r := by rw [← hr.out]; exact (decide_eq_false (fun e => hx (sp_eq.1 e).1.2.2.2.1)).symm
  clear hx
  go_enter Tryz.func13, Tryz.ntmps13
  go_upto_region 1 with fail
  rw [HW0.out]
  refine plan.line ?_
  refine plan.line_same 0 _ (.pointer (some ⟨w.heap.size, 0, none⟩)) rfl ?_
  refine plan.line_same 1 _ (.int .i64 s.op) rfl (hv := (exec_cell_int (ad := ⟨w.heap.size, 0, none⟩) rfl (by kernel_rfl) (HZ0s.out.cell 0) Tryz.isAgg3)) ?_
  refine plan.line_same 2 _ (.pointer (some ⟨w.heap.size + 1, 0, none⟩)) rfl ?_
  refine plan.line_same 3 _ (.int .i64 u.op) rfl (hv := (exec_cell_int (ad := ⟨w.heap.size + 1, 0, none⟩) rfl (by kernel_rfl) (HZ0u.out.cell 0) Tryz.isAgg3)) ?_
  refine plan.line_same 4 _ (.bool false) rfl (hv := (exec_neq_int (n := s.op) (m := u.op) rfl (hid e0))) ?_
  refine plan.line_same 5 _ (.bool false) rfl ?_
  refine plan.line_same 6 _ (.pointer (some ⟨w.heap.size, 1, none⟩)) rfl ?_
  refine plan.line_same 7 _ (.int .i64 s.fm) rfl (hv := (exec_cell_int (ad := ⟨w.heap.size, 1, none⟩) rfl (by kernel_rfl) (HZ0s.out.cell 1) Tryz.isAgg3)) ?_
  refine plan.line_same 8 _ (.pointer (some ⟨w.heap.size + 1, 1, none⟩)) rfl ?_
  refine plan.line_same 9 _ (.int .i64 u.fm) rfl (hv := (exec_cell_int (ad := ⟨w.heap.size + 1, 1, none⟩) rfl (by kernel_rfl) (HZ0u.out.cell 1) Tryz.isAgg3)) ?_
  refine plan.line_same 10 _ (.bool false) rfl (hv := (exec_neq_int (n := s.fm) (m := u.fm) rfl (hid e1))) ?_
  refine plan.line_same 11 _ (.bool false) rfl ?_
  refine plan.line_same 12 _ (.bool false) rfl ?_
  refine plan.line_same 13 _ (.pointer (some ⟨w.heap.size, 2, none⟩)) rfl ?_
  refine plan.line_same 14 _ (.int .i64 s.fd) rfl (hv := (exec_cell_int (ad := ⟨w.heap.size, 2, none⟩) rfl (by kernel_rfl) (HZ0s.out.cell 2) Tryz.isAgg3)) ?_
  refine plan.line_same 15 _ (.pointer (some ⟨w.heap.size + 1, 2, none⟩)) rfl ?_
  refine plan.line_same 16 _ (.int .i64 u.fd) rfl (hv := (exec_cell_int (ad := ⟨w.heap.size + 1, 2, none⟩) rfl (by kernel_rfl) (HZ0u.out.cell 2) Tryz.isAgg3)) ?_
  refine plan.line_same 17 _ (.bool false) rfl (hv := (exec_neq_int (n := s.fd) (m := u.fd) rfl (hid e2))) ?_
  refine plan.line_same 18 _ (.bool false) rfl ?_
  refine plan.line_same 19 _ (.bool false) rfl ?_
  refine plan.line_same 20 _ (.pointer (some ⟨w.heap.size, 3, none⟩)) rfl ?_
  refine plan.line_same 21 _ (.int .i64 s.pl) rfl (hv := (exec_cell_int (ad := ⟨w.heap.size, 3, none⟩) rfl (by kernel_rfl) (HZ0s.out.cell 3) Tryz.isAgg3)) ?_
  refine plan.line_same 22 _ (.pointer (some ⟨w.heap.size + 1, 3, none⟩)) rfl ?_
  refine plan.line_same 23 _ (.int .i64 u.pl) rfl (hv := (exec_cell_int (ad := ⟨w.heap.size + 1, 3, none⟩) rfl (by kernel_rfl) (HZ0u.out.cell 3) Tryz.isAgg3)) ?_
  refine plan.line_same 24 _ (.bool true) rfl (hv := (exec_neq_int (n := s.pl) (m := u.pl) rfl (hid e3))) ?_
  refine plan.line_same 25 _ (.bool true) rfl ?_
  refine plan.line_same 26 _ (.bool true) rfl ?_
  refine plan.line_skip 27 _ rfl ?_
  refine plan.line_skip 28 _ rfl ?_
  refine plan.line_skip 29 _ rfl ?_
  refine plan.line_skip 30 _ rfl ?_
  refine plan.line_skip 31 _ rfl ?_
  refine plan.line_same 32 _ (.bool true) rfl ?_
  refine plan.line_same 33 _ (.bool true) rfl ?_
  refine plan.line_skip 34 _ rfl ?_
  refine plan.line_skip 35 _ rfl ?_
  refine plan.line_skip 36 _ rfl ?_
  refine plan.line_skip 37 _ rfl ?_
  refine plan.line_skip 38 _ rfl ?_
  refine plan.line_same 39 _ (.bool true) rfl ?_
  refine plan.line_same 40 _ (.bool true) rfl ?_
  refine plan.line_skip 41 _ rfl ?_
  refine plan.line_skip 42 _ rfl ?_
  refine plan.line_skip 43 _ rfl ?_
  refine plan.line_skip 44 _ rfl ?_
  refine plan.line_skip 45 _ rfl ?_
  refine plan.line_same 46 _ (.bool true) rfl ?_
  refine plan.line_same 47 _ (.bool true) rfl ?_
  refine plan.line_skip 48 _ rfl ?_
  refine plan.line_skip 49 _ rfl ?_
  refine plan.line_skip 50 _ rfl ?_
  refine plan.line_skip 51 _ rfl ?_
  refine plan.line_skip 52 _ rfl ?_
  refine plan.line_same 53 _ (.bool true) rfl ?_
  refine plan.line_same 54 _ (.bool true) rfl ?_
  refine plan.line_skip 55 _ rfl ?_
  refine plan.line_skip 56 _ rfl ?_
  refine plan.line_skip 57 _ rfl ?_
  refine plan.line_skip 58 _ rfl ?_
  refine plan.line_skip 59 _ rfl ?_
  refine plan.line_same 60 _ (.bool true) rfl ?_
  refine plan.line_same 61 _ (.bool true) rfl ?_
  refine plan.line_skip 62 _ rfl ?_
  refine plan.line_skip 63 _ rfl ?_
  refine plan.line_skip 64 _ rfl ?_
  refine plan.line_skip 65 _ rfl ?_
  refine plan.line_skip 66 _ rfl ?_
  refine plan.line_skip 67 _ rfl ?_
  refine plan.line_skip 68 _ rfl ?_
  refine plan.line_same 69 _ (.bool true) rfl ?_
  refine plan.line_same 70 _ (.bool true) rfl ?_
  refine plan.line_skip 71 _ rfl ?_
  refine plan.line_skip 72 _ rfl ?_
  refine plan.line_skip 73 _ rfl ?_
  refine plan.line_skip 74 _ rfl ?_
  refine plan.line_skip 75 _ rfl ?_
  refine plan.line_skip 76 _ rfl ?_
  refine plan.line_skip 77 _ rfl ?_
  refine plan.line_same 78 _ (.bool true) rfl ?_
  refine plan.line_done (by decide) ?_
  walk_nrm
  go_wp2
  go_ret
  exact ⟨rfl, HB0.out⟩
 have d3 : (s.pl == u.pl) = true := by rw [beq_iff_eq]; exact hx
 have e3 : (s.pl != u.pl) = false := by simp [hx]
 have H3 := hid hx
 clear hx
 by_cases hx : s.tt = u.tt
 rotate_left
 ·have d4 : (s.tt == u.tt) = false := by rw [beq_eq_false_iff_ne]; exact hx
  have e4 : (s.tt != u.tt) = true := by simp [hx]
  obtain rfl : false = r := by rw [← hr.out]; exact (decide_eq_false (fun e => hx (sp_eq.1 e).1.2.2.2.2.1)).symm
  clear hx
  go_enter Tryz.func13, Tryz.ntmps13
  go_upto_region 1 with fail
  rw [HW0.out]
  refine plan.line ?_
  refine plan.line_same 0 _ (.pointer (some ⟨w.heap.size, 0, none⟩)) rfl ?_
  refine plan.line_same 1 _ (.int .i64 s.op) rfl (hv := (exec_cell_int (ad := ⟨w.heap.size, 0, none⟩) rfl (by kernel_rfl) (HZ0s.out.cell 0) Tryz.isAgg3)) ?_
  refine plan.line_same 2 _ (.pointer (some ⟨w.heap.size + 1, 0, none⟩)) rfl ?_
  refine plan.line_same 3 _ (.int .i64 u.op) rfl (hv := (exec_cell_int (ad := ⟨w.heap.size + 1, 0, none⟩) rfl (by kernel_rfl) (HZ0u.out.cell 0) Tryz.isAgg3)) ?_
  refine plan.line_same 4 _ (.bool false) rfl (hv := (exec_neq_int (n := s.op) (m := u.op) rfl (hid e0))) ?_
  refine plan.line_same 5 _ (.bool false) rfl ?_
  refine plan.line_same 6 _ (.pointer (some ⟨w.heap.size, 1, none⟩)) rfl ?_
  refine plan.line_same 7 _ (.int .i64 s.fm) rfl (hv := (exec_cell_int (ad := ⟨w.heap.size, 1, none⟩) rfl (by kernel_rfl) (HZ0s.out.cell 1) Tryz.isAgg3)) ?_
  refine plan.line_same 8 _ (.pointer (some ⟨w.heap.size + 1, 1, none⟩)) rfl ?_
  refine plan.line_same 9 _ (.int .i64 u.fm) rfl (hv := (exec_cell_int (ad := ⟨w.heap.size + 1, 1, none⟩) rfl (by kernel_rfl) (HZ0u.out.cell 1) Tryz.isAgg3)) ?_
  refine plan.line_same 10 _ (.bool false) rfl (hv := (exec_neq_int (n := s.fm) (m := u.fm) rfl (hid e1))) ?_
  refine plan.line_same 11 _ (.bool false) rfl ?_
  refine plan.line_same 12 _ (.bool false) rfl ?_
  refine plan.line_same 13 _ (.pointer (some ⟨w.heap.size, 2, none⟩)) rfl ?_
  refine plan.line_same 14 _ (.int .i64 s.fd) rfl (hv := (exec_cell_int (ad := ⟨w.heap.size, 2, none⟩) rfl (by kernel_rfl) (HZ0s.out.cell 2) Tryz.isAgg3)) ?_
  refine plan.line_same 15 _ (.pointer (some ⟨w.heap.size + 1, 2, none⟩)) rfl ?_
  refine plan.line_same 16 _ (.int .i64 u.fd) rfl (hv := (exec_cell_int (ad := ⟨w.heap.size + 1, 2, none⟩) rfl (by kernel_rfl) (HZ0u.out.cell 2) Tryz.isAgg3)) ?_
  refine plan.line_same 17 _ (.bool false) rfl (hv := (exec_neq_int (n := s.fd) (m := u.fd) rfl (hid e2))) ?_
  refine plan.line_same 18 _ (.bool false) rfl ?_
  refine plan.line_same 19 _ (.bool false) rfl ?_
  refine plan.line_same 20 _ (.pointer (some ⟨w.heap.size, 3, none⟩)) rfl ?_
  refine plan.line_same 21 _ (.int .i64 s.pl) rfl (hv := (exec_cell_int (ad := ⟨w.heap.size, 3, none⟩) rfl (by kernel_rfl) (HZ0s.out.cell 3) Tryz.isAgg3)) ?_
  refine plan.line_same 22 _ (.pointer (some ⟨w.heap.size + 1, 3, none⟩)) rfl ?_
  refine plan.line_same 23 _ (.int .i64 u.pl) rfl (hv := (exec_cell_int (ad := ⟨w.heap.size + 1, 3, none⟩) rfl (by kernel_rfl) (HZ0u.out.cell 3) Tryz.isAgg3)) ?_
  refine plan.line_same 24 _ (.bool false) rfl (hv := (exec_neq_int (n := s.pl) (m := u.pl) rfl (hid e3))) ?_
  refine plan.line_same 25 _ (.bool false) rfl ?_
  refine plan.line_same 26 _ (.bool false) rfl ?_
  refine plan.line_same 27 _ (.pointer (some ⟨w.heap.size, 4, none⟩)) rfl ?_
  refine plan.line_same 28 _ (.int .i64 s.tt) rfl (hv := (exec_cell_int (ad := ⟨w.heap.size, 4, none⟩) rfl (by kernel_rfl) (HZ0s.out.cell 4) Tryz.isAgg3)) ?_
  refine plan.line_same 29 _ (.pointer (some ⟨w.heap.size + 1, 4, none⟩)) rfl ?_
  refine plan.line_same 30 _ (.int .i64 u.tt) rfl (hv := (exec_cell_int (ad := ⟨w.heap.size + 1, 4, none⟩) rfl (by kernel_rfl) (HZ0u.out.cell 4) Tryz.isAgg3)) ?_
  refine plan.line_same 31 _ (.bool true) rfl (hv := (exec_neq_int (n := s.tt) (m := u.tt) rfl (hid e4))) ?_
  refine plan.line_same 32 _ (.bool true) rfl ?_
  refine plan.line_same 33 _ (.bool true) rfl ?_
  refine plan.line_skip 34 _ rfl ?_
  refine plan.line_skip 35 _ rfl ?_
  refine plan.line_skip 36 _ rfl ?_
  refine plan.line_skip 37 _ rfl ?_
  refine plan.line_skip 38 _ rfl ?_
  refine plan.line_same 39 _ (.bool true) rfl ?_
  refine plan.line_same 40 _ (.bool true) rfl ?_
  refine plan.line_skip 41 _ rfl ?_
  refine plan.line_skip 42 _ rfl ?_
  refine plan.line_skip 43 _ rfl ?_
  refine plan.line_skip 44 _ rfl ?_
  refine plan.line_skip 45 _ rfl ?_
  refine plan.line_same 46 _ (.bool true) rfl ?_
  refine plan.line_same 47 _ (.bool true) rfl ?_
  refine plan.line_skip 48 _ rfl ?_
  refine plan.line_skip 49 _ rfl ?_
  refine plan.line_skip 50 _ rfl ?_
  refine plan.line_skip 51 _ rfl ?_
  refine plan.line_skip 52 _ rfl ?_
  refine plan.line_same 53 _ (.bool true) rfl ?_
  refine plan.line_same 54 _ (.bool true) rfl ?_
  refine plan.line_skip 55 _ rfl ?_
  refine plan.line_skip 56 _ rfl ?_
  refine plan.line_skip 57 _ rfl ?_
  refine plan.line_skip 58 _ rfl ?_
  refine plan.line_skip 59 _ rfl ?_
  refine plan.line_same 60 _ (.bool true) rfl ?_
  refine plan.line_same 61 _ (.bool true) rfl ?_
  refine plan.line_skip 62 _ rfl ?_
  refine plan.line_skip 63 _ rfl ?_
  refine plan.line_skip 64 _ rfl ?_
  refine plan.line_skip 65 _ rfl ?_
  refine plan.line_skip 66 _ rfl ?_
  refine plan.line_skip 67 _ rfl ?_
  refine plan.line_skip 68 _ rfl ?_
  refine plan.line_same 69 _ (.bool true) rfl ?_
  refine plan.line_same 70 _ (.bool true) rfl ?_
  refine plan.line_skip 71 _ rfl ?_
  refine plan.line_skip 72 _ rfl ?_
  refine plan.line_skip 73 _ rfl ?_
  refine plan.line_skip 74 _ rfl ?_
  refine plan.line_skip 75 _ rfl ?_
  refine plan.line_skip 76 _ rfl ?_
  refine plan.line_skip 77 _ rfl ?_
  refine plan.line_same 78 _ (.bool true) rfl ?_
  refine plan.line_done (by decide) ?_
  walk_nrm
  go_wp2
  go_ret
  exact ⟨rfl, HB0.out⟩
 have d4 : (s.tt == u.tt) = true := by rw [beq_iff_eq]; exact hx
 have e4 : (s.tt != u.tt) = false := by simp [hx]
 have H4 := hid hx
 clear hx
 by_cases hx : s.a = u.a
 rotate_left
 ·have d5 : (s.a == u.a) = false := by rw [beq_eq_false_iff_ne]; exact hx
  have e5 : (s.a != u.a) = true := by simp [hx]
  obtain rfl : false = r := by rw [← hr.out]; exact (decide_eq_false (fun e => hx (sp_eq.1 e).1.2.2.2.2.2.1)).symm
  clear hx
  go_enter Tryz.func13, Tryz.ntmps13
  go_upto_region 1 with fail
  rw [HW0.out]
  refine plan.line ?_
  refine plan.line_same 0 _ (.pointer (some ⟨w.heap.size, 0, none⟩)) rfl ?_
  refine plan.line_same 1 _ (.int .i64 s.op) rfl (hv := (exec_cell_int (ad := ⟨w.heap.size, 0, none⟩) rfl (by kernel_rfl) (HZ0s.out.cell 0) Tryz.isAgg3)) ?_
  refine plan.line_same 2 _ (.pointer (some ⟨w.heap.size + 1, 0, none⟩)) rfl ?_
  refine plan.line_same 3 _ (.int .i64 u.op) rfl (hv := (exec_cell_int (ad := ⟨w.heap.size + 1, 0, none⟩) rfl (by kernel_rfl) (HZ0u.out.cell 0) Tryz.isAgg3)) ?_
  refine plan.line_same 4 _ (.bool false) rfl (hv := (exec_neq_int (n := s.op) (m := u.op) rfl (hid e0))) ?_
  refine plan.line_same 5 _ (.bool false) rfl ?_
  refine plan.line_same 6 _ (.pointer (some ⟨w.heap.size, 1, none⟩)) rfl ?_
  refine plan.line_same 7 _ (.int .i64 s.fm) rfl (hv := (exec_cell_int (ad := ⟨w.heap.size, 1, none⟩) rfl (by kernel_rfl) (HZ0s.out.cell 1) Tryz.isAgg3)) ?_
  refine plan.line_same 8 _ (.pointer (some ⟨w.heap.size + 1, 1, none⟩)) rfl ?_
  refine plan.line_same 9 _ (.int .i64 u.fm) rfl (hv := (exec_cell_int (ad := ⟨w.heap.size + 1, 1, none⟩) rfl (by kernel_rfl) (HZ0u.out.cell 1) Tryz.isAgg3)) ?_
  refine plan.line_same 10 _ (.bool false) rfl (hv := (exec_neq_int (n := s.fm) (m := u.fm) rfl (hid e1))) ?_
  refine plan.line_same 11 _ (.bool false) rfl ?_
  refine plan.line_same 12 _ (.bool false) rfl ?_
  refine plan.line_same 13 _ (.pointer (some ⟨w.heap.size, 2, none⟩)) rfl ?_
  refine plan.line_same 14 _ (.int .i64 s.fd) rfl (hv := (exec_cell_int (ad := ⟨w.heap.size, 2, none⟩) rfl (by kernel_rfl) (HZ0s.out.cell 2) Tryz.isAgg3)) ?_
  refine plan.line_same 15 _ (.pointer (some ⟨w.heap.size + 1, 2, none⟩)) rfl ?_
  refine plan.line_same 16 _ (.int .i64 u.fd) rfl (hv := (exec_cell_int (ad := ⟨w.heap.size + 1, 2, none⟩) rfl (by kernel_rfl) (HZ0u.out.cell 2) Tryz.isAgg3)) ?_
  refine plan.line_same 17 _ (.bool false) rfl (hv := (exec_neq_int (n := s.fd) (m := u.fd) rfl (hid e2))) ?_
  refine plan.line_same 18 _ (.bool false) rfl ?_
  refine plan.line_same 19 _ (.bool false) rfl ?_
  refine plan.line_same 20 _ (.pointer (some ⟨w.heap.size, 3, none⟩)) rfl ?_
  refine plan.line_same 21 _ (.int .i64 s.pl) rfl (hv := (exec_cell_int (ad := ⟨w.heap.size, 3, none⟩) rfl (by kernel_rfl) (HZ0s.out.cell 3) Tryz.isAgg3)) ?_
  refine plan.line_same 22 _ (.pointer (some ⟨w.heap.size + 1, 3, none⟩)) rfl ?_
  refine plan.line_same 23 _ (.int .i64 u.pl) rfl (hv := (exec_cell_int (ad := ⟨w.heap.size + 1, 3, none⟩) rfl (by kernel_rfl) (HZ0u.out.cell 3) Tryz.isAgg3)) ?_
  refine plan.line_same 24 _ (.bool false) rfl (hv := (exec_neq_int (n := s.pl) (m := u.pl) rfl (hid e3))) ?_
  refine plan.line_same 25 _ (.bool false) rfl ?_
  refine plan.line_same 26 _ (.bool false) rfl ?_
  refine plan.line_same 27 _ (.pointer (some ⟨w.heap.size, 4, none⟩)) rfl ?_
  refine plan.line_same 28 _ (.int .i64 s.tt) rfl (hv := (exec_cell_int (ad := ⟨w.heap.size, 4, none⟩) rfl (by kernel_rfl) (HZ0s.out.cell 4) Tryz.isAgg3)) ?_
  refine plan.line_same 29 _ (.pointer (some ⟨w.heap.size + 1, 4, none⟩)) rfl ?_
  refine plan.line_same 30 _ (.int .i64 u.tt) rfl (hv := (exec_cell_int (ad := ⟨w.heap.size + 1, 4, none⟩) rfl (by kernel_rfl) (HZ0u.out.cell 4) Tryz.isAgg3)) ?_
  refine plan.line_same 31 _ (.bool false) rfl (hv := (exec_neq_int (n := s.tt) (m := u.tt) rfl (hid e4))) ?_
  refine plan.line_same 32 _ (.bool false) rfl ?_
  refine plan.line_same 33 _ (.bool false) rfl ?_
  refine plan.line_same 34 _ (.pointer (some ⟨w.heap.size, 5, none⟩)) rfl ?_
  refine plan.line_same 35 _ (.int .i64 s.a) rfl (hv := (exec_cell_int (ad := ⟨w.heap.size, 5, none⟩) rfl (by kernel_rfl) (HZ0s.out.cell 5) Tryz.isAgg3)) ?_
  refine plan.line_same 36 _ (.pointer (some ⟨w.heap.size + 1, 5, none⟩)) rfl ?_
  refine plan.line_same 37 _ (.int .i64 u.a) rfl (hv := (exec_cell_int (ad := ⟨w.heap.size + 1, 5, none⟩) rfl (by kernel_rfl) (HZ0u.out.cell 5) Tryz.isAgg3)) ?_
  refine plan.line_same 38 _ (.bool true) rfl (hv := (exec_neq_int (n := s.a) (m := u.a) rfl (hid e5))) ?_
  refine plan.line_same 39 _ (.bool true) rfl ?_
  refine plan.line_same 40 _ (.bool true) rfl ?_
  refine plan.line_skip 41 _ rfl ?_
  refine plan.line_skip 42 _ rfl ?_
  refine plan.line_skip 43 _ rfl ?_
  refine plan.line_skip 44 _ rfl ?_
  refine plan.line_skip 45 _ rfl ?_
  refine plan.line_same 46 _ (.bool true) rfl ?_
  refine plan.line_same 47 _ (.bool true) rfl ?_
  refine plan.line_skip 48 _ rfl ?_
  refine plan.line_skip 49 _ rfl ?_
  refine plan.line_skip 50 _ rfl ?_
  refine plan.line_skip 51 _ rfl ?_
  refine plan.line_skip 52 _ rfl ?_
  refine plan.line_same 53 _ (.bool true) rfl ?_
  refine plan.line_same 54 _ (.bool true) rfl ?_
  refine plan.line_skip 55 _ rfl ?_
  refine plan.line_skip 56 _ rfl ?_
  refine plan.line_skip 57 _ rfl ?_
  refine plan.line_skip 58 _ rfl ?_
  refine plan.line_skip 59 _ rfl ?_
  refine plan.line_same 60 _ (.bool true) rfl ?_
  refine plan.line_same 61 _ (.bool true) rfl ?_
  refine plan.line_skip 62 _ rfl ?_
  refine plan.line_skip 63 _ rfl ?_
  refine plan.line_skip 64 _ rfl ?_
  refine plan.line_skip 65 _ rfl ?_
  refine plan.line_skip 66 _ rfl ?_
  refine plan.line_skip 67 _ rfl ?_
  refine plan.line_skip 68 _ rfl ?_
  refine plan.line_same 69 _ (.bool true) rfl ?_
  refine plan.line_same 70 _ (.bool true) rfl ?_
  refine plan.line_skip 71 _ rfl ?_
  refine plan.line_skip 72 _ rfl ?_
  refine plan.line_skip 73 _ rfl ?_
  refine plan.line_skip 74 _ rfl ?_
  refine plan.line_skip 75 _ rfl ?_
  refine plan.line_skip 76 _ rfl ?_
  refine plan.line_skip 77 _ rfl ?_
  refine plan.line_same 78 _ (.bool true) rfl ?_
  refine plan.line_done (by decide) ?_
  walk_nrm
  go_wp2
  go_ret
  exact ⟨rfl, HB0.out⟩
 have d5 : (s.a == u.a) = true := by rw [beq_iff_eq]; exact hx
 have e5 : (s.a != u.a) = false := by simp [hx]
 have H5 := hid hx
 clear hx
 by_cases hx : s.b = u.b
 rotate_left
 ·have d6 : (s.b == u.b) = false := by rw [beq_eq_false_iff_ne]; exact hx
  have e6 : (s.b != u.b) = true := by simp [hx]
  obtain rfl : false = r := by rw [← hr.out]; exact (decide_eq_false (fun e => hx (sp_eq.1 e).1.2.2.2.2.2.2)).symm
  clear hx
  go_enter Tryz.func13, Tryz.ntmps13
  go_upto_region 1 with fail
  rw [HW0.out]
  refine plan.line ?_
  refine plan.line_same 0 _ (.pointer (some ⟨w.heap.size, 0, none⟩)) rfl ?_
  refine plan.line_same 1 _ (.int .i64 s.op) rfl (hv := (exec_cell_int (ad := ⟨w.heap.size, 0, none⟩) rfl (by kernel_rfl) (HZ0s.out.cell 0) Tryz.isAgg3)) ?_
  refine plan.line_same 2 _ (.pointer (some ⟨w.heap.size + 1, 0, none⟩)) rfl ?_
  refine plan.line_same 3 _ (.int .i64 u.op) rfl (hv := (exec_cell_int (ad := ⟨w.heap.size + 1, 0, none⟩) rfl (by kernel_rfl) (HZ0u.out.cell 0) Tryz.isAgg3)) ?_
  refine plan.line_same 4 _ (.bool false) rfl (hv := (exec_neq_int (n := s.op) (m := u.op) rfl (hid e0))) ?_
  refine plan.line_same 5 _ (.bool false) rfl ?_
  refine plan.line_same 6 _ (.pointer (some ⟨w.heap.size, 1, none⟩)) rfl ?_
  refine plan.line_same 7 _ (.int .i64 s.fm) rfl (hv := (exec_cell_int (ad := ⟨w.heap.size, 1, none⟩) rfl (by kernel_rfl) (HZ0s.out.cell 1) Tryz.isAgg3)) ?_
  refine plan.line_same 8 _ (.pointer (some ⟨w.heap.size + 1, 1, none⟩)) rfl ?_
  refine plan.line_same 9 _ (.int .i64 u.fm) rfl (hv := (exec_cell_int (ad := ⟨w.heap.size + 1, 1, none⟩) rfl (by kernel_rfl) (HZ0u.out.cell 1) Tryz.isAgg3)) ?_
  refine plan.line_same 10 _ (.bool false) rfl (hv := (exec_neq_int (n := s.fm) (m := u.fm) rfl (hid e1))) ?_
  refine plan.line_same 11 _ (.bool false) rfl ?_
  refine plan.line_same 12 _ (.bool false) rfl ?_
  refine plan.line_same 13 _ (.pointer (some ⟨w.heap.size, 2, none⟩)) rfl ?_
  refine plan.line_same 14 _ (.int .i64 s.fd) rfl (hv := (exec_cell_int (ad := ⟨w.heap.size, 2, none⟩) rfl (by kernel_rfl) (HZ0s.out.cell 2) Tryz.isAgg3)) ?_
  refine plan.line_same 15 _ (.pointer (some ⟨w.heap.size + 1, 2, none⟩)) rfl ?_
  refine plan.line_same 16 _ (.int .i64 u.fd) rfl (hv := (exec_cell_int (ad := ⟨w.heap.size + 1, 2, none⟩) rfl (by kernel_rfl) (HZ0u.out.cell 2) Tryz.isAgg3)) ?_
  refine plan.line_same 17 _ (.bool false) rfl (hv := (exec_neq_int (n := s.fd) (m := u.fd) rfl (hid e2))) ?_
  refine plan.line_same 18 _ (.bool false) rfl ?_
  refine plan.line_same 19 _ (.bool false) rfl ?_
  refine plan.line_same 20 _ (.pointer (some ⟨w.heap.size, 3, none⟩)) rfl ?_
  refine plan.line_same 21 _ (.int .i64 s.pl) rfl (hv := (exec_cell_int (ad := ⟨w.heap.size, 3, none⟩) rfl (by kernel_rfl) (HZ0s.out.cell 3) Tryz.isAgg3)) ?_
  refine plan.line_same 22 _ (.pointer (some ⟨w.heap.size + 1, 3, none⟩)) rfl ?_
  refine plan.line_same 23 _ (.int .i64 u.pl) rfl (hv := (exec_cell_int (ad := ⟨w.heap.size + 1, 3, none⟩) rfl (by kernel_rfl) (HZ0u.out.cell 3) Tryz.isAgg3)) ?_
  refine plan.line_same 24 _ (.bool false) rfl (hv := (exec_neq_int (n := s.pl) (m := u.pl) rfl (hid e3))) ?_
  refine plan.line_same 25 _ (.bool false) rfl ?_
  refine plan.line_same 26 _ (.bool false) rfl ?_
  refine plan.line_same 27 _ (.pointer (some ⟨w.heap.size, 4, none⟩)) rfl ?_
  refine plan.line_same 28 _ (.int .i64 s.tt) rfl (hv := (exec_cell_int (ad := ⟨w.heap.size, 4, none⟩) rfl (by kernel_rfl) (HZ0s.out.cell 4) Tryz.isAgg3)) ?_
  refine plan.line_same 29 _ (.pointer (some ⟨w.heap.size + 1, 4, none⟩)) rfl ?_
  refine plan.line_same 30 _ (.int .i64 u.tt) rfl (hv := (exec_cell_int (ad := ⟨w.heap.size + 1, 4, none⟩) rfl (by kernel_rfl) (HZ0u.out.cell 4) Tryz.isAgg3)) ?_
  refine plan.line_same 31 _ (.bool false) rfl (hv := (exec_neq_int (n := s.tt) (m := u.tt) rfl (hid e4))) ?_
  refine plan.line_same 32 _ (.bool false) rfl ?_
  refine plan.line_same 33 _ (.bool false) rfl ?_
  refine plan.line_same 34 _ (.pointer (some ⟨w.heap.size, 5, none⟩)) rfl ?_
  refine plan.line_same 35 _ (.int .i64 s.a) rfl (hv := (exec_cell_int (ad := ⟨w.heap.size, 5, none⟩) rfl (by kernel_rfl) (HZ0s.out.cell 5) Tryz.isAgg3)) ?_
  refine plan.line_same 36 _ (.pointer (some ⟨w.heap.size + 1, 5, none⟩)) rfl ?_
  refine plan.line_same 37 _ (.int .i64 u.a) rfl (hv := (exec_cell_int (ad := ⟨w.heap.size + 1, 5, none⟩) rfl (by kernel_rfl) (HZ0u.out.cell 5) Tryz.isAgg3)) ?_
  refine plan.line_same 38 _ (.bool false) rfl (hv := (exec_neq_int (n := s.a) (m := u.a) rfl (hid e5))) ?_
  refine plan.line_same 39 _ (.bool false) rfl ?_
  refine plan.line_same 40 _ (.bool false) rfl ?_
  refine plan.line_same 41 _ (.pointer (some ⟨w.heap.size, 6, none⟩)) rfl ?_
  refine plan.line_same 42 _ (.int .i64 s.b) rfl (hv := (exec_cell_int (ad := ⟨w.heap.size, 6, none⟩) rfl (by kernel_rfl) (HZ0s.out.cell 6) Tryz.isAgg3)) ?_
  refine plan.line_same 43 _ (.pointer (some ⟨w.heap.size + 1, 6, none⟩)) rfl ?_
  refine plan.line_same 44 _ (.int .i64 u.b) rfl (hv := (exec_cell_int (ad := ⟨w.heap.size + 1, 6, none⟩) rfl (by kernel_rfl) (HZ0u.out.cell 6) Tryz.isAgg3)) ?_
  refine plan.line_same 45 _ (.bool true) rfl (hv := (exec_neq_int (n := s.b) (m := u.b) rfl (hid e6))) ?_
  refine plan.line_same 46 _ (.bool true) rfl ?_
  refine plan.line_same 47 _ (.bool true) rfl ?_
  refine plan.line_skip 48 _ rfl ?_
  refine plan.line_skip 49 _ rfl ?_
  refine plan.line_skip 50 _ rfl ?_
  refine plan.line_skip 51 _ rfl ?_
  refine plan.line_skip 52 _ rfl ?_
  refine plan.line_same 53 _ (.bool true) rfl ?_
  refine plan.line_same 54 _ (.bool true) rfl ?_
  refine plan.line_skip 55 _ rfl ?_
  refine plan.line_skip 56 _ rfl ?_
  refine plan.line_skip 57 _ rfl ?_
  refine plan.line_skip 58 _ rfl ?_
  refine plan.line_skip 59 _ rfl ?_
  refine plan.line_same 60 _ (.bool true) rfl ?_
  refine plan.line_same 61 _ (.bool true) rfl ?_
  refine plan.line_skip 62 _ rfl ?_
  refine plan.line_skip 63 _ rfl ?_
  refine plan.line_skip 64 _ rfl ?_
  refine plan.line_skip 65 _ rfl ?_
  refine plan.line_skip 66 _ rfl ?_
  refine plan.line_skip 67 _ rfl ?_
  refine plan.line_skip 68 _ rfl ?_
  refine plan.line_same 69 _ (.bool true) rfl ?_
  refine plan.line_same 70 _ (.bool true) rfl ?_
  refine plan.line_skip 71 _ rfl ?_
  refine plan.line_skip 72 _ rfl ?_
  refine plan.line_skip 73 _ rfl ?_
  refine plan.line_skip 74 _ rfl ?_
  refine plan.line_skip 75 _ rfl ?_
  refine plan.line_skip 76 _ rfl ?_
  refine plan.line_skip 77 _ rfl ?_
  refine plan.line_same 78 _ (.bool true) rfl ?_
  refine plan.line_done (by decide) ?_
  walk_nrm
  go_wp2
  go_ret
  exact ⟨rfl, HB0.out⟩
 have d6 : (s.b == u.b) = true := by rw [beq_iff_eq]; exact hx
 have e6 : (s.b != u.b) = false := by simp [hx]
 have H6 := hid hx
 clear hx
 have hnf := fun W => neq_fd s.f u.f W
 have hgf := fun (x y : Operand) (p q : Array Value) W => eqg_fd .neq x y p q W
 by_cases hx : s.f = u.f
 rotate_left
 ·rw [decide_eq_false hx] at hnf
  obtain rfl : false = r := by rw [← hr.out]; exact (decide_eq_false (fun e => hx (sp_eq.1 e).2.1)).symm
  clear hx
  go_enter Tryz.func13, Tryz.ntmps13
  go_upto_region 1 with fail
  rw [HW0.out]
  refine plan.line ?_
  refine plan.line_same 0 _ (.pointer (some ⟨w.heap.size, 0, none⟩)) rfl ?_
  refine plan.line_same 1 _ (.int .i64 s.op) rfl (hv := (exec_cell_int (ad := ⟨w.heap.size, 0, none⟩) rfl (by kernel_rfl) (HZ0s.out.cell 0) Tryz.isAgg3)) ?_
  refine plan.line_same 2 _ (.pointer (some ⟨w.heap.size + 1, 0, none⟩)) rfl ?_
  refine plan.line_same 3 _ (.int .i64 u.op) rfl (hv := (exec_cell_int (ad := ⟨w.heap.size + 1, 0, none⟩) rfl (by kernel_rfl) (HZ0u.out.cell 0) Tryz.isAgg3)) ?_
  refine plan.line_same 4 _ (.bool false) rfl (hv := (exec_neq_int (n := s.op) (m := u.op) rfl (hid e0))) ?_
  refine plan.line_same 5 _ (.bool false) rfl ?_
  refine plan.line_same 6 _ (.pointer (some ⟨w.heap.size, 1, none⟩)) rfl ?_
  refine plan.line_same 7 _ (.int .i64 s.fm) rfl (hv := (exec_cell_int (ad := ⟨w.heap.size, 1, none⟩) rfl (by kernel_rfl) (HZ0s.out.cell 1) Tryz.isAgg3)) ?_
  refine plan.line_same 8 _ (.pointer (some ⟨w.heap.size + 1, 1, none⟩)) rfl ?_
  refine plan.line_same 9 _ (.int .i64 u.fm) rfl (hv := (exec_cell_int (ad := ⟨w.heap.size + 1, 1, none⟩) rfl (by kernel_rfl) (HZ0u.out.cell 1) Tryz.isAgg3)) ?_
  refine plan.line_same 10 _ (.bool false) rfl (hv := (exec_neq_int (n := s.fm) (m := u.fm) rfl (hid e1))) ?_
  refine plan.line_same 11 _ (.bool false) rfl ?_
  refine plan.line_same 12 _ (.bool false) rfl ?_
  refine plan.line_same 13 _ (.pointer (some ⟨w.heap.size, 2, none⟩)) rfl ?_
  refine plan.line_same 14 _ (.int .i64 s.fd) rfl (hv := (exec_cell_int (ad := ⟨w.heap.size, 2, none⟩) rfl (by kernel_rfl) (HZ0s.out.cell 2) Tryz.isAgg3)) ?_
  refine plan.line_same 15 _ (.pointer (some ⟨w.heap.size + 1, 2, none⟩)) rfl ?_
  refine plan.line_same 16 _ (.int .i64 u.fd) rfl (hv := (exec_cell_int (ad := ⟨w.heap.size + 1, 2, none⟩) rfl (by kernel_rfl) (HZ0u.out.cell 2) Tryz.isAgg3)) ?_
  refine plan.line_same 17 _ (.bool false) rfl (hv := (exec_neq_int (n := s.fd) (m := u.fd) rfl (hid e2))) ?_
  refine plan.line_same 18 _ (.bool false) rfl ?_
  refine plan.line_same 19 _ (.bool false) rfl ?_
  refine plan.line_same 20 _ (.pointer (some ⟨w.heap.size, 3, none⟩)) rfl ?_
  refine plan.line_same 21 _ (.int .i64 s.pl) rfl (hv := (exec_cell_int (ad := ⟨w.heap.size, 3, none⟩) rfl (by kernel_rfl) (HZ0s.out.cell 3) Tryz.isAgg3)) ?_
  refine plan.line_same 22 _ (.pointer (some ⟨w.heap.size + 1, 3, none⟩)) rfl ?_
  refine plan.line_same 23 _ (.int .i64 u.pl) rfl (hv := (exec_cell_int (ad := ⟨w.heap.size + 1, 3, none⟩) rfl (by kernel_rfl) (HZ0u.out.cell 3) Tryz.isAgg3)) ?_
  refine plan.line_same 24 _ (.bool false) rfl (hv := (exec_neq_int (n := s.pl) (m := u.pl) rfl (hid e3))) ?_
  refine plan.line_same 25 _ (.bool false) rfl ?_
  refine plan.line_same 26 _ (.bool false) rfl ?_
  refine plan.line_same 27 _ (.pointer (some ⟨w.heap.size, 4, none⟩)) rfl ?_
  refine plan.line_same 28 _ (.int .i64 s.tt) rfl (hv := (exec_cell_int (ad := ⟨w.heap.size, 4, none⟩) rfl (by kernel_rfl) (HZ0s.out.cell 4) Tryz.isAgg3)) ?_
  refine plan.line_same 29 _ (.pointer (some ⟨w.heap.size + 1, 4, none⟩)) rfl ?_
  refine plan.line_same 30 _ (.int .i64 u.tt) rfl (hv := (exec_cell_int (ad := ⟨w.heap.size + 1, 4, none⟩) rfl (by kernel_rfl) (HZ0u.out.cell 4) Tryz.isAgg3)) ?_
  refine plan.line_same 31 _ (.bool false) rfl (hv := (exec_neq_int (n := s.tt) (m := u.tt) rfl (hid e4))) ?_
  refine plan.line_same 32 _ (.bool false) rfl ?_
  refine plan.line_same 33 _ (.bool false) rfl ?_
  refine plan.line_same 34 _ (.pointer (some ⟨w.heap.size, 5, none⟩)) rfl ?_
  refine plan.line_same 35 _ (.int .i64 s.a) rfl (hv := (exec_cell_int (ad := ⟨w.heap.size, 5, none⟩) rfl (by kernel_rfl) (HZ0s.out.cell 5) Tryz.isAgg3)) ?_
  refine plan.line_same 36 _ (.pointer (some ⟨w.heap.size + 1, 5, none⟩)) rfl ?_
  refine plan.line_same 37 _ (.int .i64 u.a) rfl (hv := (exec_cell_int (ad := ⟨w.heap.size + 1, 5, none⟩) rfl (by kernel_rfl) (HZ0u.out.cell 5) Tryz.isAgg3)) ?_
  refine plan.line_same 38 _ (.bool false) rfl (hv := (exec_neq_int (n := s.a) (m := u.a) rfl (hid e5))) ?_
  refine plan.line_same 39 _ (.bool false) rfl ?_
  refine plan.line_same 40 _ (.bool false) rfl ?_
  refine plan.line_same 41 _ (.pointer (some ⟨w.heap.size, 6, none⟩)) rfl ?_
  refine plan.line_same 42 _ (.int .i64 s.b) rfl (hv := (exec_cell_int (ad := ⟨w.heap.size, 6, none⟩) rfl (by kernel_rfl) (HZ0s.out.cell 6) Tryz.isAgg3)) ?_
  refine plan.line_same 43 _ (.pointer (some ⟨w.heap.size + 1, 6, none⟩)) rfl ?_
  refine plan.line_same 44 _ (.int .i64 u.b) rfl (hv := (exec_cell_int (ad := ⟨w.heap.size + 1, 6, none⟩) rfl (by kernel_rfl) (HZ0u.out.cell 6) Tryz.isAgg3)) ?_
  refine plan.line_same 45 _ (.bool false) rfl (hv := (exec_neq_int (n := s.b) (m := u.b) rfl (hid e6))) ?_
  refine plan.line_same 46 _ (.bool false) rfl ?_
  refine plan.line_same 47 _ (.bool false) rfl ?_
  refine plan.line_same 48 _ (.pointer (some ⟨w.heap.size, 7, none⟩)) rfl ?_
  refine plan.line_same 49 _ (zF s.f) rfl (hv := (exec_load_at (b := w.heap.size) (off := 7) rfl (range_f HZ0s.out) Tryz.underlying26 rfl info_fd.out)) ?_
  refine plan.line_same 50 _ (.pointer (some ⟨w.heap.size + 1, 7, none⟩)) rfl ?_
  refine plan.line_same 51 _ (zF u.f) rfl (hv := (exec_load_at (b := w.heap.size + 1) (off := 7) rfl (range_f HZ0u.out) Tryz.underlying26 rfl info_fd.out)) ?_
  refine plan.line_same 52 _ (.bool true) rfl (hv := (exec_two rfl (eqg_fd _ _ _ _ _ _) (hnf _))) ?_
  refine plan.line_same 53 _ (.bool true) rfl ?_
  refine plan.line_same 54 _ (.bool true) rfl ?_
  refine plan.line_skip 55 _ rfl ?_
  refine plan.line_skip 56 _ rfl ?_
  refine plan.line_skip 57 _ rfl ?_
  refine plan.line_skip 58 _ rfl ?_
  refine plan.line_skip 59 _ rfl ?_
  refine plan.line_same 60 _ (.bool true) rfl ?_
  refine plan.line_same 61 _ (.bool true) rfl ?_
  refine plan.line_skip 62 _ rfl ?_
  refine plan.line_skip 63 _ rfl ?_
  refine plan.line_skip 64 _ rfl ?_
  refine plan.line_skip 65 _ rfl ?_
  refine plan.line_skip 66 _ rfl ?_
  refine plan.line_skip 67 _ rfl ?_
  refine plan.line_skip 68 _ rfl ?_
  refine plan.line_same 69 _ (.bool true) rfl ?_
  refine plan.line_same 70 _ (.bool true) rfl ?_
  refine plan.line_skip 71 _ rfl ?_
  refine plan.line_skip 72 _ rfl ?_
  refine plan.line_skip 73 _ rfl ?_
  refine plan.line_skip 74 _ rfl ?_
  refine plan.line_skip 75 _ rfl ?_
  refine plan.line_skip 76 _ rfl ?_
  refine plan.line_skip 77 _ rfl ?_
  refine plan.line_same 78 _ (.bool true) rfl ?_
  refine plan.line_done (by decide) ?_
  walk_nrm
  go_wp2
  go_ret
  exact ⟨rfl, HB0.out⟩
 rw [decide_eq_true hx] at hnf
 have H7 := hid hx
 clear hx
 have hnv := fun W => neq_va s.v u.v W
 have hgv := fun (x y : Operand) (p q : Array Value) W => eqg_va .neq x y p q W
 by_cases hx : s.v = u.v
 rotate_left
 ·rw [decide_eq_false hx] at hnv
  obtain rfl : false = r := by rw [← hr.out]; exact (decide_eq_false (fun e => hx (sp_eq.1 e).2.2.1)).symm
  clear hx
  go_enter Tryz.func13, Tryz.ntmps13
  go_upto_region 1 with fail
  rw [HW0.out]
  refine plan.line ?_
  refine plan.line_same 0 _ (.pointer (some ⟨w.heap.size, 0, none⟩)) rfl ?_
  refine plan.line_same 1 _ (.int .i64 s.op) rfl (hv := (exec_cell_int (ad := ⟨w.heap.size, 0, none⟩) rfl (by kernel_rfl) (HZ0s.out.cell 0) Tryz.isAgg3)) ?_
  refine plan.line_same 2 _ (.pointer (some ⟨w.heap.size + 1, 0, none⟩)) rfl ?_
  refine plan.line_same 3 _ (.int .i64 u.op) rfl (hv := (exec_cell_int (ad := ⟨w.heap.size + 1, 0, none⟩) rfl (by kernel_rfl) (HZ0u.out.cell 0) Tryz.isAgg3)) ?_
  refine plan.line_same 4 _ (.bool false) rfl (hv := (exec_neq_int (n := s.op) (m := u.op) rfl (hid e0))) ?_
  refine plan.line_same 5 _ (.bool false) rfl ?_
  refine plan.line_same 6 _ (.pointer (some ⟨w.heap.size, 1, none⟩)) rfl ?_
  refine plan.line_same 7 _ (.int .i64 s.fm) rfl (hv := (exec_cell_int (ad := ⟨w.heap.size, 1, none⟩) rfl (by kernel_rfl) (HZ0s.out.cell 1) Tryz.isAgg3)) ?_
  refine plan.line_same 8 _ (.pointer (some ⟨w.heap.size + 1, 1, none⟩)) rfl ?_
  refine plan.line_same 9 _ (.int .i64 u.fm) rfl (hv := (exec_cell_int (ad := ⟨w.heap.size + 1, 1, none⟩) rfl (by kernel_rfl) (HZ0u.out.cell 1) Tryz.isAgg3)) ?_
  refine plan.line_same 10 _ (.bool false) rfl (hv := (exec_neq_int (n := s.fm) (m := u.fm) rfl (hid e1))) ?_
  refine plan.line_same 11 _ (.bool false) rfl ?_
  refine plan.line_same 12 _ (.bool false) rfl ?_
  refine plan.line_same 13 _ (.pointer (some ⟨w.heap.size, 2, none⟩)) rfl ?_
  refine plan.line_same 14 _ (.int .i64 s.fd) rfl (hv := (exec_cell_int (ad := ⟨w.heap.size, 2, none⟩) rfl (by kernel_rfl) (HZ0s.out.cell 2) Tryz.isAgg3)) ?_
  refine plan.line_same 15 _ (.pointer (some ⟨w.heap.size + 1, 2, none⟩)) rfl ?_
  refine plan.line_same 16 _ (.int .i64 u.fd) rfl (hv := (exec_cell_int (ad := ⟨w.heap.size + 1, 2, none⟩) rfl (by kernel_rfl) (HZ0u.out.cell 2) Tryz.isAgg3)) ?_
  refine plan.line_same 17 _ (.bool false) rfl (hv := (exec_neq_int (n := s.fd) (m := u.fd) rfl (hid e2))) ?_
  refine plan.line_same 18 _ (.bool false) rfl ?_
  refine plan.line_same 19 _ (.bool false) rfl ?_
  refine plan.line_same 20 _ (.pointer (some ⟨w.heap.size, 3, none⟩)) rfl ?_
  refine plan.line_same 21 _ (.int .i64 s.pl) rfl (hv := (exec_cell_int (ad := ⟨w.heap.size, 3, none⟩) rfl (by kernel_rfl) (HZ0s.out.cell 3) Tryz.isAgg3)) ?_
  refine plan.line_same 22 _ (.pointer (some ⟨w.heap.size + 1, 3, none⟩)) rfl ?_
  refine plan.line_same 23 _ (.int .i64 u.pl) rfl (hv := (exec_cell_int (ad := ⟨w.heap.size + 1, 3, none⟩) rfl (by kernel_rfl) (HZ0u.out.cell 3) Tryz.isAgg3)) ?_
  refine plan.line_same 24 _ (.bool false) rfl (hv := (exec_neq_int (n := s.pl) (m := u.pl) rfl (hid e3))) ?_
  refine plan.line_same 25 _ (.bool false) rfl ?_
  refine plan.line_same 26 _ (.bool false) rfl ?_
  refine plan.line_same 27 _ (.pointer (some ⟨w.heap.size, 4, none⟩)) rfl ?_
  refine plan.line_same 28 _ (.int .i64 s.tt) rfl (hv := (exec_cell_int (ad := ⟨w.heap.size, 4, none⟩) rfl (by kernel_rfl) (HZ0s.out.cell 4) Tryz.isAgg3)) ?_
  refine plan.line_same 29 _ (.pointer (some ⟨w.heap.size + 1, 4, none⟩)) rfl ?_
  refine plan.line_same 30 _ (.int .i64 u.tt) rfl (hv := (exec_cell_int (ad := ⟨w.heap.size + 1, 4, none⟩) rfl (by kernel_rfl) (HZ0u.out.cell 4) Tryz.isAgg3)) ?_
  refine plan.line_same 31 _ (.bool false) rfl (hv := (exec_neq_int (n := s.tt) (m := u.tt) rfl (hid e4))) ?_
  refine plan.line_same 32 _ (.bool false) rfl ?_
  refine plan.line_same 33 _ (.bool false) rfl ?_
  refine plan.line_same 34 _ (.pointer (some ⟨w.heap.size, 5, none⟩)) rfl ?_
  refine plan.line_same 35 _ (.int .i64 s.a) rfl (hv := (exec_cell_int (ad := ⟨w.heap.size, 5, none⟩) rfl (by kernel_rfl) (HZ0s.out.cell 5) Tryz.isAgg3)) ?_
  refine plan.line_same 36 _ (.pointer (some ⟨w.heap.size + 1, 5, none⟩)) rfl ?_
  refine plan.line_same 37 _ (.int .i64 u.a) rfl (hv := (exec_cell_int (ad := ⟨w.heap.size + 1, 5, none⟩) rfl (by kernel_rfl) (HZ0u.out.cell 5) Tryz.isAgg3)) ?_
  refine plan.line_same 38 _ (.bool false) rfl (hv := (exec_neq_int (n := s.a) (m := u.a) rfl (hid e5))) ?_
  refine plan.line_same 39 _ (.bool false) rfl ?_
  refine plan.line_same 40 _ (.bool false) rfl ?_
  refine plan.line_same 41 _ (.pointer (some ⟨w.heap.size, 6, none⟩)) rfl ?_
  refine plan.line_same 42 _ (.int .i64 s.b) rfl (hv := (exec_cell_int (ad := ⟨w.heap.size, 6, none⟩) rfl (by kernel_rfl) (HZ0s.out.cell 6) Tryz.isAgg3)) ?_
  refine plan.line_same 43 _ (.pointer (some ⟨w.heap.size + 1, 6, none⟩)) rfl ?_
  refine plan.line_same 44 _ (.int .i64 u.b) rfl (hv := (exec_cell_int (ad := ⟨w.heap.size + 1, 6, none⟩) rfl (by kernel_rfl) (HZ0u.out.cell 6) Tryz.isAgg3)) ?_
  refine plan.line_same 45 _ (.bool false) rfl (hv := (exec_neq_int (n := s.b) (m := u.b) rfl (hid e6))) ?_
  refine plan.line_same 46 _ (.bool false) rfl ?_
  refine plan.line_same 47 _ (.bool false) rfl ?_
  refine plan.line_same 48 _ (.pointer (some ⟨w.heap.size, 7, none⟩)) rfl ?_
  refine plan.line_same 49 _ (zF s.f) rfl (hv := (exec_load_at (b := w.heap.size) (off := 7) rfl (range_f HZ0s.out) Tryz.underlying26 rfl info_fd.out)) ?_
  refine plan.line_same 50 _ (.pointer (some ⟨w.heap.size + 1, 7, none⟩)) rfl ?_
  refine plan.line_same 51 _ (zF u.f) rfl (hv := (exec_load_at (b := w.heap.size + 1) (off := 7) rfl (range_f HZ0u.out) Tryz.underlying26 rfl info_fd.out)) ?_
  refine plan.line_same 52 _ (.bool false) rfl (hv := (exec_two rfl (eqg_fd _ _ _ _ _ _) (hnf _))) ?_
  refine plan.line_same 53 _ (.bool false) rfl ?_
  refine plan.line_same 54 _ (.bool false) rfl ?_
  refine plan.line_same 55 _ (.pointer (some ⟨w.heap.size, 12, none⟩)) rfl ?_
  refine plan.line_same 56 _ (zV s.v) rfl (hv := (exec_load_at (b := w.heap.size) (off := 12) rfl (range_v HZ0s.out) Tryz.underlying28 rfl info_va.out)) ?_
  refine plan.line_same 57 _ (.pointer (some ⟨w.heap.size + 1, 12, none⟩)) rfl ?_
  refine plan.line_same 58 _ (zV u.v) rfl (hv := (exec_load_at (b := w.heap.size + 1) (off := 12) rfl (range_v HZ0u.out) Tryz.underlying28 rfl info_va.out)) ?_
  refine plan.line_same 59 _ (.bool true) rfl (hv := (exec_two rfl (eqg_va _ _ _ _ _ _) (hnv _))) ?_
  refine plan.line_same 60 _ (.bool true) rfl ?_
  refine plan.line_same 61 _ (.bool true) rfl ?_
  refine plan.line_skip 62 _ rfl ?_
  refine plan.line_skip 63 _ rfl ?_
  refine plan.line_skip 64 _ rfl ?_
  refine plan.line_skip 65 _ rfl ?_
  refine plan.line_skip 66 _ rfl ?_
  refine plan.line_skip 67 _ rfl ?_
  refine plan.line_skip 68 _ rfl ?_
  refine plan.line_same 69 _ (.bool true) rfl ?_
  refine plan.line_same 70 _ (.bool true) rfl ?_
  refine plan.line_skip 71 _ rfl ?_
  refine plan.line_skip 72 _ rfl ?_
  refine plan.line_skip 73 _ rfl ?_
  refine plan.line_skip 74 _ rfl ?_
  refine plan.line_skip 75 _ rfl ?_
  refine plan.line_skip 76 _ rfl ?_
  refine plan.line_skip 77 _ rfl ?_
  refine plan.line_same 78 _ (.bool true) rfl ?_
  refine plan.line_done (by decide) ?_
  walk_nrm
  go_wp2
  go_ret
  exact ⟨rfl, HB0.out⟩
 rw [decide_eq_true hx] at hnv
 have H8 := hid hx
 clear hx
 by_cases hx : s.t.length = u.t.length
 rotate_left
 ·have d9 : ((s.t.length : Int) == (u.t.length : Int)) = false := by rw [beq_eq_false_iff_ne]; omega
  have e9 : ((s.t.length : Int) != (u.t.length : Int)) = true := by rw [bne_iff_ne]; omega
  replace hx : ¬ s.t = u.t := fun e => hx (by rw [e])
  obtain rfl : false = r := by rw [← hr.out]; exact (decide_eq_false (fun e => hx (sp_eq.1 e).2.2.2.1)).symm
  clear hx
  go_enter Tryz.func13, Tryz.ntmps13
  go_upto_region 1 with fail
  rw [HW0.out]
  refine plan.line ?_
  refine plan.line_same 0 _ (.pointer (some ⟨w.heap.size, 0, none⟩)) rfl ?_
  refine plan.line_same 1 _ (.int .i64 s.op) rfl (hv := (exec_cell_int (ad := ⟨w.heap.size, 0, none⟩) rfl (by kernel_rfl) (HZ0s.out.cell 0) Tryz.isAgg3)) ?_
  refine plan.line_same 2 _ (.pointer (some ⟨w.heap.size + 1, 0, none⟩)) rfl ?_
  refine plan.line_same 3 _ (.int .i64 u.op) rfl (hv := (exec_cell_int (ad := ⟨w.heap.size + 1, 0, none⟩) rfl (by kernel_rfl) (HZ0u.out.cell 0) Tryz.isAgg3)) ?_
  refine plan.line_same 4 _ (.bool false) rfl (hv := (exec_neq_int (n := s.op) (m := u.op) rfl (hid e0))) ?_
  refine plan.line_same 5 _ (.bool false) rfl ?_
  refine plan.line_same 6 _ (.pointer (some ⟨w.heap.size, 1, none⟩)) rfl ?_
  refine plan.line_same 7 _ (.int .i64 s.fm) rfl (hv := (exec_cell_int (ad := ⟨w.heap.size, 1, none⟩) rfl (by kernel_rfl) (HZ0s.out.cell 1) Tryz.isAgg3)) ?_
  refine plan.line_same 8 _ (.pointer (some ⟨w.heap.size + 1, 1, none⟩)) rfl ?_
  refine plan.line_same 9 _ (.int .i64 u.fm) rfl (hv := (exec_cell_int (ad := ⟨w.heap.size + 1, 1, none⟩) rfl (by kernel_rfl) (HZ0u.out.cell 1) Tryz.isAgg3)) ?_
  refine plan.line_same 10 _ (.bool false) rfl (hv := (exec_neq_int (n := s.fm) (m := u.fm) rfl (hid e1))) ?_
  refine plan.line_same 11 _ (.bool false) rfl ?_
  refine plan.line_same 12 _ (.bool false) rfl ?_
  refine plan.line_same 13 _ (.pointer (some ⟨w.heap.size, 2, none⟩)) rfl ?_
  refine plan.line_same 14 _ (.int .i64 s.fd) rfl (hv := (exec_cell_int (ad := ⟨w.heap.size, 2, none⟩) rfl (by kernel_rfl) (HZ0s.out.cell 2) Tryz.isAgg3)) ?_
  refine plan.line_same 15 _ (.pointer (some ⟨w.heap.size + 1, 2, none⟩)) rfl ?_
  refine plan.line_same 16 _ (.int .i64 u.fd) rfl (hv := (exec_cell_int (ad := ⟨w.heap.size + 1, 2, none⟩) rfl (by kernel_rfl) (HZ0u.out.cell 2) Tryz.isAgg3)) ?_
  refine plan.line_same 17 _ (.bool false) rfl (hv := (exec_neq_int (n := s.fd) (m := u.fd) rfl (hid e2))) ?_
  refine plan.line_same 18 _ (.bool false) rfl ?_
  refine plan.line_same 19 _ (.bool false) rfl ?_
  refine plan.line_same 20 _ (.pointer (some ⟨w.heap.size, 3, none⟩)) rfl ?_
  refine plan.line_same 21 _ (.int .i64 s.pl) rfl (hv := (exec_cell_int (ad := ⟨w.heap.size, 3, none⟩) rfl (by kernel_rfl) (HZ0s.out.cell 3) Tryz.isAgg3)) ?_
  refine plan.line_same 22 _ (.pointer (some ⟨w.heap.size + 1, 3, none⟩)) rfl ?_
  refine plan.line_same 23 _ (.int .i64 u.pl) rfl (hv := (exec_cell_int (ad := ⟨w.heap.size + 1, 3, none⟩) rfl (by kernel_rfl) (HZ0u.out.cell 3) Tryz.isAgg3)) ?_
  refine plan.line_same 24 _ (.bool false) rfl (hv := (exec_neq_int (n := s.pl) (m := u.pl) rfl (hid e3))) ?_
  refine plan.line_same 25 _ (.bool false) rfl ?_
  refine plan.line_same 26 _ (.bool false) rfl ?_
  refine plan.line_same 27 _ (.pointer (some ⟨w.heap.size, 4, none⟩)) rfl ?_
  refine plan.line_same 28 _ (.int .i64 s.tt) rfl (hv := (exec_cell_int (ad := ⟨w.heap.size, 4, none⟩) rfl (by kernel_rfl) (HZ0s.out.cell 4) Tryz.isAgg3)) ?_
  refine plan.line_same 29 _ (.pointer (some ⟨w.heap.size + 1, 4, none⟩)) rfl ?_
  refine plan.line_same 30 _ (.int .i64 u.tt) rfl (hv := (exec_cell_int (ad := ⟨w.heap.size + 1, 4, none⟩) rfl (by kernel_rfl) (HZ0u.out.cell 4) Tryz.isAgg3)) ?_
  refine plan.line_same 31 _ (.bool false) rfl (hv := (exec_neq_int (n := s.tt) (m := u.tt) rfl (hid e4))) ?_
  refine plan.line_same 32 _ (.bool false) rfl ?_
  refine plan.line_same 33 _ (.bool false) rfl ?_
  refine plan.line_same 34 _ (.pointer (some ⟨w.heap.size, 5, none⟩)) rfl ?_
  refine plan.line_same 35 _ (.int .i64 s.a) rfl (hv := (exec_cell_int (ad := ⟨w.heap.size, 5, none⟩) rfl (by kernel_rfl) (HZ0s.out.cell 5) Tryz.isAgg3)) ?_
  refine plan.line_same 36 _ (.pointer (some ⟨w.heap.size + 1, 5, none⟩)) rfl ?_
  refine plan.line_same 37 _ (.int .i64 u.a) rfl (hv := (exec_cell_int (ad := ⟨w.heap.size + 1, 5, none⟩) rfl (by kernel_rfl) (HZ0u.out.cell 5) Tryz.isAgg3)) ?_
  refine plan.line_same 38 _ (.bool false) rfl (hv := (exec_neq_int (n := s.a) (m := u.a) rfl (hid e5))) ?_
  refine plan.line_same 39 _ (.bool false) rfl ?_
  refine plan.line_same 40 _ (.bool false) rfl ?_
  refine plan.line_same 41 _ (.pointer (some ⟨w.heap.size, 6, none⟩)) rfl ?_
  refine plan.line_same 42 _ (.int .i64 s.b) rfl (hv := (exec_cell_int (ad := ⟨w.heap.size, 6, none⟩) rfl (by kernel_rfl) (HZ0s.out.cell 6) Tryz.isAgg3)) ?_
  refine plan.line_same 43 _ (.pointer (some ⟨w.heap.size + 1, 6, none⟩)) rfl ?_
  refine plan.line_same 44 _ (.int .i64 u.b) rfl (hv := (exec_cell_int (ad := ⟨w.heap.size + 1, 6, none⟩) rfl (by kernel_rfl) (HZ0u.out.cell 6) Tryz.isAgg3)) ?_
  refine plan.line_same 45 _ (.bool false) rfl (hv := (exec_neq_int (n := s.b) (m := u.b) rfl (hid e6))) ?_
  refine plan.line_same 46 _ (.bool false) rfl ?_
  refine plan.line_same 47 _ (.bool false) rfl ?_
  refine plan.line_same 48 _ (.pointer (some ⟨w.heap.size, 7, none⟩)) rfl ?_
  refine plan.line_same 49 _ (zF s.f) rfl (hv := (exec_load_at (b := w.heap.size) (off := 7) rfl (range_f HZ0s.out) Tryz.underlying26 rfl info_fd.out)) ?_
  refine plan.line_same 50 _ (.pointer (some ⟨w.heap.size + 1, 7, none⟩)) rfl ?_
  refine plan.line_same 51 _ (zF u.f) rfl (hv := (exec_load_at (b := w.heap.size + 1) (off := 7) rfl (range_f HZ0u.out) Tryz.underlying26 rfl info_fd.out)) ?_
  refine plan.line_same 52 _ (.bool false) rfl (hv := (exec_two rfl (eqg_fd _ _ _ _ _ _) (hnf _))) ?_
  refine plan.line_same 53 _ (.bool false) rfl ?_
  refine plan.line_same 54 _ (.bool false) rfl ?_
  refine plan.line_same 55 _ (.pointer (some ⟨w.heap.size, 12, none⟩)) rfl ?_
  refine plan.line_same 56 _ (zV s.v) rfl (hv := (exec_load_at (b := w.heap.size) (off := 12) rfl (range_v HZ0s.out) Tryz.underlying28 rfl info_va.out)) ?_
  refine plan.line_same 57 _ (.pointer (some ⟨w.heap.size + 1, 12, none⟩)) rfl ?_
  refine plan.line_same 58 _ (zV u.v) rfl (hv := (exec_load_at (b := w.heap.size + 1) (off := 12) rfl (range_v HZ0u.out) Tryz.underlying28 rfl info_va.out)) ?_
  refine plan.line_same 59 _ (.bool false) rfl (hv := (exec_two rfl (eqg_va _ _ _ _ _ _) (hnv _))) ?_
  refine plan.line_same 60 _ (.bool false) rfl ?_
  refine plan.line_same 61 _ (.bool false) rfl ?_
  refine plan.line_same 62 _ (.pointer (some ⟨w.heap.size, 14, none⟩)) rfl ?_
  refine plan.line_same 63 _ (.slice ta s.t.length tc) rfl (hv := (exec_cell_slice (ad := ⟨w.heap.size, 14, none⟩) rfl (HZ0s.out.cell 14) Tryz.isAgg29)) ?_
  refine plan.line_same 64 _ (.int .i64 (s.t.length : Int)) rfl ?_
  refine plan.line_same 65 _ (.pointer (some ⟨w.heap.size + 1, 14, none⟩)) rfl ?_
  refine plan.line_same 66 _ (.slice ua u.t.length uc) rfl (hv := (exec_cell_slice (ad := ⟨w.heap.size + 1, 14, none⟩) rfl (HZ0u.out.cell 14) Tryz.isAgg29)) ?_
  refine plan.line_same 67 _ (.int .i64 (u.t.length : Int)) rfl ?_
  refine plan.line_same 68 _ (.bool true) rfl (hv := (exec_neq_int (n := (s.t.length : Int)) (m := (u.t.length : Int)) rfl (hid e9))) ?_
  refine plan.line_same 69 _ (.bool true) rfl ?_
  refine plan.line_same 70 _ (.bool true) rfl ?_
  refine plan.line_skip 71 _ rfl ?_
  refine plan.line_skip 72 _ rfl ?_
  refine plan.line_skip 73 _ rfl ?_
  refine plan.line_skip 74 _ rfl ?_
  refine plan.line_skip 75 _ rfl ?_
  refine plan.line_skip 76 _ rfl ?_
  refine plan.line_skip 77 _ rfl ?_
  refine plan.line_same 78 _ (.bool true) rfl ?_
  refine plan.line_done (by decide) ?_
  walk_nrm
  go_wp2
  go_ret
  exact ⟨rfl, HB0.out⟩
 have d9 : ((s.t.length : Int) == (u.t.length : Int)) = true := by rw [beq_iff_eq]; omega
 have e9 : ((s.t.length : Int) != (u.t.length : Int)) = false := by simp [hx]
 have HLT := hid hx
 clear hx
 by_cases hx : s.l.length = u.l.length
 rotate_left
 ·have d10 : ((s.l.length : Int) == (u.l.length : Int)) = false := by rw [beq_eq_false_iff_ne]; omega
  have e10 : ((s.l.length : Int) != (u.l.length : Int)) = true := by rw [bne_iff_ne]; omega
  replace hx : ¬ s.l = u.l := fun e => hx (by rw [e])
  obtain rfl : false = r := by rw [← hr.out]; exact (decide_eq_false (fun e => hx (sp_eq.1 e).2.2.2.2)).symm
  clear hx
  go_enter Tryz.func13, Tryz.ntmps13
  go_upto_region 1 with fail
  rw [HW0.out]
  refine plan.line ?_
  refine plan.line_same 0 _ (.pointer (some ⟨w.heap.size, 0, none⟩)) rfl ?_
  refine plan.line_same 1 _ (.int .i64 s.op) rfl (hv := (exec_cell_int (ad := ⟨w.heap.size, 0, none⟩) rfl (by kernel_rfl) (HZ0s.out.cell 0) Tryz.isAgg3)) ?_
  refine plan.line_same 2 _ (.pointer (some ⟨w.heap.size + 1, 0, none⟩)) rfl ?_
  refine plan.line_same 3 _ (.int .i64 u.op) rfl (hv := (exec_cell_int (ad := ⟨w.heap.size + 1, 0, none⟩) rfl (by kernel_rfl) (HZ0u.out.cell 0) Tryz.isAgg3)) ?_
  refine plan.line_same 4 _ (.bool false) rfl (hv := (exec_neq_int (n := s.op) (m := u.op) rfl (hid e0))) ?_
  refine plan.line_same 5 _ (.bool false) rfl ?_
  refine plan.line_same 6 _ (.pointer (some ⟨w.heap.size, 1, none⟩)) rfl ?_
  refine plan.line_same 7 _ (.int .i64 s.fm) rfl (hv := (exec_cell_int (ad := ⟨w.heap.size, 1, none⟩) rfl (by kernel_rfl) (HZ0s.out.cell 1) Tryz.isAgg3)) ?_
  refine plan.line_same 8 _ (.pointer (some ⟨w.heap.size + 1, 1, none⟩)) rfl ?_
  refine plan.line_same 9 _ (.int .i64 u.fm) rfl (hv := (exec_cell_int (ad := ⟨w.heap.size + 1, 1, none⟩) rfl (by kernel_rfl) (HZ0u.out.cell 1) Tryz.isAgg3)) ?_
  refine plan.line_same 10 _ (.bool false) rfl (hv := (exec_neq_int (n := s.fm) (m := u.fm) rfl (hid e1))) ?_
  refine plan.line_same 11 _ (.bool false) rfl ?_
  refine plan.line_same 12 _ (.bool false) rfl ?_
  refine plan.line_same 13 _ (.pointer (some ⟨w.heap.size, 2, none⟩)) rfl ?_
  refine plan.line_same 14 _ (.int .i64 s.fd) rfl (hv := (exec_cell_int (ad := ⟨w.heap.size, 2, none⟩) rfl (by kernel_rfl) (HZ0s.out.cell 2) Tryz.isAgg3)) ?_
  refine plan.line_same 15 _ (.pointer (some ⟨w.heap.size + 1, 2, none⟩)) rfl ?_
  refine plan.line_same 16 _ (.int .i64 u.fd) rfl (hv := (exec_cell_int (ad := ⟨w.heap.size + 1, 2, none⟩) rfl (by kernel_rfl) (HZ0u.out.cell 2) Tryz.isAgg3)) ?_
  refine plan.line_same 17 _ (.bool false) rfl (hv := (exec_neq_int (n := s.fd) (m := u.fd) rfl (hid e2))) ?_
  refine plan.line_same 18 _ (.bool false) rfl ?_
  refine plan.line_same 19 _ (.bool false) rfl ?_
  refine plan.line_same 20 _ (.pointer (some ⟨w.heap.size, 3, none⟩)) rfl ?_
  refine plan.line_same 21 _ (.int .i64 s.pl) rfl (hv := (exec_cell_int (ad := ⟨w.heap.size, 3, none⟩) rfl (by kernel_rfl) (HZ0s.out.cell 3) Tryz.isAgg3)) ?_
  refine plan.line_same 22 _ (.pointer (some ⟨w.heap.size + 1, 3, none⟩)) rfl ?_
  refine plan.line_same 23 _ (.int .i64 u.pl) rfl (hv := (exec_cell_int (ad := ⟨w.heap.size + 1, 3, none⟩) rfl (by kernel_rfl) (HZ0u.out.cell 3) Tryz.isAgg3)) ?_
  refine plan.line_same 24 _ (.bool false) rfl (hv := (exec_neq_int (n := s.pl) (m := u.pl) rfl (hid e3))) ?_
  refine plan.line_same 25 _ (.bool false) rfl ?_
  refine plan.line_same 26 _ (.bool false) rfl ?_
  refine plan.line_same 27 _ (.pointer (some ⟨w.heap.size, 4, none⟩)) rfl ?_
  refine plan.line_same 28 _ (.int .i64 s.tt) rfl (hv := (exec_cell_int (ad := ⟨w.heap.size, 4, none⟩) rfl (by kernel_rfl) (HZ0s.out.cell 4) Tryz.isAgg3)) ?_
  refine plan.line_same 29 _ (.pointer (some ⟨w.heap.size + 1, 4, none⟩)) rfl ?_
  refine plan.line_same 30 _ (.int .i64 u.tt) rfl (hv := (exec_cell_int (ad := ⟨w.heap.size + 1, 4, none⟩) rfl (by kernel_rfl) (HZ0u.out.cell 4) Tryz.isAgg3)) ?_
  refine plan.line_same 31 _ (.bool false) rfl (hv := (exec_neq_int (n := s.tt) (m := u.tt) rfl (hid e4))) ?_
  refine plan.line_same 32 _ (.bool false) rfl ?_
  refine plan.line_same 33 _ (.bool false) rfl ?_
  refine plan.line_same 34 _ (.pointer (some ⟨w.heap.size, 5, none⟩)) rfl ?_
  refine plan.line_same 35 _ (.int .i64 s.a) rfl (hv := (exec_cell_int (ad := ⟨w.heap.size, 5, none⟩) rfl (by kernel_rfl) (HZ0s.out.cell 5) Tryz.isAgg3)) ?_
  refine plan.line_same 36 _ (.pointer (some ⟨w.heap.size + 1, 5, none⟩)) rfl ?_
  refine plan.line_same 37 _ (.int .i64 u.a) rfl (hv := (exec_cell_int (ad := ⟨w.heap.size + 1, 5, none⟩) rfl (by kernel_rfl) (HZ0u.out.cell 5) Tryz.isAgg3)) ?_
  refine plan.line_same 38 _ (.bool false) rfl (hv := (exec_neq_int (n := s.a) (m := u.a) rfl (hid e5))) ?_
  refine plan.line_same 39 _ (.bool false) rfl ?_
  refine plan.line_same 40 _ (.bool false) rfl ?_
  refine plan.line_same 41 _ (.pointer (some ⟨w.heap.size, 6, none⟩)) rfl ?_
  refine plan.line_same 42 _ (.int .i64 s.b) rfl (hv := (exec_cell_int (ad := ⟨w.heap.size, 6, none⟩) rfl (by kernel_rfl) (HZ0s.out.cell 6) Tryz.isAgg3)) ?_
  refine plan.line_same 43 _ (.pointer (some ⟨w.heap.size + 1, 6, none⟩)) rfl ?_
  refine plan.line_same 44 _ (.int .i64 u.b) rfl (hv := (exec_cell_int (ad := ⟨w.heap.size + 1, 6, none⟩) rfl (by kernel_rfl) (HZ0u.out.cell 6) Tryz.isAgg3)) ?_
  refine plan.line_same 45 _ (.bool false) rfl (hv := (exec_neq_int (n := s.b) (m := u.b) rfl (hid e6))) ?_
  refine plan.line_same 46 _ (.bool false) rfl ?_
  refine plan.line_same 47 _ (.bool false) rfl ?_
  refine plan.line_same 48 _ (.pointer (some ⟨w.heap.size, 7, none⟩)) rfl ?_
  refine plan.line_same 49 _ (zF s.f) rfl (hv := (exec_load_at (b := w.heap.size) (off := 7) rfl (range_f HZ0s.out) Tryz.underlying26 rfl info_fd.out)) ?_
  refine plan.line_same 50 _ (.pointer (some ⟨w.heap.size + 1, 7, none⟩)) rfl ?_
  refine plan.line_same 51 _ (zF u.f) rfl (hv := (exec_load_at (b := w.heap.size + 1) (off := 7) rfl (range_f HZ0u.out) Tryz.underlying26 rfl info_fd.out)) ?_
  refine plan.line_same 52 _ (.bool false) rfl (hv := (exec_two rfl (eqg_fd _ _ _ _ _ _) (hnf _))) ?_
  refine plan.line_same 53 _ (.bool false) rfl ?_
  refine plan.line_same 54 _ (.bool false) rfl ?_
  refine plan.line_same 55 _ (.pointer (some ⟨w.heap.size, 12, none⟩)) rfl ?_
  refine plan.line_same 56 _ (zV s.v) rfl (hv := (exec_load_at (b := w.heap.size) (off := 12) rfl (range_v HZ0s.out) Tryz.underlying28 rfl info_va.out)) ?_
  refine plan.line_same 57 _ (.pointer (some ⟨w.heap.size + 1, 12, none⟩)) rfl ?_
  refine plan.line_same 58 _ (zV u.v) rfl (hv := (exec_load_at (b := w.heap.size + 1) (off := 12) rfl (range_v HZ0u.out) Tryz.underlying28 rfl info_va.out)) ?_
  refine plan.line_same 59 _ (.bool false) rfl (hv := (exec_two rfl (eqg_va _ _ _ _ _ _) (hnv _))) ?_
  refine plan.line_same 60 _ (.bool false) rfl ?_
  refine plan.line_same 61 _ (.bool false) rfl ?_
  refine plan.line_same 62 _ (.pointer (some ⟨w.heap.size, 14, none⟩)) rfl ?_
  refine plan.line_same 63 _ (.slice ta s.t.length tc) rfl (hv := (exec_cell_slice (ad := ⟨w.heap.size, 14, none⟩) rfl (HZ0s.out.cell 14) Tryz.isAgg29)) ?_
  refine plan.line_same 64 _ (.int .i64 (s.t.length : Int)) rfl ?_
  refine plan.line_same 65 _ (.pointer (some ⟨w.heap.size + 1, 14, none⟩)) rfl ?_
  refine plan.line_same 66 _ (.slice ua u.t.length uc) rfl (hv := (exec_cell_slice (ad := ⟨w.heap.size + 1, 14, none⟩) rfl (HZ0u.out.cell 14) Tryz.isAgg29)) ?_
  refine plan.line_same 67 _ (.int .i64 (u.t.length : Int)) rfl ?_
  refine plan.line_same 68 _ (.bool false) rfl (hv := (exec_neq_int (n := (s.t.length : Int)) (m := (u.t.length : Int)) rfl (hid e9))) ?_
  refine plan.line_same 69 _ (.bool false) rfl ?_
  refine plan.line_same 70 _ (.bool false) rfl ?_
  refine plan.line_same 71 _ (.pointer (some ⟨w.heap.size, 15, none⟩)) rfl ?_
  refine plan.line_same 72 _ (.slice la s.l.length lc) rfl (hv := (exec_cell_slice (ad := ⟨w.heap.size, 15, none⟩) rfl (HZ0s.out.cell 15) Tryz.isAgg30)) ?_
  refine plan.line_same 73 _ (.int .i64 (s.l.length : Int)) rfl ?_
  refine plan.line_same 74 _ (.pointer (some ⟨w.heap.size + 1, 15, none⟩)) rfl ?_
  refine plan.line_same 75 _ (.slice va u.l.length vc) rfl (hv := (exec_cell_slice (ad := ⟨w.heap.size + 1, 15, none⟩) rfl (HZ0u.out.cell 15) Tryz.isAgg30)) ?_
  refine plan.line_same 76 _ (.int .i64 (u.l.length : Int)) rfl ?_
  refine plan.line_same 77 _ (.bool true) rfl (hv := (exec_neq_int (n := (s.l.length : Int)) (m := (u.l.length : Int)) rfl (hid e10))) ?_
  refine plan.line_same 78 _ (.bool true) rfl ?_
  refine plan.line_done (by decide) ?_
  walk_nrm
  go_wp2
  go_ret
  exact ⟨rfl, HB0.out⟩
 have d10 : ((s.l.length : Int) == (u.l.length : Int)) = true := by rw [beq_iff_eq]; omega
 have e10 : ((s.l.length : Int) != (u.l.length : Int)) = false := by simp [hx]
 have HLL := hid hx
 clear hx
 go_enter Tryz.func13, Tryz.ntmps13
 go_upto_region 1 with fail
 rw [HW0.out]
 refine plan.line ?_
 refine plan.line_same 0 _ (.pointer (some ⟨w.heap.size, 0, none⟩)) rfl ?_
 refine plan.line_same 1 _ (.int .i64 s.op) rfl (hv := (exec_cell_int (ad := ⟨w.heap.size, 0, none⟩) rfl (by kernel_rfl) (HZ0s.out.cell 0) Tryz.isAgg3)) ?_
 refine plan.line_same 2 _ (.pointer (some ⟨w.heap.size + 1, 0, none⟩)) rfl ?_
 refine plan.line_same 3 _ (.int .i64 u.op) rfl (hv := (exec_cell_int (ad := ⟨w.heap.size + 1, 0, none⟩) rfl (by kernel_rfl) (HZ0u.out.cell 0) Tryz.isAgg3)) ?_
 refine plan.line_same 4 _ (.bool false) rfl (hv := (exec_neq_int (n := s.op) (m := u.op) rfl (hid e0))) ?_
 refine plan.line_same 5 _ (.bool false) rfl ?_
 refine plan.line_same 6 _ (.pointer (some ⟨w.heap.size, 1, none⟩)) rfl ?_
 refine plan.line_same 7 _ (.int .i64 s.fm) rfl (hv := (exec_cell_int (ad := ⟨w.heap.size, 1, none⟩) rfl (by kernel_rfl) (HZ0s.out.cell 1) Tryz.isAgg3)) ?_
 refine plan.line_same 8 _ (.pointer (some ⟨w.heap.size + 1, 1, none⟩)) rfl ?_
 refine plan.line_same 9 _ (.int .i64 u.fm) rfl (hv := (exec_cell_int (ad := ⟨w.heap.size + 1, 1, none⟩) rfl (by kernel_rfl) (HZ0u.out.cell 1) Tryz.isAgg3)) ?_
 refine plan.line_same 10 _ (.bool false) rfl (hv := (exec_neq_int (n := s.fm) (m := u.fm) rfl (hid e1))) ?_
 refine plan.line_same 11 _ (.bool false) rfl ?_
 refine plan.line_same 12 _ (.bool false) rfl ?_
 refine plan.line_same 13 _ (.pointer (some ⟨w.heap.size, 2, none⟩)) rfl ?_
 refine plan.line_same 14 _ (.int .i64 s.fd) rfl (hv := (exec_cell_int (ad := ⟨w.heap.size, 2, none⟩) rfl (by kernel_rfl) (HZ0s.out.cell 2) Tryz.isAgg3)) ?_
 refine plan.line_same 15 _ (.pointer (some ⟨w.heap.size + 1, 2, none⟩)) rfl ?_
 refine plan.line_same 16 _ (.int .i64 u.fd) rfl (hv := (exec_cell_int (ad := ⟨w.heap.size + 1, 2, none⟩) rfl (by kernel_rfl) (HZ0u.out.cell 2) Tryz.isAgg3)) ?_
 refine plan.line_same 17 _ (.bool false) rfl (hv := (exec_neq_int (n := s.fd) (m := u.fd) rfl (hid e2))) ?_
 refine plan.line_same 18 _ (.bool false) rfl ?_
 refine plan.line_same 19 _ (.bool false) rfl ?_
 refine plan.line_same 20 _ (.pointer (some ⟨w.heap.size, 3, none⟩)) rfl ?_
 refine plan.line_same 21 _ (.int .i64 s.pl) rfl (hv := (exec_cell_int (ad := ⟨w.heap.size, 3, none⟩) rfl (by kernel_rfl) (HZ0s.out.cell 3) Tryz.isAgg3)) ?_
 refine plan.line_same 22 _ (.pointer (some ⟨w.heap.size + 1, 3, none⟩)) rfl ?_
 refine plan.line_same 23 _ (.int .i64 u.pl) rfl (hv := (exec_cell_int (ad := ⟨w.heap.size + 1, 3, none⟩) rfl (by kernel_rfl) (HZ0u.out.cell 3) Tryz.isAgg3)) ?_
 refine plan.line_same 24 _ (.bool false) rfl (hv := (exec_neq_int (n := s.pl) (m := u.pl) rfl (hid e3))) ?_
 refine plan.line_same 25 _ (.bool false) rfl ?_
 refine plan.line_same 26 _ (.bool false) rfl ?_
 refine plan.line_same 27 _ (.pointer (some ⟨w.heap.size, 4, none⟩)) rfl ?_
 refine plan.line_same 28 _ (.int .i64 s.tt) rfl (hv := (exec_cell_int (ad := ⟨w.heap.size, 4, none⟩) rfl (by kernel_rfl) (HZ0s.out.cell 4) Tryz.isAgg3)) ?_
 refine plan.line_same 29 _ (.pointer (some ⟨w.heap.size + 1, 4, none⟩)) rfl ?_
 refine plan.line_same 30 _ (.int .i64 u.tt) rfl (hv := (exec_cell_int (ad := ⟨w.heap.size + 1, 4, none⟩) rfl (by kernel_rfl) (HZ0u.out.cell 4) Tryz.isAgg3)) ?_
 refine plan.line_same 31 _ (.bool false) rfl (hv := (exec_neq_int (n := s.tt) (m := u.tt) rfl (hid e4))) ?_
 refine plan.line_same 32 _ (.bool false) rfl ?_
 refine plan.line_same 33 _ (.bool false) rfl ?_
 refine plan.line_same 34 _ (.pointer (some ⟨w.heap.size, 5, none⟩)) rfl ?_
 refine plan.line_same 35 _ (.int .i64 s.a) rfl (hv := (exec_cell_int (ad := ⟨w.heap.size, 5, none⟩) rfl (by kernel_rfl) (HZ0s.out.cell 5) Tryz.isAgg3)) ?_
 refine plan.line_same 36 _ (.pointer (some ⟨w.heap.size + 1, 5, none⟩)) rfl ?_
 refine plan.line_same 37 _ (.int .i64 u.a) rfl (hv := (exec_cell_int (ad := ⟨w.heap.size + 1, 5, none⟩) rfl (by kernel_rfl) (HZ0u.out.cell 5) Tryz.isAgg3)) ?_
 refine plan.line_same 38 _ (.bool false) rfl (hv := (exec_neq_int (n := s.a) (m := u.a) rfl (hid e5))) ?_
 refine plan.line_same 39 _ (.bool false) rfl ?_
 refine plan.line_same 40 _ (.bool false) rfl ?_
 refine plan.line_same 41 _ (.pointer (some ⟨w.heap.size, 6, none⟩)) rfl ?_
 refine plan.line_same 42 _ (.int .i64 s.b) rfl (hv := (exec_cell_int (ad := ⟨w.heap.size, 6, none⟩) rfl (by kernel_rfl) (HZ0s.out.cell 6) Tryz.isAgg3)) ?_
 refine plan.line_same 43 _ (.pointer (some ⟨w.heap.size + 1, 6, none⟩)) rfl ?_
 refine plan.line_same 44 _ (.int .i64 u.b) rfl (hv := (exec_cell_int (ad := ⟨w.heap.size + 1, 6, none⟩) rfl (by kernel_rfl) (HZ0u.out.cell 6) Tryz.isAgg3)) ?_
 refine plan.line_same 45 _ (.bool false) rfl (hv := (exec_neq_int (n := s.b) (m := u.b) rfl (hid e6))) ?_
 refine plan.line_same 46 _ (.bool false) rfl ?_
 refine plan.line_same 47 _ (.bool false) rfl ?_
 refine plan.line_same 48 _ (.pointer (some ⟨w.heap.size, 7, none⟩)) rfl ?_
 refine plan.line_same 49 _ (zF s.f) rfl (hv := (exec_load_at (b := w.heap.size) (off := 7) rfl (range_f HZ0s.out) Tryz.underlying26 rfl info_fd.out)) ?_
 refine plan.line_same 50 _ (.pointer (some ⟨w.heap.size + 1, 7, none⟩)) rfl ?_
 refine plan.line_same 51 _ (zF u.f) rfl (hv := (exec_load_at (b := w.heap.size + 1) (off := 7) rfl (range_f HZ0u.out) Tryz.underlying26 rfl info_fd.out)) ?_
 refine plan.line_same 52 _ (.bool false) rfl (hv := (exec_two rfl (eqg_fd _ _ _ _ _ _) (hnf _))) ?_
 refine plan.line_same 53 _ (.bool false) rfl ?_
 refine plan.line_same 54 _ (.bool false) rfl ?_
 refine plan.line_same 55 _ (.pointer (some ⟨w.heap.size, 12, none⟩)) rfl ?_
 refine plan.line_same 56 _ (zV s.v) rfl (hv := (exec_load_at (b := w.heap.size) (off := 12) rfl (range_v HZ0s.out) Tryz.underlying28 rfl info_va.out)) ?_
 refine plan.line_same 57 _ (.pointer (some ⟨w.heap.size + 1, 12, none⟩)) rfl ?_
 refine plan.line_same 58 _ (zV u.v) rfl (hv := (exec_load_at (b := w.heap.size + 1) (off := 12) rfl (range_v HZ0u.out) Tryz.underlying28 rfl info_va.out)) ?_
 refine plan.line_same 59 _ (.bool false) rfl (hv := (exec_two rfl (eqg_va _ _ _ _ _ _) (hnv _))) ?_
 refine plan.line_same 60 _ (.bool false) rfl ?_
 refine plan.line_same 61 _ (.bool false) rfl ?_
 refine plan.line_same 62 _ (.pointer (some ⟨w.heap.size, 14, none⟩)) rfl ?_
 refine plan.line_same 63 _ (.slice ta s.t.length tc) rfl (hv := (exec_cell_slice (ad := ⟨w.heap.size, 14, none⟩) rfl (HZ0s.out.cell 14) Tryz.isAgg29)) ?_
 refine plan.line_same 64 _ (.int .i64 (s.t.length : Int)) rfl ?_
 refine plan.line_same 65 _ (.pointer (some ⟨w.heap.size + 1, 14, none⟩)) rfl ?_
 refine plan.line_same 66 _ (.slice ua u.t.length uc) rfl (hv := (exec_cell_slice (ad := ⟨w.heap.size + 1, 14, none⟩) rfl (HZ0u.out.cell 14) Tryz.isAgg29)) ?_
 refine plan.line_same 67 _ (.int .i64 (u.t.length : Int)) rfl ?_
 refine plan.line_same 68 _ (.bool false) rfl (hv := (exec_neq_int (n := (s.t.length : Int)) (m := (u.t.length : Int)) rfl (hid e9))) ?_
 refine plan.line_same 69 _ (.bool false) rfl ?_
 refine plan.line_same 70 _ (.bool false) rfl ?_
 refine plan.line_same 71 _ (.pointer (some ⟨w.heap.size, 15, none⟩)) rfl ?_
 refine plan.line_same 72 _ (.slice la s.l.length lc) rfl (hv := (exec_cell_slice (ad := ⟨w.heap.size, 15, none⟩) rfl (HZ0s.out.cell 15) Tryz.isAgg30)) ?_
 refine plan.line_same 73 _ (.int .i64 (s.l.length : Int)) rfl ?_
 refine plan.line_same 74 _ (.pointer (some ⟨w.heap.size + 1, 15, none⟩)) rfl ?_
 refine plan.line_same 75 _ (.slice va u.l.length vc) rfl (hv := (exec_cell_slice (ad := ⟨w.heap.size + 1, 15, none⟩) rfl (HZ0u.out.cell 15) Tryz.isAgg30)) ?_
 refine plan.line_same 76 _ (.int .i64 (u.l.length : Int)) rfl ?_
 refine plan.line_same 77 _ (.bool false) rfl (hv := (exec_neq_int (n := (s.l.length : Int)) (m := (u.l.length : Int)) rfl (hid e10))) ?_
 refine plan.line_same 78 _ (.bool false) rfl ?_
 refine plan.line_done (by decide) ?_
 walk_nrm
 go_wp2
 clear d0 e0 d1 e1 d2 e2 d3 e3 d4 e4 d5 e5 d6 e6 hnf hgf hnv hgv d9 e9 d10 e10
 go_loopw [5] (fun n wr => ∃ k : Nat, k ≤ s.t.length ∧ n = .int .i64 (k : Int) ∧ Hid (s.t.take k = u.t.take k) ∧ Hid (Below W0.heap.size W0 wr)) (fun n _ => s.t.length - (intOf n).toNat)
 case atStart => exact ⟨0, Nat.zero_le _, rfl, hid rfl, hid (Below.refl _ _)⟩
 case round =>
  obtain ⟨k, hk, rfl, HEQ, HB⟩ := hrel
  have z14 := (HZ.out _ HB.out).1.cell 14
  have y14 := (HZ.out _ HB.out).2.cell 14
  by_cases hlt : k < s.t.length
  ·obtain ⟨g, off, p, hg, hbl, hp, c0⟩ := int_at HL1.out.t HB.out hlt
   obtain ⟨g', off', q, hg', hbl', hq, c1⟩ := int_at HL2.out.t HB.out (k := k) (by rw [← HLT.out]; exact hlt)
   have HS := hid (eq_take_succ hp hq)
   have HNE := hid (fun (hpq : ¬ p = q) => show ¬ s.t = u.t from fun e => by rw [e] at hp; exact hpq (Option.some.inj (hp.symm.trans hq)))
   have i1 : (k : Int) < s.t.length := by omega
   have i2 : (k : Int) < u.t.length := by have := HLT.out; omega
   replace z14 : (World.cell? _ ⟨w.heap.size, 14, none⟩) = some (.slice (some ⟨g, off, none⟩) s.t.length tc) := z14.trans (by rw [← hg]; rfl)
   replace y14 : (World.cell? _ ⟨w.heap.size + 1, 14, none⟩) = some (.slice (some ⟨g', off', none⟩) u.t.length uc) := y14.trans (by rw [← hg']; rfl)
   clear hp hq hg hg'
   by_cases hpq : p = q
   ·have HPQ := hid hpq
    have hd : (p == q) = true := by rw [beq_iff_eq]; exact hpq
    have hd2 : (p != q) = false := by simp [hpq]
    clear hpq
    go_wp2
    go_quiet (fail)
    go_wp2
    exact ⟨⟨k + 1, by omega, by go_num, hid (HS.out.2 ⟨HEQ.out, HPQ.out⟩), hid (below_drewN HB.out _)⟩, by simp [intOf]; omega⟩
   ·obtain rfl : false = r := by rw [← hr.out]; exact (decide_eq_false (fun e => HNE.out hpq (sp_eq.1 e).2.2.2.1)).symm
    have hd : (p == q) = false := by rw [beq_eq_false_iff_ne]; exact hpq
    have hd2 : (p != q) = true := by simp [hpq]
    clear hpq
    go_wp2
    go_quiet (fail)
    go_wp2
    go_ret
    exact ⟨rfl, below_drewN (HB0.out.trans (HB.out.mono HB0.out.size)) _⟩
  ·obtain rfl : k = s.t.length := by omega
   have HT9 : Hid (s.t = u.t) := hid (by
    have := HEQ.out
    rw [List.take_of_length_le (Nat.le_refl _), List.take_of_length_le (by rw [HLT.out]; exact Nat.le_refl _)] at this
    exact this)
   clear y14 HEQ
   go_wp2
   clear z14
   rename_i wr0
   go_loopw [6] (fun n wr => ∃ k : Nat, k ≤ s.l.length ∧ n = .int .i64 (k : Int) ∧ Hid (s.l.take k = u.l.take k) ∧ Hid (Below W0.heap.size W0 wr)) (fun n _ => s.l.length - (intOf n).toNat)
   case atStart => exact ⟨0, Nat.zero_le _, rfl, hid rfl, HB⟩
   case round =>
    obtain ⟨k, hk, rfl, HEQ, HB⟩ := hrel
    have z15 := (HZ.out _ HB.out).1.cell 15
    have y15 := (HZ.out _ HB.out).2.cell 15
    by_cases hlt : k < s.l.length
    ·obtain ⟨g, off, p, hg, hbl, hp, c0, c1, c2, c3, c4⟩ := field_at HL1.out.l HB.out hlt
     obtain ⟨g', off', q, hg', hbl', hq, a0, a1, a2, a3, a4⟩ := field_at HL2.out.l HB.out (k := k) (by rw [← HLL.out]; exact hlt)
     have HS := hid (eq_take_succ hp hq)
     have HNE := hid (fun (hpq : ¬ p = q) => show ¬ s.l = u.l from fun e => by rw [e] at hp; exact hpq (Option.some.inj (hp.symm.trans hq)))
     have i1 : (k : Int) < s.l.length := by omega
     have i2 : (k : Int) < u.l.length := by have := HLL.out; omega
     replace z15 : (World.cell? _ ⟨w.heap.size, 15, none⟩) = some (.slice (some ⟨g, off, none⟩) s.l.length lc) := z15.trans (by rw [← hg]; rfl)
     replace y15 : (World.cell? _ ⟨w.heap.size + 1, 15, none⟩) = some (.slice (some ⟨g', off', none⟩) u.l.length vc) := y15.trans (by rw [← hg']; rfl)
     have hne := fun W => neq_fd p q W
     clear hp hq hg hg'
     by_cases hpq : p = q
     ·have HPQ := hid hpq
      rw [decide_eq_true hpq] at hne
      clear hpq
      go_wp2
      go_quiet (fail)
      go_wp2
      exact ⟨⟨k + 1, by omega, by go_num, hid (HS.out.2 ⟨HEQ.out, HPQ.out⟩), hid (below_drewN HB.out _)⟩, by simp [intOf]; omega⟩
     ·obtain rfl : false = r := by rw [← hr.out]; exact (decide_eq_false (fun e => HNE.out hpq (sp_eq.1 e).2.2.2.2)).symm
      rw [decide_eq_false hpq] at hne
      clear hpq
      go_wp2
      go_quiet (fail)
      go_wp2
      go_ret
      exact ⟨rfl, below_drewN (HB0.out.trans (HB.out.mono HB0.out.size)) _⟩
    ·obtain rfl : k = s.l.length := by omega
     obtain rfl : true = r := by
      rw [← hr.out]
      have := HEQ.out
      rw [List.take_of_length_le (Nat.le_refl _), List.take_of_length_le (by rw [HLL.out]; exact Nat.le_refl _)] at this
      exact (decide_eq_true (sp_eq.2 ⟨⟨H0.out, H1.out, H2.out, H3.out, H4.out, H5.out, H6.out⟩, H7.out, H8.out, HT9.out, this⟩)).symm
     go_wp2
     go_ret
     exact ⟨rfl, HB0.out.trans (HB.out.mono HB0.out.size)⟩
end Go.Proofs.YtaciegkblklokaaGreat.step
