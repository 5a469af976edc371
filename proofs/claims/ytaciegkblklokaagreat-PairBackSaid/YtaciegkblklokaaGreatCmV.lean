/- Contracts and lemmas that the claims of this seat share: StepRefRight, StepRightB, TypingRefOn. Each says its own conditions. -/
import Derived.Test.YtaciegkblklokaaGreatCmR
import Derived.Test.YtaciegkblklokaaGreatCmU
import Derived.Test.YtaciegkblklokaaGreatCmG
import Derived.Test.YtaciegkblklokaaGreatCmQ
import Derived.Test.YtaciegkblklokaaGreatCmS
import Derived.Test.YtaciegkblklokaaGreatCmT
set_option linter.unusedSimpArgs false
set_option linter.unusedVariables false
namespace Go.Proofs.YtaciegkblklokaaGreat.step
open Go.RowKit
open Go.Proofs.YtaciegkblklokaaGreat.field (Gives newB gives_from)
open Go.Proofs.YtaciegkblklokaaGreat.schema (below_out exec_two exec_load_at exec_cell_slice exec_cell_int exec_neq_int exec_gtr_int info_fd)
theorem eq_uses (op : Int) (w : World) : (binOp .eql 9 (.string (usesS op)) (.string ⟨#[]⟩)).run Tryz.prog w = .ok (.bool (decide (uses op = []))) w := by
 have h : (usesS op).toList = uses op := texts.strL_toList _
 have h0 : (⟨#[]⟩ : ByteArray).toList = [] := by rw [ByteArray.toList_eq]
 go_simp
 cases uses op <;> simp
def Sp.numsB (s : Sp) : Bool :=
 if (s.op == 4 || s.op == 24) = true then (decide (-1048576 ≤ s.a ∧ s.a ≤ 1048576) && s.a != 0) && decide (-1099511627776 ≤ s.b ∧ s.b ≤ 1099511627776)
 else if (s.op == 6 || s.op == 26) = true then decide (2 ≤ s.a ∧ s.a ≤ 1048576) else if (s.op == 5) = true then decide (1 ≤ s.a ∧ s.a ≤ 1000) && decide (Table s.t s.a) else if (s.op == 25) = true then decide (Table s.t 1000) else true
set_option maxRecDepth 20000 in
set_option maxHeartbeats 6400000 in
theorem refNums_any (s : Sp) (ta : Option Addr) (tc : Nat) (la : Option Addr) (lc : Nat) (w : World) (h : Lists w s ta la) : Calls Tryz.prog 30 #[zP s ta tc la lc] w (Gives (.bool s.numsB) w) := by
 have HZ : Hid (∀ w', Below (w.alloc (.cells (zP s ta tc la lc) 32)).heap.size (w.alloc (.cells (zP s ta tc la lc) 32)) w' → Block w' w.heap.size 32 (zP s ta tc la lc)) := hid (fun w' hb => (Block.new w 32 (zP s ta tc la lc)).later hb)
 have HL := hid (h.below (newB w (.cells (zP s ta tc la lc) 32)))
 have HB0 := hid (newB w (.cells (zP s ta tc la lc) 32))
 obtain ⟨W0, hW0⟩ : ∃ x, (w.alloc (.cells (zP s ta tc la lc) 32)) = x := ⟨_, rfl⟩
 have HW0 := hid hW0
 rw [hW0] at HZ HL HB0
 clear h hW0
 unfold Gives
 go_enter Tryz.func30, Tryz.ntmps30
 go_upto_region 1 with fail
 rw [HW0.out]
 have hS0 : Below W0.heap.size W0 W0 := Below.refl _ _
 refine plan.line ?_
 refine plan.line_same 0 _ (.pointer (some ⟨w.heap.size, 0, none⟩)) rfl ?_
 refine plan.line_same 1 _ (.int .i64 s.op) rfl (hv := (exec_cell_int (ad := ⟨w.heap.size, 0, none⟩) rfl (by kernel_rfl) ((HZ.out _ hS0).cell 0) Tryz.isAgg3)) ?_
 refine plan.line_same 2 _ (.bool (s.op == 4)) rfl (hv := (exec_eql_int (n := s.op) (m := 4) rfl)) ?_
 refine plan.line_same 3 _ (.bool (s.op == 4)) rfl ?_
 refine plan.sym_op 4 3 _ false (.bool (s.op == 4)) (.pointer (some ⟨w.heap.size, 0, none⟩)) rfl rfl (fun K => (by kernel_rfl)) ?_
 intro xa4 ha4
 refine plan.sym_op 5 3 _ false (.bool (s.op == 4)) (.int .i64 s.op) rfl rfl (fun K => by have e := ha4 K; subst e; exact (exec_cell_int (ad := ⟨w.heap.size, 0, none⟩) rfl (by kernel_rfl) ((HZ.out _ hS0).cell 0) Tryz.isAgg3)) ?_
 intro xa5 ha5
 refine plan.sym_op 6 3 _ false (.bool (s.op == 4)) (.bool (s.op == 24)) rfl rfl (fun K => by have e := ha5 K; subst e; exact (exec_eql_int (n := s.op) (m := 24) rfl)) ?_
 intro xa6 ha6
 obtain ⟨k1, hk1⟩ : ∃ q, Hid (((s.op == 4) || (s.op == 24)) = q) := ⟨_, hid rfl⟩
 refine plan.line_same 7 _ (.bool k1) rfl (hv := (plan.exec_as (plan.exec_pick_or (c := (s.op == 4)) (e := (s.op == 24)) rfl (fun q => Eq.trans (b := xa6) (by kernel_rfl) (ha6 (by rw [q])))) hk1.out)) ?_
 cases k1
 rotate_left
 ·skip
  refine plan.line_done (by decide) ?_
  walk_nrm
  go_upto_region 2 with fail
  refine plan.line ?_
  refine plan.line_same 0 _ (.pointer (some ⟨w.heap.size, 5, none⟩)) rfl ?_
  refine plan.line_same 1 _ (.int .i64 s.a) rfl (hv := (exec_cell_int (ad := ⟨w.heap.size, 5, none⟩) rfl (by kernel_rfl) ((HZ.out _ hS0).cell 5) Tryz.isAgg3)) ?_
  refine plan.call_S 2 _ (.bool (decide ((-1048576) ≤ s.a ∧ s.a ≤ 1048576))) 29 #[.int .i64 s.a, .int .i64 (-1048576), .int .i64 1048576] (fun w' => Below W0.heap.size W0 w') rfl (gives_from (between_any s.a (-1048576) 1048576 W0) hS0) ?_
  intro wb2 hSb2
  refine plan.line_same 3 _ (.bool (decide ((-1048576) ≤ s.a ∧ s.a ≤ 1048576))) rfl ?_
  refine plan.sym_op 4 3 _ true (.bool (decide ((-1048576) ≤ s.a ∧ s.a ≤ 1048576))) (.pointer (some ⟨w.heap.size, 5, none⟩)) rfl rfl (fun K => (by kernel_rfl)) ?_
  intro xb4 hb4
  refine plan.sym_op 5 3 _ true (.bool (decide ((-1048576) ≤ s.a ∧ s.a ≤ 1048576))) (.int .i64 s.a) rfl rfl (fun K => by have e := hb4 K; subst e; exact (exec_cell_int (ad := ⟨w.heap.size, 5, none⟩) rfl (by kernel_rfl) ((HZ.out _ hSb2).cell 5) Tryz.isAgg3)) ?_
  intro xb5 hb5
  refine plan.sym_op 6 3 _ true (.bool (decide ((-1048576) ≤ s.a ∧ s.a ≤ 1048576))) (.bool (s.a != 0)) rfl rfl (fun K => by have e := hb5 K; subst e; exact (exec_neq_int (n := s.a) (m := 0) rfl (hid rfl))) ?_
  intro xb6 hb6
  refine plan.line_same 7 _ (.bool ((decide ((-1048576) ≤ s.a ∧ s.a ≤ 1048576)) && (s.a != 0))) rfl (hv := (plan.exec_pick_and (c := (decide ((-1048576) ≤ s.a ∧ s.a ≤ 1048576))) (e := (s.a != 0)) rfl (fun q => Eq.trans (b := xb6) (by kernel_rfl) (hb6 (by rw [q]))))) ?_
  refine plan.line_same 8 _ (.bool ((decide ((-1048576) ≤ s.a ∧ s.a ≤ 1048576)) && (s.a != 0))) rfl ?_
  refine plan.sym_op 9 8 _ true (.bool ((decide ((-1048576) ≤ s.a ∧ s.a ≤ 1048576)) && (s.a != 0))) (.pointer (some ⟨w.heap.size, 6, none⟩)) rfl rfl (fun K => (by kernel_rfl)) ?_
  intro xb9 hb9
  refine plan.sym_op 10 8 _ true (.bool ((decide ((-1048576) ≤ s.a ∧ s.a ≤ 1048576)) && (s.a != 0))) (.int .i64 s.b) rfl rfl (fun K => by have e := hb9 K; subst e; exact (exec_cell_int (ad := ⟨w.heap.size, 6, none⟩) rfl (by kernel_rfl) ((HZ.out _ hSb2).cell 6) Tryz.isAgg3)) ?_
  intro xb10 hb10
  refine plan.sym_call 11 8 _ true (.bool ((decide ((-1048576) ≤ s.a ∧ s.a ≤ 1048576)) && (s.a != 0))) (.bool (decide ((-1099511627776) ≤ s.b ∧ s.b ≤ 1099511627776))) 29 #[.int .i64 s.b, .int .i64 (-1099511627776), .int .i64 1099511627776] (fun w' => Below W0.heap.size W0 w') rfl rfl hSb2 (fun K => by have e := hb10 K; subst e; show _ = _; kernel_rfl) (fun K => gives_from (between_any s.b (-1099511627776) 1099511627776 wb2) hSb2) ?_
  intro xb11 wb11 hSb11 hb11
  refine plan.line_same 12 _ (.bool (((decide ((-1048576) ≤ s.a ∧ s.a ≤ 1048576)) && (s.a != 0)) && (decide ((-1099511627776) ≤ s.b ∧ s.b ≤ 1099511627776)))) rfl (hv := (plan.exec_pick_and (c := ((decide ((-1048576) ≤ s.a ∧ s.a ≤ 1048576)) && (s.a != 0))) (e := (decide ((-1099511627776) ≤ s.b ∧ s.b ≤ 1099511627776))) rfl (fun q => Eq.trans (b := xb11) (by kernel_rfl) (hb11 (by rw [q]))))) ?_
  refine plan.line_same 13 _ (.bool (((decide ((-1048576) ≤ s.a ∧ s.a ≤ 1048576)) && (s.a != 0)) && (decide ((-1099511627776) ≤ s.b ∧ s.b ≤ 1099511627776)))) rfl ?_
  refine plan.line_done (by decide) ?_
  walk_nrm
  go_wp2
  go_ret
  exact ⟨by unfold Sp.numsB; rw [if_pos hk1.out]; rfl, HB0.out.trans (hSb11.mono HB0.out.size)⟩
 refine plan.line_done (by decide) ?_
 walk_nrm
 go_upto_region 3 with fail
 refine plan.line ?_
 refine plan.line_same 0 _ (.pointer (some ⟨w.heap.size, 0, none⟩)) rfl ?_
 refine plan.line_same 1 _ (.int .i64 s.op) rfl (hv := (exec_cell_int (ad := ⟨w.heap.size, 0, none⟩) rfl (by kernel_rfl) ((HZ.out _ hS0).cell 0) Tryz.isAgg3)) ?_
 refine plan.line_same 2 _ (.bool (s.op == 6)) rfl (hv := (exec_eql_int (n := s.op) (m := 6) rfl)) ?_
 refine plan.line_same 3 _ (.bool (s.op == 6)) rfl ?_
 refine plan.sym_op 4 3 _ false (.bool (s.op == 6)) (.pointer (some ⟨w.heap.size, 0, none⟩)) rfl rfl (fun K => (by kernel_rfl)) ?_
 intro xc4 hc4
 refine plan.sym_op 5 3 _ false (.bool (s.op == 6)) (.int .i64 s.op) rfl rfl (fun K => by have e := hc4 K; subst e; exact (exec_cell_int (ad := ⟨w.heap.size, 0, none⟩) rfl (by kernel_rfl) ((HZ.out _ hS0).cell 0) Tryz.isAgg3)) ?_
 intro xc5 hc5
 refine plan.sym_op 6 3 _ false (.bool (s.op == 6)) (.bool (s.op == 26)) rfl rfl (fun K => by have e := hc5 K; subst e; exact (exec_eql_int (n := s.op) (m := 26) rfl)) ?_
 intro xc6 hc6
 obtain ⟨k2, hk2⟩ : ∃ q, Hid (((s.op == 6) || (s.op == 26)) = q) := ⟨_, hid rfl⟩
 refine plan.line_same 7 _ (.bool k2) rfl (hv := (plan.exec_as (plan.exec_pick_or (c := (s.op == 6)) (e := (s.op == 26)) rfl (fun q => Eq.trans (b := xc6) (by kernel_rfl) (hc6 (by rw [q])))) hk2.out)) ?_
 cases k2
 rotate_left
 ·skip
  refine plan.line_done (by decide) ?_
  walk_nrm
  go_upto_region 4 with fail
  refine plan.line ?_
  refine plan.line_same 0 _ (.pointer (some ⟨w.heap.size, 5, none⟩)) rfl ?_
  refine plan.line_same 1 _ (.int .i64 s.a) rfl (hv := (exec_cell_int (ad := ⟨w.heap.size, 5, none⟩) rfl (by kernel_rfl) ((HZ.out _ hS0).cell 5) Tryz.isAgg3)) ?_
  refine plan.call_S 2 _ (.bool (decide (2 ≤ s.a ∧ s.a ≤ 1048576))) 29 #[.int .i64 s.a, .int .i64 2, .int .i64 1048576] (fun w' => Below W0.heap.size W0 w') rfl (gives_from (between_any s.a 2 1048576 W0) hS0) ?_
  intro wd2 hSd2
  refine plan.line_same 3 _ (.bool (decide (2 ≤ s.a ∧ s.a ≤ 1048576))) rfl ?_
  refine plan.line_done (by decide) ?_
  walk_nrm
  go_wp2
  go_ret
  exact ⟨by unfold Sp.numsB; rw [if_neg (by rw [hk1.out]; simp), if_pos hk2.out]; rfl, HB0.out.trans (hSd2.mono HB0.out.size)⟩
 refine plan.line_done (by decide) ?_
 walk_nrm
 go_upto_region 5 with fail
 refine plan.line ?_
 refine plan.line_same 0 _ (.pointer (some ⟨w.heap.size, 0, none⟩)) rfl ?_
 refine plan.line_same 1 _ (.int .i64 s.op) rfl (hv := (exec_cell_int (ad := ⟨w.heap.size, 0, none⟩) rfl (by kernel_rfl) ((HZ.out _ hS0).cell 0) Tryz.isAgg3)) ?_
 obtain ⟨k3, hk3⟩ : ∃ q, Hid ((s.op == 5) = q) := ⟨_, hid rfl⟩
 refine plan.line_same 2 _ (.bool k3) rfl (hv := (plan.exec_as (exec_eql_int (n := s.op) (m := 5) rfl) hk3.out)) ?_
 cases k3
 rotate_left
 ·skip
  refine plan.line_done (by decide) ?_
  walk_nrm
  go_upto_region 6 with fail
  refine plan.line ?_
  refine plan.line_same 0 _ (.pointer (some ⟨w.heap.size, 5, none⟩)) rfl ?_
  refine plan.line_same 1 _ (.int .i64 s.a) rfl (hv := (exec_cell_int (ad := ⟨w.heap.size, 5, none⟩) rfl (by kernel_rfl) ((HZ.out _ hS0).cell 5) Tryz.isAgg3)) ?_
  refine plan.call_S 2 _ (.bool (decide (1 ≤ s.a ∧ s.a ≤ 1000))) 29 #[.int .i64 s.a, .int .i64 1, .int .i64 1000] (fun w' => Below W0.heap.size W0 w') rfl (gives_from (between_any s.a 1 1000 W0) hS0) ?_
  intro wf2 hSf2
  refine plan.line_same 3 _ (.bool (decide (1 ≤ s.a ∧ s.a ≤ 1000))) rfl ?_
  refine plan.sym_op 4 3 _ true (.bool (decide (1 ≤ s.a ∧ s.a ≤ 1000))) (.pointer (some ⟨w.heap.size, 14, none⟩)) rfl rfl (fun K => (by kernel_rfl)) ?_
  intro xf4 hf4
  refine plan.sym_op 5 3 _ true (.bool (decide (1 ≤ s.a ∧ s.a ≤ 1000))) (.slice ta s.t.length tc) rfl rfl (fun K => by have e := hf4 K; subst e; exact (exec_cell_slice (ad := ⟨w.heap.size, 14, none⟩) rfl ((HZ.out _ hSf2).cell 14) Tryz.isAgg29)) ?_
  intro xf5 hf5
  refine plan.sym_op 6 3 _ true (.bool (decide (1 ≤ s.a ∧ s.a ≤ 1000))) (.pointer (some ⟨w.heap.size, 5, none⟩)) rfl rfl (fun K => (by kernel_rfl)) ?_
  intro xf6 hf6
  refine plan.sym_op 7 3 _ true (.bool (decide (1 ≤ s.a ∧ s.a ≤ 1000))) (.int .i64 s.a) rfl rfl (fun K => by have e := hf6 K; subst e; exact (exec_cell_int (ad := ⟨w.heap.size, 5, none⟩) rfl (by kernel_rfl) ((HZ.out _ hSf2).cell 5) Tryz.isAgg3)) ?_
  intro xf7 hf7
  refine plan.sym_call 8 3 _ true (.bool (decide (1 ≤ s.a ∧ s.a ≤ 1000))) (.bool (decide (Table s.t s.a))) 53 #[.slice ta s.t.length tc, .int .i64 s.a] (fun w' => Below W0.heap.size W0 w') rfl rfl hSf2 (fun K => by have e := hf5 K; subst e; have e := hf7 K; subst e; show _ = _; kernel_rfl) (fun K => gives_from (refTable_any ta tc s.t s.a (of_decide_eq_true (Value.bool.inj K)).1 (of_decide_eq_true (Value.bool.inj K)).2 wf2 ((HL.out.below hSf2).t) HL.out.mt) hSf2) ?_
  intro xf8 wf8 hSf8 hf8
  refine plan.line_same 9 _ (.bool ((decide (1 ≤ s.a ∧ s.a ≤ 1000)) && (decide (Table s.t s.a)))) rfl (hv := (plan.exec_pick_and (c := (decide (1 ≤ s.a ∧ s.a ≤ 1000))) (e := (decide (Table s.t s.a))) rfl (fun q => Eq.trans (b := xf8) (by kernel_rfl) (hf8 (by rw [q]))))) ?_
  refine plan.line_same 10 _ (.bool ((decide (1 ≤ s.a ∧ s.a ≤ 1000)) && (decide (Table s.t s.a)))) rfl ?_
  refine plan.line_done (by decide) ?_
  walk_nrm
  go_wp2
  go_ret
  exact ⟨by unfold Sp.numsB; rw [if_neg (by rw [hk1.out]; simp), if_neg (by rw [hk2.out]; simp), if_pos hk3.out]; rfl, HB0.out.trans (hSf8.mono HB0.out.size)⟩
 refine plan.line_done (by decide) ?_
 walk_nrm
 go_upto_region 7 with fail
 refine plan.line ?_
 refine plan.line_same 0 _ (.pointer (some ⟨w.heap.size, 0, none⟩)) rfl ?_
 refine plan.line_same 1 _ (.int .i64 s.op) rfl (hv := (exec_cell_int (ad := ⟨w.heap.size, 0, none⟩) rfl (by kernel_rfl) ((HZ.out _ hS0).cell 0) Tryz.isAgg3)) ?_
 obtain ⟨k4, hk4⟩ : ∃ q, Hid ((s.op == 25) = q) := ⟨_, hid rfl⟩
 refine plan.line_same 2 _ (.bool k4) rfl (hv := (plan.exec_as (exec_eql_int (n := s.op) (m := 25) rfl) hk4.out)) ?_
 cases k4
 rotate_left
 ·skip
  refine plan.line_done (by decide) ?_
  walk_nrm
  go_upto_region 8 with fail
  refine plan.line ?_
  refine plan.line_same 0 _ (.pointer (some ⟨w.heap.size, 14, none⟩)) rfl ?_
  refine plan.line_same 1 _ (.slice ta s.t.length tc) rfl (hv := (exec_cell_slice (ad := ⟨w.heap.size, 14, none⟩) rfl ((HZ.out _ hS0).cell 14) Tryz.isAgg29)) ?_
  refine plan.call_S 2 _ (.bool (decide (Table s.t 1000))) 53 #[.slice ta s.t.length tc, .int .i64 1000] (fun w' => Below W0.heap.size W0 w') rfl (gives_from (refTable_any ta tc s.t 1000 (by omega) (by omega) W0 ((HL.out.below hS0).t) HL.out.mt) hS0) ?_
  intro wi2 hSi2
  refine plan.line_same 3 _ (.bool (decide (Table s.t 1000))) rfl ?_
  refine plan.line_done (by decide) ?_
  walk_nrm
  go_wp2
  go_ret
  exact ⟨by unfold Sp.numsB; rw [if_neg (by rw [hk1.out]; simp), if_neg (by rw [hk2.out]; simp), if_neg (by rw [hk3.out]; simp), if_pos hk4.out]; rfl, HB0.out.trans (hSi2.mono HB0.out.size)⟩
 refine plan.line_done (by decide) ?_
 walk_nrm
 go_wp2
 go_ret
 exact ⟨by unfold Sp.numsB; rw [if_neg (by rw [hk1.out]; simp), if_neg (by rw [hk2.out]; simp), if_neg (by rw [hk3.out]; simp), if_neg (by rw [hk4.out]; simp)]; rfl, HB0.out.trans (hS0.mono HB0.out.size)⟩
def Sp.no1 (s : Sp) : Bool := ((((((decide (uses s.op = []) || !s.zeroB) || !decide (0 ≤ s.fm ∧ s.fm ≤ 200)) || !decide (0 ≤ s.fd ∧ s.fd ≤ 255)) || !decide (0 ≤ s.pl ∧ s.pl ≤ 8)) || !decide (0 ≤ s.tt ∧ s.tt ≤ 255)) || !s.numsB)
def Sp.no2 (s : Sp) : Bool := (HasC s.op 116 && (s.tt == s.fd)) || (HasC s.op 70 && !decide s.f.Right)
def Sp.no3 (s : Sp) : Bool := (HasC s.op 70 && HasC s.op 100) && (s.f.id != s.fd)
def Sp.no4 (s : Sp) : Bool := (s.op == 2) && (!decide (-1099511627776 ≤ s.v.n ∧ s.v.n ≤ 1099511627776) || decide ((s.v.s.size : Int) > 32))
def Sp.no5 (s : Sp) : Bool := (HasC s.op 112 && HasC s.op 86) && !decide (s.f.Has s.v)
def Sp.yes6 (s : Sp) : Bool := !HasC s.op 76 || decide (schema.Fine (s.fm, s.l))
def Sp.rightB (s : Sp) : Bool := !s.no1 && !s.no2 && !s.no3 && !s.no4 && !s.no5 && s.yes6
set_option maxRecDepth 20000 in
set_option maxHeartbeats 12800000 in
theorem refRightB_any (s : Sp) (ta : Option Addr) (tc : Nat) (la : Option Addr) (lc : Nat) (w : World) (h : Lists w s ta la) : Calls Tryz.prog 18 #[zP s ta tc la lc] w (Gives (.bool s.rightB) w) := by
 have HZ : Hid (∀ w', Below (w.alloc (.cells (zP s ta tc la lc) 32)).heap.size (w.alloc (.cells (zP s ta tc la lc) 32)) w' → Block w' w.heap.size 32 (zP s ta tc la lc)) := hid (fun w' hb => (Block.new w 32 (zP s ta tc la lc)).later hb)
 have HL := hid (h.below (newB w (.cells (zP s ta tc la lc) 32)))
 have HB0 := hid (newB w (.cells (zP s ta tc la lc) 32))
 obtain ⟨W0, hW0⟩ : ∃ x, (w.alloc (.cells (zP s ta tc la lc) 32)) = x := ⟨_, rfl⟩
 have HW0 := hid hW0
 rw [hW0] at HZ HL HB0
 clear h hW0
 unfold Gives
 go_enter Tryz.func18, Tryz.ntmps18
 go_upto_region 1 with fail
 rw [HW0.out]
 have hS0 : Below W0.heap.size W0 W0 := Below.refl _ _
 refine plan.line ?_
 refine plan.line_same 0 _ (.pointer (some ⟨w.heap.size, 0, none⟩)) rfl ?_
 refine plan.line_same 1 _ (.int .i64 s.op) rfl (hv := (exec_cell_int (ad := ⟨w.heap.size, 0, none⟩) rfl (by kernel_rfl) ((HZ.out _ hS0).cell 0) Tryz.isAgg3)) ?_
 refine plan.call_S 2 _ (.string (usesS s.op)) 27 #[.int .i64 s.op] (fun w' => Below W0.heap.size W0 w') rfl (gives_from (uses_any s.op W0) hS0) ?_
 intro wa2 hSa2
 refine plan.line_same 3 _ (.bool (decide (uses s.op = []))) rfl (hv := (exec_two rfl (by simp [go_sem]) (eq_uses s.op _))) ?_
 refine plan.line_same 4 _ (.bool (decide (uses s.op = []))) rfl ?_
 refine plan.sym_op 5 4 _ false (.bool (decide (uses s.op = []))) (zP s ta tc la lc) rfl rfl (fun K => (exec_load_at (b := w.heap.size) (off := 0) rfl (HZ.out _ hSa2).whole Tryz.underlying32 rfl info_st.out)) ?_
 intro xa5 ha5
 refine plan.sym_call 6 4 _ false (.bool (decide (uses s.op = []))) (.bool s.zeroB) 28 #[zP s ta tc la lc] (fun w' => Below W0.heap.size W0 w') rfl rfl hSa2 (fun K => by have e := ha5 K; subst e; show _ = _; kernel_rfl) (fun K => gives_from (refZero_any s ta tc la lc wa2 (HL.out.below hSa2)) hSa2) ?_
 intro xa6 wa6 hSa6 ha6
 refine plan.sym_op 7 4 _ false (.bool (decide (uses s.op = []))) (.bool (!s.zeroB)) rfl rfl (fun K => by have e := ha6 K; subst e; show _ = _; kernel_rfl) ?_
 intro xa7 ha7
 refine plan.line_same 8 _ (.bool ((decide (uses s.op = [])) || (!s.zeroB))) rfl (hv := (plan.exec_pick_or (c := (decide (uses s.op = []))) (e := (!s.zeroB)) rfl (fun q => Eq.trans (b := xa7) (by kernel_rfl) (ha7 (by rw [q]))))) ?_
 refine plan.line_same 9 _ (.bool ((decide (uses s.op = [])) || (!s.zeroB))) rfl ?_
 refine plan.sym_op 10 9 _ false (.bool ((decide (uses s.op = [])) || (!s.zeroB))) (.pointer (some ⟨w.heap.size, 1, none⟩)) rfl rfl (fun K => (by kernel_rfl)) ?_
 intro xa10 ha10
 refine plan.sym_op 11 9 _ false (.bool ((decide (uses s.op = [])) || (!s.zeroB))) (.int .i64 s.fm) rfl rfl (fun K => by have e := ha10 K; subst e; exact (exec_cell_int (ad := ⟨w.heap.size, 1, none⟩) rfl (by kernel_rfl) ((HZ.out _ hSa6).cell 1) Tryz.isAgg3)) ?_
 intro xa11 ha11
 refine plan.sym_call 12 9 _ false (.bool ((decide (uses s.op = [])) || (!s.zeroB))) (.bool (decide (0 ≤ s.fm ∧ s.fm ≤ 200))) 29 #[.int .i64 s.fm, .int .i64 0, .int .i64 200] (fun w' => Below W0.heap.size W0 w') rfl rfl hSa6 (fun K => by have e := ha11 K; subst e; show _ = _; kernel_rfl) (fun K => gives_from (between_any s.fm 0 200 wa6) hSa6) ?_
 intro xa12 wa12 hSa12 ha12
 refine plan.sym_op 13 9 _ false (.bool ((decide (uses s.op = [])) || (!s.zeroB))) (.bool (!(decide (0 ≤ s.fm ∧ s.fm ≤ 200)))) rfl rfl (fun K => by have e := ha12 K; subst e; show _ = _; kernel_rfl) ?_
 intro xa13 ha13
 refine plan.line_same 14 _ (.bool (((decide (uses s.op = [])) || (!s.zeroB)) || (!(decide (0 ≤ s.fm ∧ s.fm ≤ 200))))) rfl (hv := (plan.exec_pick_or (c := ((decide (uses s.op = [])) || (!s.zeroB))) (e := (!(decide (0 ≤ s.fm ∧ s.fm ≤ 200)))) rfl (fun q => Eq.trans (b := xa13) (by kernel_rfl) (ha13 (by rw [q]))))) ?_
 refine plan.line_same 15 _ (.bool (((decide (uses s.op = [])) || (!s.zeroB)) || (!(decide (0 ≤ s.fm ∧ s.fm ≤ 200))))) rfl ?_
 refine plan.sym_op 16 15 _ false (.bool (((decide (uses s.op = [])) || (!s.zeroB)) || (!(decide (0 ≤ s.fm ∧ s.fm ≤ 200))))) (.pointer (some ⟨w.heap.size, 2, none⟩)) rfl rfl (fun K => (by kernel_rfl)) ?_
 intro xa16 ha16
 refine plan.sym_op 17 15 _ false (.bool (((decide (uses s.op = [])) || (!s.zeroB)) || (!(decide (0 ≤ s.fm ∧ s.fm ≤ 200))))) (.int .i64 s.fd) rfl rfl (fun K => by have e := ha16 K; subst e; exact (exec_cell_int (ad := ⟨w.heap.size, 2, none⟩) rfl (by kernel_rfl) ((HZ.out _ hSa12).cell 2) Tryz.isAgg3)) ?_
 intro xa17 ha17
 refine plan.sym_call 18 15 _ false (.bool (((decide (uses s.op = [])) || (!s.zeroB)) || (!(decide (0 ≤ s.fm ∧ s.fm ≤ 200))))) (.bool (decide (0 ≤ s.fd ∧ s.fd ≤ 255))) 29 #[.int .i64 s.fd, .int .i64 0, .int .i64 255] (fun w' => Below W0.heap.size W0 w') rfl rfl hSa12 (fun K => by have e := ha17 K; subst e; show _ = _; kernel_rfl) (fun K => gives_from (between_any s.fd 0 255 wa12) hSa12) ?_
 intro xa18 wa18 hSa18 ha18
 refine plan.sym_op 19 15 _ false (.bool (((decide (uses s.op = [])) || (!s.zeroB)) || (!(decide (0 ≤ s.fm ∧ s.fm ≤ 200))))) (.bool (!(decide (0 ≤ s.fd ∧ s.fd ≤ 255)))) rfl rfl (fun K => by have e := ha18 K; subst e; show _ = _; kernel_rfl) ?_
 intro xa19 ha19
 refine plan.line_same 20 _ (.bool ((((decide (uses s.op = [])) || (!s.zeroB)) || (!(decide (0 ≤ s.fm ∧ s.fm ≤ 200)))) || (!(decide (0 ≤ s.fd ∧ s.fd ≤ 255))))) rfl (hv := (plan.exec_pick_or (c := (((decide (uses s.op = [])) || (!s.zeroB)) || (!(decide (0 ≤ s.fm ∧ s.fm ≤ 200))))) (e := (!(decide (0 ≤ s.fd ∧ s.fd ≤ 255)))) rfl (fun q => Eq.trans (b := xa19) (by kernel_rfl) (ha19 (by rw [q]))))) ?_
 refine plan.line_same 21 _ (.bool ((((decide (uses s.op = [])) || (!s.zeroB)) || (!(decide (0 ≤ s.fm ∧ s.fm ≤ 200)))) || (!(decide (0 ≤ s.fd ∧ s.fd ≤ 255))))) rfl ?_
 refine plan.sym_op 22 21 _ false (.bool ((((decide (uses s.op = [])) || (!s.zeroB)) || (!(decide (0 ≤ s.fm ∧ s.fm ≤ 200)))) || (!(decide (0 ≤ s.fd ∧ s.fd ≤ 255))))) (.pointer (some ⟨w.heap.size, 3, none⟩)) rfl rfl (fun K => (by kernel_rfl)) ?_
 intro xa22 ha22
 refine plan.sym_op 23 21 _ false (.bool ((((decide (uses s.op = [])) || (!s.zeroB)) || (!(decide (0 ≤ s.fm ∧ s.fm ≤ 200)))) || (!(decide (0 ≤ s.fd ∧ s.fd ≤ 255))))) (.int .i64 s.pl) rfl rfl (fun K => by have e := ha22 K; subst e; exact (exec_cell_int (ad := ⟨w.heap.size, 3, none⟩) rfl (by kernel_rfl) ((HZ.out _ hSa18).cell 3) Tryz.isAgg3)) ?_
 intro xa23 ha23
 refine plan.sym_call 24 21 _ false (.bool ((((decide (uses s.op = [])) || (!s.zeroB)) || (!(decide (0 ≤ s.fm ∧ s.fm ≤ 200)))) || (!(decide (0 ≤ s.fd ∧ s.fd ≤ 255))))) (.bool (decide (0 ≤ s.pl ∧ s.pl ≤ 8))) 29 #[.int .i64 s.pl, .int .i64 0, .int .i64 8] (fun w' => Below W0.heap.size W0 w') rfl rfl hSa18 (fun K => by have e := ha23 K; subst e; show _ = _; kernel_rfl) (fun K => gives_from (between_any s.pl 0 8 wa18) hSa18) ?_
 intro xa24 wa24 hSa24 ha24
 refine plan.sym_op 25 21 _ false (.bool ((((decide (uses s.op = [])) || (!s.zeroB)) || (!(decide (0 ≤ s.fm ∧ s.fm ≤ 200)))) || (!(decide (0 ≤ s.fd ∧ s.fd ≤ 255))))) (.bool (!(decide (0 ≤ s.pl ∧ s.pl ≤ 8)))) rfl rfl (fun K => by have e := ha24 K; subst e; show _ = _; kernel_rfl) ?_
 intro xa25 ha25
 refine plan.line_same 26 _ (.bool (((((decide (uses s.op = [])) || (!s.zeroB)) || (!(decide (0 ≤ s.fm ∧ s.fm ≤ 200)))) || (!(decide (0 ≤ s.fd ∧ s.fd ≤ 255)))) || (!(decide (0 ≤ s.pl ∧ s.pl ≤ 8))))) rfl (hv := (plan.exec_pick_or (c := ((((decide (uses s.op = [])) || (!s.zeroB)) || (!(decide (0 ≤ s.fm ∧ s.fm ≤ 200)))) || (!(decide (0 ≤ s.fd ∧ s.fd ≤ 255))))) (e := (!(decide (0 ≤ s.pl ∧ s.pl ≤ 8)))) rfl (fun q => Eq.trans (b := xa25) (by kernel_rfl) (ha25 (by rw [q]))))) ?_
 refine plan.line_same 27 _ (.bool (((((decide (uses s.op = [])) || (!s.zeroB)) || (!(decide (0 ≤ s.fm ∧ s.fm ≤ 200)))) || (!(decide (0 ≤ s.fd ∧ s.fd ≤ 255)))) || (!(decide (0 ≤ s.pl ∧ s.pl ≤ 8))))) rfl ?_
 refine plan.sym_op 28 27 _ false (.bool (((((decide (uses s.op = [])) || (!s.zeroB)) || (!(decide (0 ≤ s.fm ∧ s.fm ≤ 200)))) || (!(decide (0 ≤ s.fd ∧ s.fd ≤ 255)))) || (!(decide (0 ≤ s.pl ∧ s.pl ≤ 8))))) (.pointer (some ⟨w.heap.size, 4, none⟩)) rfl rfl (fun K => (by kernel_rfl)) ?_
 intro xa28 ha28
 refine plan.sym_op 29 27 _ false (.bool (((((decide (uses s.op = [])) || (!s.zeroB)) || (!(decide (0 ≤ s.fm ∧ s.fm ≤ 200)))) || (!(decide (0 ≤ s.fd ∧ s.fd ≤ 255)))) || (!(decide (0 ≤ s.pl ∧ s.pl ≤ 8))))) (.int .i64 s.tt) rfl rfl (fun K => by have e := ha28 K; subst e; exact (exec_cell_int (ad := ⟨w.heap.size, 4, none⟩) rfl (by kernel_rfl) ((HZ.out _ hSa24).cell 4) Tryz.isAgg3)) ?_
 intro xa29 ha29
 refine plan.sym_call 30 27 _ false (.bool (((((decide (uses s.op = [])) || (!s.zeroB)) || (!(decide (0 ≤ s.fm ∧ s.fm ≤ 200)))) || (!(decide (0 ≤ s.fd ∧ s.fd ≤ 255)))) || (!(decide (0 ≤ s.pl ∧ s.pl ≤ 8))))) (.bool (decide (0 ≤ s.tt ∧ s.tt ≤ 255))) 29 #[.int .i64 s.tt, .int .i64 0, .int .i64 255] (fun w' => Below W0.heap.size W0 w') rfl rfl hSa24 (fun K => by have e := ha29 K; subst e; show _ = _; kernel_rfl) (fun K => gives_from (between_any s.tt 0 255 wa24) hSa24) ?_
 intro xa30 wa30 hSa30 ha30
 refine plan.sym_op 31 27 _ false (.bool (((((decide (uses s.op = [])) || (!s.zeroB)) || (!(decide (0 ≤ s.fm ∧ s.fm ≤ 200)))) || (!(decide (0 ≤ s.fd ∧ s.fd ≤ 255)))) || (!(decide (0 ≤ s.pl ∧ s.pl ≤ 8))))) (.bool (!(decide (0 ≤ s.tt ∧ s.tt ≤ 255)))) rfl rfl (fun K => by have e := ha30 K; subst e; show _ = _; kernel_rfl) ?_
 intro xa31 ha31
 refine plan.line_same 32 _ (.bool ((((((decide (uses s.op = [])) || (!s.zeroB)) || (!(decide (0 ≤ s.fm ∧ s.fm ≤ 200)))) || (!(decide (0 ≤ s.fd ∧ s.fd ≤ 255)))) || (!(decide (0 ≤ s.pl ∧ s.pl ≤ 8)))) || (!(decide (0 ≤ s.tt ∧ s.tt ≤ 255))))) rfl (hv := (plan.exec_pick_or (c := (((((decide (uses s.op = [])) || (!s.zeroB)) || (!(decide (0 ≤ s.fm ∧ s.fm ≤ 200)))) || (!(decide (0 ≤ s.fd ∧ s.fd ≤ 255)))) || (!(decide (0 ≤ s.pl ∧ s.pl ≤ 8))))) (e := (!(decide (0 ≤ s.tt ∧ s.tt ≤ 255)))) rfl (fun q => Eq.trans (b := xa31) (by kernel_rfl) (ha31 (by rw [q]))))) ?_
 refine plan.line_same 33 _ (.bool ((((((decide (uses s.op = [])) || (!s.zeroB)) || (!(decide (0 ≤ s.fm ∧ s.fm ≤ 200)))) || (!(decide (0 ≤ s.fd ∧ s.fd ≤ 255)))) || (!(decide (0 ≤ s.pl ∧ s.pl ≤ 8)))) || (!(decide (0 ≤ s.tt ∧ s.tt ≤ 255))))) rfl ?_
 refine plan.sym_op 34 33 _ false (.bool ((((((decide (uses s.op = [])) || (!s.zeroB)) || (!(decide (0 ≤ s.fm ∧ s.fm ≤ 200)))) || (!(decide (0 ≤ s.fd ∧ s.fd ≤ 255)))) || (!(decide (0 ≤ s.pl ∧ s.pl ≤ 8)))) || (!(decide (0 ≤ s.tt ∧ s.tt ≤ 255))))) (zP s ta tc la lc) rfl rfl (fun K => (exec_load_at (b := w.heap.size) (off := 0) rfl (HZ.out _ hSa30).whole Tryz.underlying32 rfl info_st.out)) ?_
 intro xa34 ha34
 refine plan.sym_call 35 33 _ false (.bool ((((((decide (uses s.op = [])) || (!s.zeroB)) || (!(decide (0 ≤ s.fm ∧ s.fm ≤ 200)))) || (!(decide (0 ≤ s.fd ∧ s.fd ≤ 255)))) || (!(decide (0 ≤ s.pl ∧ s.pl ≤ 8)))) || (!(decide (0 ≤ s.tt ∧ s.tt ≤ 255))))) (.bool s.numsB) 30 #[zP s ta tc la lc] (fun w' => Below W0.heap.size W0 w') rfl rfl hSa30 (fun K => by have e := ha34 K; subst e; show _ = _; kernel_rfl) (fun K => gives_from (refNums_any s ta tc la lc wa30 (HL.out.below hSa30)) hSa30) ?_
 intro xa35 wa35 hSa35 ha35
 refine plan.sym_op 36 33 _ false (.bool ((((((decide (uses s.op = [])) || (!s.zeroB)) || (!(decide (0 ≤ s.fm ∧ s.fm ≤ 200)))) || (!(decide (0 ≤ s.fd ∧ s.fd ≤ 255)))) || (!(decide (0 ≤ s.pl ∧ s.pl ≤ 8)))) || (!(decide (0 ≤ s.tt ∧ s.tt ≤ 255))))) (.bool (!s.numsB)) rfl rfl (fun K => by have e := ha35 K; subst e; show _ = _; kernel_rfl) ?_
 intro xa36 ha36
 obtain ⟨k0, hk0⟩ : ∃ q, Hid ((((((((decide (uses s.op = [])) || (!s.zeroB)) || (!(decide (0 ≤ s.fm ∧ s.fm ≤ 200)))) || (!(decide (0 ≤ s.fd ∧ s.fd ≤ 255)))) || (!(decide (0 ≤ s.pl ∧ s.pl ≤ 8)))) || (!(decide (0 ≤ s.tt ∧ s.tt ≤ 255)))) || (!s.numsB)) = q) := ⟨_, hid rfl⟩
 refine plan.line_same 37 _ (.bool k0) rfl (hv := (plan.exec_as (plan.exec_pick_or (c := ((((((decide (uses s.op = [])) || (!s.zeroB)) || (!(decide (0 ≤ s.fm ∧ s.fm ≤ 200)))) || (!(decide (0 ≤ s.fd ∧ s.fd ≤ 255)))) || (!(decide (0 ≤ s.pl ∧ s.pl ≤ 8)))) || (!(decide (0 ≤ s.tt ∧ s.tt ≤ 255))))) (e := (!s.numsB)) rfl (fun q => Eq.trans (b := xa36) (by kernel_rfl) (ha36 (by rw [q])))) hk0.out)) ?_
 cases k0
 rotate_left
 ·have hn : s.no1 = true := hk0.out
  refine plan.line_done (by decide) ?_
  walk_nrm
  go_wp2
  go_ret
  exact ⟨by unfold Sp.rightB; rw [hn]; simp, HB0.out.trans (hSa35.mono HB0.out.size)⟩
 have hn0 : s.no1 = false := hk0.out
 refine plan.line_done (by decide) ?_
 walk_nrm
 go_upto_region 3 with fail
 refine plan.line ?_
 refine plan.line_same 0 _ (.pointer (some ⟨w.heap.size, 0, none⟩)) rfl ?_
 refine plan.line_same 1 _ (.int .i64 s.op) rfl (hv := (exec_cell_int (ad := ⟨w.heap.size, 0, none⟩) rfl (by kernel_rfl) ((HZ.out _ hSa35).cell 0) Tryz.isAgg3)) ?_
 refine plan.call_S 2 _ (.bool (HasC s.op 116)) 31 #[.int .i64 s.op, .int .u8 116] (fun w' => Below W0.heap.size W0 w') rfl (gives_from (has_any s.op 116 wa35) hSa35) ?_
 intro wb2 hSb2
 refine plan.line_same 3 _ (.bool (HasC s.op 116)) rfl ?_
 refine plan.sym_op 4 3 _ true (.bool (HasC s.op 116)) (.pointer (some ⟨w.heap.size, 4, none⟩)) rfl rfl (fun K => (by kernel_rfl)) ?_
 intro xb4 hb4
 refine plan.sym_op 5 3 _ true (.bool (HasC s.op 116)) (.int .i64 s.tt) rfl rfl (fun K => by have e := hb4 K; subst e; exact (exec_cell_int (ad := ⟨w.heap.size, 4, none⟩) rfl (by kernel_rfl) ((HZ.out _ hSb2).cell 4) Tryz.isAgg3)) ?_
 intro xb5 hb5
 refine plan.sym_op 6 3 _ true (.bool (HasC s.op 116)) (.pointer (some ⟨w.heap.size, 2, none⟩)) rfl rfl (fun K => (by kernel_rfl)) ?_
 intro xb6 hb6
 refine plan.sym_op 7 3 _ true (.bool (HasC s.op 116)) (.int .i64 s.fd) rfl rfl (fun K => by have e := hb6 K; subst e; exact (exec_cell_int (ad := ⟨w.heap.size, 2, none⟩) rfl (by kernel_rfl) ((HZ.out _ hSb2).cell 2) Tryz.isAgg3)) ?_
 intro xb7 hb7
 refine plan.sym_op 8 3 _ true (.bool (HasC s.op 116)) (.bool (s.tt == s.fd)) rfl rfl (fun K => by have e := hb5 K; subst e; have e := hb7 K; subst e; exact (exec_eql_int (n := s.tt) (m := s.fd) rfl)) ?_
 intro xb8 hb8
 refine plan.line_same 9 _ (.bool ((HasC s.op 116) && (s.tt == s.fd))) rfl (hv := (plan.exec_pick_and (c := (HasC s.op 116)) (e := (s.tt == s.fd)) rfl (fun q => Eq.trans (b := xb8) (by kernel_rfl) (hb8 (by rw [q]))))) ?_
 refine plan.line_same 10 _ (.bool ((HasC s.op 116) && (s.tt == s.fd))) rfl ?_
 refine plan.sym_op 11 10 _ false (.bool ((HasC s.op 116) && (s.tt == s.fd))) (.pointer (some ⟨w.heap.size, 0, none⟩)) rfl rfl (fun K => (by kernel_rfl)) ?_
 intro xb11 hb11
 refine plan.sym_op 12 10 _ false (.bool ((HasC s.op 116) && (s.tt == s.fd))) (.int .i64 s.op) rfl rfl (fun K => by have e := hb11 K; subst e; exact (exec_cell_int (ad := ⟨w.heap.size, 0, none⟩) rfl (by kernel_rfl) ((HZ.out _ hSb2).cell 0) Tryz.isAgg3)) ?_
 intro xb12 hb12
 refine plan.sym_call 13 10 _ false (.bool ((HasC s.op 116) && (s.tt == s.fd))) (.bool (HasC s.op 70)) 31 #[.int .i64 s.op, .int .u8 70] (fun w' => Below W0.heap.size W0 w') rfl rfl hSb2 (fun K => by have e := hb12 K; subst e; show _ = _; kernel_rfl) (fun K => gives_from (has_any s.op 70 wb2) hSb2) ?_
 intro xb13 wb13 hSb13 hb13
 refine plan.sym_op 14 10 _ false (.bool ((HasC s.op 116) && (s.tt == s.fd))) (.bool (HasC s.op 70)) rfl rfl (fun K => by have e := hb13 K; subst e; show _ = _; kernel_rfl) ?_
 intro xb14 hb14
 refine plan.sym_op 15 14 _ true (xb14) (.pointer (some ⟨w.heap.size, 7, none⟩)) rfl rfl (fun K => (by kernel_rfl)) ?_
 intro xb15 hb15
 refine plan.sym_op 16 14 _ true (xb14) (zF s.f) rfl rfl (fun K => by have e := hb15 K; subst e; exact (exec_load_at (b := w.heap.size) (off := 7) rfl (range_f (HZ.out _ hSb13)) Tryz.underlying26 rfl info_fd.out)) ?_
 intro xb16 hb16
 refine plan.sym_call 17 14 _ true (xb14) (.bool (decide s.f.Right)) 32 #[zF s.f] (fun w' => Below W0.heap.size W0 w') rfl rfl hSb13 (fun K => by have e := hb16 K; subst e; show _ = _; kernel_rfl) (fun K => gives_from (field.refRight_any s.f wb13) hSb13) ?_
 intro xb17 wb17 hSb17 hb17
 refine plan.sym_op 18 14 _ true (xb14) (.bool (!(decide s.f.Right))) rfl rfl (fun K => by have e := hb17 K; subst e; show _ = _; kernel_rfl) ?_
 intro xb18 hb18
 refine plan.sym_op 19 10 _ false (.bool ((HasC s.op 116) && (s.tt == s.fd))) (.bool ((HasC s.op 70) && (!(decide s.f.Right)))) rfl rfl (fun K => by have e := hb14 K; subst e; exact (plan.exec_pick_and (c := (HasC s.op 70)) (e := (!(decide s.f.Right))) rfl (fun q => Eq.trans (b := xb18) (by kernel_rfl) (hb18 (by rw [q]))))) ?_
 intro xb19 hb19
 obtain ⟨k1, hk1⟩ : ∃ q, Hid ((((HasC s.op 116) && (s.tt == s.fd)) || ((HasC s.op 70) && (!(decide s.f.Right)))) = q) := ⟨_, hid rfl⟩
 refine plan.line_same 20 _ (.bool k1) rfl (hv := (plan.exec_as (plan.exec_pick_or (c := ((HasC s.op 116) && (s.tt == s.fd))) (e := ((HasC s.op 70) && (!(decide s.f.Right)))) rfl (fun q => Eq.trans (b := xb19) (by kernel_rfl) (hb19 (by rw [q])))) hk1.out)) ?_
 cases k1
 rotate_left
 ·have hn : s.no2 = true := hk1.out
  refine plan.line_done (by decide) ?_
  walk_nrm
  go_wp2
  go_ret
  exact ⟨by unfold Sp.rightB; rw [hn0, hn]; simp, HB0.out.trans (hSb17.mono HB0.out.size)⟩
 have hn1 : s.no2 = false := hk1.out
 refine plan.line_done (by decide) ?_
 walk_nrm
 go_upto_region 5 with fail
 refine plan.line ?_
 refine plan.line_same 0 _ (.pointer (some ⟨w.heap.size, 0, none⟩)) rfl ?_
 refine plan.line_same 1 _ (.int .i64 s.op) rfl (hv := (exec_cell_int (ad := ⟨w.heap.size, 0, none⟩) rfl (by kernel_rfl) ((HZ.out _ hSb17).cell 0) Tryz.isAgg3)) ?_
 refine plan.call_S 2 _ (.bool (HasC s.op 70)) 31 #[.int .i64 s.op, .int .u8 70] (fun w' => Below W0.heap.size W0 w') rfl (gives_from (has_any s.op 70 wb17) hSb17) ?_
 intro wc2 hSc2
 refine plan.line_same 3 _ (.bool (HasC s.op 70)) rfl ?_
 refine plan.sym_op 4 3 _ true (.bool (HasC s.op 70)) (.pointer (some ⟨w.heap.size, 0, none⟩)) rfl rfl (fun K => (by kernel_rfl)) ?_
 intro xc4 hc4
 refine plan.sym_op 5 3 _ true (.bool (HasC s.op 70)) (.int .i64 s.op) rfl rfl (fun K => by have e := hc4 K; subst e; exact (exec_cell_int (ad := ⟨w.heap.size, 0, none⟩) rfl (by kernel_rfl) ((HZ.out _ hSc2).cell 0) Tryz.isAgg3)) ?_
 intro xc5 hc5
 refine plan.sym_call 6 3 _ true (.bool (HasC s.op 70)) (.bool (HasC s.op 100)) 31 #[.int .i64 s.op, .int .u8 100] (fun w' => Below W0.heap.size W0 w') rfl rfl hSc2 (fun K => by have e := hc5 K; subst e; show _ = _; kernel_rfl) (fun K => gives_from (has_any s.op 100 wc2) hSc2) ?_
 intro xc6 wc6 hSc6 hc6
 refine plan.line_same 7 _ (.bool ((HasC s.op 70) && (HasC s.op 100))) rfl (hv := (plan.exec_pick_and (c := (HasC s.op 70)) (e := (HasC s.op 100)) rfl (fun q => Eq.trans (b := xc6) (by kernel_rfl) (hc6 (by rw [q]))))) ?_
 refine plan.line_same 8 _ (.bool ((HasC s.op 70) && (HasC s.op 100))) rfl ?_
 refine plan.sym_op 9 8 _ true (.bool ((HasC s.op 70) && (HasC s.op 100))) (.pointer (some ⟨w.heap.size, 7, none⟩)) rfl rfl (fun K => (by kernel_rfl)) ?_
 intro xc9 hc9
 refine plan.sym_op 10 8 _ true (.bool ((HasC s.op 70) && (HasC s.op 100))) (.pointer (some ⟨w.heap.size, 7, none⟩)) rfl rfl (fun K => by have e := hc9 K; subst e; show _ = _; kernel_rfl) ?_
 intro xc10 hc10
 refine plan.sym_op 11 8 _ true (.bool ((HasC s.op 70) && (HasC s.op 100))) (.int .i64 s.f.id) rfl rfl (fun K => by have e := hc10 K; subst e; exact (exec_cell_int (ad := ⟨w.heap.size, 7, none⟩) rfl (by kernel_rfl) ((HZ.out _ hSc6).cell 7) Tryz.isAgg3)) ?_
 intro xc11 hc11
 refine plan.sym_op 12 8 _ true (.bool ((HasC s.op 70) && (HasC s.op 100))) (.pointer (some ⟨w.heap.size, 2, none⟩)) rfl rfl (fun K => (by kernel_rfl)) ?_
 intro xc12 hc12
 refine plan.sym_op 13 8 _ true (.bool ((HasC s.op 70) && (HasC s.op 100))) (.int .i64 s.fd) rfl rfl (fun K => by have e := hc12 K; subst e; exact (exec_cell_int (ad := ⟨w.heap.size, 2, none⟩) rfl (by kernel_rfl) ((HZ.out _ hSc6).cell 2) Tryz.isAgg3)) ?_
 intro xc13 hc13
 refine plan.sym_op 14 8 _ true (.bool ((HasC s.op 70) && (HasC s.op 100))) (.bool (s.f.id != s.fd)) rfl rfl (fun K => by have e := hc11 K; subst e; have e := hc13 K; subst e; exact (exec_neq_int (n := s.f.id) (m := s.fd) rfl (hid rfl))) ?_
 intro xc14 hc14
 obtain ⟨k2, hk2⟩ : ∃ q, Hid ((((HasC s.op 70) && (HasC s.op 100)) && (s.f.id != s.fd)) = q) := ⟨_, hid rfl⟩
 refine plan.line_same 15 _ (.bool k2) rfl (hv := (plan.exec_as (plan.exec_pick_and (c := ((HasC s.op 70) && (HasC s.op 100))) (e := (s.f.id != s.fd)) rfl (fun q => Eq.trans (b := xc14) (by kernel_rfl) (hc14 (by rw [q])))) hk2.out)) ?_
 cases k2
 rotate_left
 ·have hn : s.no3 = true := hk2.out
  refine plan.line_done (by decide) ?_
  walk_nrm
  go_wp2
  go_ret
  exact ⟨by unfold Sp.rightB; rw [hn0, hn1, hn]; simp, HB0.out.trans (hSc6.mono HB0.out.size)⟩
 have hn2 : s.no3 = false := hk2.out
 refine plan.line_done (by decide) ?_
 walk_nrm
 go_upto_region 7 with fail
 refine plan.line ?_
 refine plan.line_same 0 _ (.pointer (some ⟨w.heap.size, 0, none⟩)) rfl ?_
 refine plan.line_same 1 _ (.int .i64 s.op) rfl (hv := (exec_cell_int (ad := ⟨w.heap.size, 0, none⟩) rfl (by kernel_rfl) ((HZ.out _ hSc6).cell 0) Tryz.isAgg3)) ?_
 refine plan.line_same 2 _ (.bool (s.op == 2)) rfl (hv := (exec_eql_int (n := s.op) (m := 2) rfl)) ?_
 refine plan.line_same 3 _ (.bool (s.op == 2)) rfl ?_
 refine plan.sym_op 4 3 _ true (.bool (s.op == 2)) (.pointer (some ⟨w.heap.size, 12, none⟩)) rfl rfl (fun K => (by kernel_rfl)) ?_
 intro xd4 hd4
 refine plan.sym_op 5 3 _ true (.bool (s.op == 2)) (.pointer (some ⟨w.heap.size, 12, none⟩)) rfl rfl (fun K => by have e := hd4 K; subst e; show _ = _; kernel_rfl) ?_
 intro xd5 hd5
 refine plan.sym_op 6 3 _ true (.bool (s.op == 2)) (.int .i64 s.v.n) rfl rfl (fun K => by have e := hd5 K; subst e; exact (exec_cell_int (ad := ⟨w.heap.size, 12, none⟩) rfl (by kernel_rfl) ((HZ.out _ hSc6).cell 12) Tryz.isAgg3)) ?_
 intro xd6 hd6
 refine plan.sym_call 7 3 _ true (.bool (s.op == 2)) (.bool (decide ((-1099511627776) ≤ s.v.n ∧ s.v.n ≤ 1099511627776))) 29 #[.int .i64 s.v.n, .int .i64 (-1099511627776), .int .i64 1099511627776] (fun w' => Below W0.heap.size W0 w') rfl rfl hSc6 (fun K => by have e := hd6 K; subst e; show _ = _; kernel_rfl) (fun K => gives_from (between_any s.v.n (-1099511627776) 1099511627776 wc6) hSc6) ?_
 intro xd7 wd7 hSd7 hd7
 refine plan.sym_op 8 3 _ true (.bool (s.op == 2)) (.bool (!(decide ((-1099511627776) ≤ s.v.n ∧ s.v.n ≤ 1099511627776)))) rfl rfl (fun K => by have e := hd7 K; subst e; show _ = _; kernel_rfl) ?_
 intro xd8 hd8
 refine plan.sym_op 9 3 _ true (.bool (s.op == 2)) (.bool (!(decide ((-1099511627776) ≤ s.v.n ∧ s.v.n ≤ 1099511627776)))) rfl rfl (fun K => by have e := hd8 K; subst e; show _ = _; kernel_rfl) ?_
 intro xd9 hd9
 refine plan.sym_op 10 9 _ false (xd9) (.pointer (some ⟨w.heap.size, 12, none⟩)) rfl rfl (fun K => (by kernel_rfl)) ?_
 intro xd10 hd10
 refine plan.sym_op 11 9 _ false (xd9) (.pointer (some ⟨w.heap.size, 13, none⟩)) rfl rfl (fun K => by have e := hd10 K; subst e; show _ = _; kernel_rfl) ?_
 intro xd11 hd11
 refine plan.sym_op 12 9 _ false (xd9) (.string s.v.s) rfl rfl (fun K => by have e := hd11 K; subst e; exact (field.exec_cell_str (ad := ⟨w.heap.size, 13, none⟩) rfl ((HZ.out _ hSd7).cell 13) Tryz.isAgg9)) ?_
 intro xd12 hd12
 refine plan.sym_op 13 9 _ false (xd9) (.int .i64 (s.v.s.size : Int)) rfl rfl (fun K => by have e := hd12 K; subst e; show _ = _; kernel_rfl) ?_
 intro xd13 hd13
 refine plan.sym_op 14 9 _ false (xd9) (.bool (decide ((s.v.s.size : Int) > 32))) rfl rfl (fun K => by have e := hd13 K; subst e; exact (exec_gtr_int (n := (s.v.s.size : Int)) (m := 32) rfl (hid rfl))) ?_
 intro xd14 hd14
 refine plan.sym_op 15 3 _ true (.bool (s.op == 2)) (.bool ((!(decide ((-1099511627776) ≤ s.v.n ∧ s.v.n ≤ 1099511627776))) || (decide ((s.v.s.size : Int) > 32)))) rfl rfl (fun K => by have e := hd9 K; subst e; exact (plan.exec_pick_or (c := (!(decide ((-1099511627776) ≤ s.v.n ∧ s.v.n ≤ 1099511627776)))) (e := (decide ((s.v.s.size : Int) > 32))) rfl (fun q => Eq.trans (b := xd14) (by kernel_rfl) (hd14 (by rw [q]))))) ?_
 intro xd15 hd15
 obtain ⟨k3, hk3⟩ : ∃ q, Hid (((s.op == 2) && ((!(decide ((-1099511627776) ≤ s.v.n ∧ s.v.n ≤ 1099511627776))) || (decide ((s.v.s.size : Int) > 32)))) = q) := ⟨_, hid rfl⟩
 refine plan.line_same 16 _ (.bool k3) rfl (hv := (plan.exec_as (plan.exec_pick_and (c := (s.op == 2)) (e := ((!(decide ((-1099511627776) ≤ s.v.n ∧ s.v.n ≤ 1099511627776))) || (decide ((s.v.s.size : Int) > 32)))) rfl (fun q => Eq.trans (b := xd15) (by kernel_rfl) (hd15 (by rw [q])))) hk3.out)) ?_
 cases k3
 rotate_left
 ·have hn : s.no4 = true := hk3.out
  refine plan.line_done (by decide) ?_
  walk_nrm
  go_wp2
  go_ret
  exact ⟨by unfold Sp.rightB; rw [hn0, hn1, hn2, hn]; simp, HB0.out.trans (hSd7.mono HB0.out.size)⟩
 have hn3 : s.no4 = false := hk3.out
 refine plan.line_done (by decide) ?_
 walk_nrm
 go_upto_region 9 with fail
 refine plan.line ?_
 refine plan.line_same 0 _ (.pointer (some ⟨w.heap.size, 0, none⟩)) rfl ?_
 refine plan.line_same 1 _ (.int .i64 s.op) rfl (hv := (exec_cell_int (ad := ⟨w.heap.size, 0, none⟩) rfl (by kernel_rfl) ((HZ.out _ hSd7).cell 0) Tryz.isAgg3)) ?_
 refine plan.call_S 2 _ (.bool (HasC s.op 112)) 31 #[.int .i64 s.op, .int .u8 112] (fun w' => Below W0.heap.size W0 w') rfl (gives_from (has_any s.op 112 wd7) hSd7) ?_
 intro we2 hSe2
 refine plan.line_same 3 _ (.bool (HasC s.op 112)) rfl ?_
 refine plan.sym_op 4 3 _ true (.bool (HasC s.op 112)) (.pointer (some ⟨w.heap.size, 0, none⟩)) rfl rfl (fun K => (by kernel_rfl)) ?_
 intro xe4 he4
 refine plan.sym_op 5 3 _ true (.bool (HasC s.op 112)) (.int .i64 s.op) rfl rfl (fun K => by have e := he4 K; subst e; exact (exec_cell_int (ad := ⟨w.heap.size, 0, none⟩) rfl (by kernel_rfl) ((HZ.out _ hSe2).cell 0) Tryz.isAgg3)) ?_
 intro xe5 he5
 refine plan.sym_call 6 3 _ true (.bool (HasC s.op 112)) (.bool (HasC s.op 86)) 31 #[.int .i64 s.op, .int .u8 86] (fun w' => Below W0.heap.size W0 w') rfl rfl hSe2 (fun K => by have e := he5 K; subst e; show _ = _; kernel_rfl) (fun K => gives_from (has_any s.op 86 we2) hSe2) ?_
 intro xe6 we6 hSe6 he6
 refine plan.line_same 7 _ (.bool ((HasC s.op 112) && (HasC s.op 86))) rfl (hv := (plan.exec_pick_and (c := (HasC s.op 112)) (e := (HasC s.op 86)) rfl (fun q => Eq.trans (b := xe6) (by kernel_rfl) (he6 (by rw [q]))))) ?_
 refine plan.line_same 8 _ (.bool ((HasC s.op 112) && (HasC s.op 86))) rfl ?_
 refine plan.sym_op 9 8 _ true (.bool ((HasC s.op 112) && (HasC s.op 86))) (.pointer (some ⟨w.heap.size, 7, none⟩)) rfl rfl (fun K => (by kernel_rfl)) ?_
 intro xe9 he9
 refine plan.sym_op 10 8 _ true (.bool ((HasC s.op 112) && (HasC s.op 86))) (zF s.f) rfl rfl (fun K => by have e := he9 K; subst e; exact (exec_load_at (b := w.heap.size) (off := 7) rfl (range_f (HZ.out _ hSe6)) Tryz.underlying26 rfl info_fd.out)) ?_
 intro xe10 he10
 refine plan.sym_op 11 8 _ true (.bool ((HasC s.op 112) && (HasC s.op 86))) (.pointer (some ⟨w.heap.size, 12, none⟩)) rfl rfl (fun K => (by kernel_rfl)) ?_
 intro xe11 he11
 refine plan.sym_op 12 8 _ true (.bool ((HasC s.op 112) && (HasC s.op 86))) (zV s.v) rfl rfl (fun K => by have e := he11 K; subst e; exact (exec_load_at (b := w.heap.size) (off := 12) rfl (range_v (HZ.out _ hSe6)) Tryz.underlying28 rfl info_va.out)) ?_
 intro xe12 he12
 refine plan.sym_call 13 8 _ true (.bool ((HasC s.op 112) && (HasC s.op 86))) (.bool (decide (s.f.Has s.v))) 33 #[zF s.f, zV s.v] (fun w' => Below W0.heap.size W0 w') rfl rfl hSe6 (fun K => by have e := he10 K; subst e; have e := he12 K; subst e; show _ = _; kernel_rfl) (fun K => gives_from (field.refHas_any s.f s.v we6) hSe6) ?_
 intro xe13 we13 hSe13 he13
 refine plan.sym_op 14 8 _ true (.bool ((HasC s.op 112) && (HasC s.op 86))) (.bool (!(decide (s.f.Has s.v)))) rfl rfl (fun K => by have e := he13 K; subst e; show _ = _; kernel_rfl) ?_
 intro xe14 he14
 obtain ⟨k4, hk4⟩ : ∃ q, Hid ((((HasC s.op 112) && (HasC s.op 86)) && (!(decide (s.f.Has s.v)))) = q) := ⟨_, hid rfl⟩
 refine plan.line_same 15 _ (.bool k4) rfl (hv := (plan.exec_as (plan.exec_pick_and (c := ((HasC s.op 112) && (HasC s.op 86))) (e := (!(decide (s.f.Has s.v)))) rfl (fun q => Eq.trans (b := xe14) (by kernel_rfl) (he14 (by rw [q])))) hk4.out)) ?_
 cases k4
 rotate_left
 ·have hn : s.no5 = true := hk4.out
  refine plan.line_done (by decide) ?_
  walk_nrm
  go_wp2
  go_ret
  exact ⟨by unfold Sp.rightB; rw [hn0, hn1, hn2, hn3, hn]; simp, HB0.out.trans (hSe13.mono HB0.out.size)⟩
 have hn4 : s.no5 = false := hk4.out
 refine plan.line_done (by decide) ?_
 walk_nrm
 go_upto_region 11 with fail
 refine plan.line ?_
 refine plan.line_same 0 _ (.pointer (some ⟨w.heap.size, 0, none⟩)) rfl ?_
 refine plan.line_same 1 _ (.int .i64 s.op) rfl (hv := (exec_cell_int (ad := ⟨w.heap.size, 0, none⟩) rfl (by kernel_rfl) ((HZ.out _ hSe13).cell 0) Tryz.isAgg3)) ?_
 refine plan.call_S 2 _ (.bool (HasC s.op 76)) 31 #[.int .i64 s.op, .int .u8 76] (fun w' => Below W0.heap.size W0 w') rfl (gives_from (has_any s.op 76 we13) hSe13) ?_
 intro wf2 hSf2
 refine plan.line_same 3 _ (.bool (!(HasC s.op 76))) rfl ?_
 refine plan.line_same 4 _ (.bool (!(HasC s.op 76))) rfl ?_
 refine plan.sym_op 5 4 _ false (.bool (!(HasC s.op 76))) (.pointer (some ⟨w.heap.size, 1, none⟩)) rfl rfl (fun K => (by kernel_rfl)) ?_
 intro xf5 hf5
 refine plan.sym_op 6 4 _ false (.bool (!(HasC s.op 76))) (.int .i64 s.fm) rfl rfl (fun K => by have e := hf5 K; subst e; exact (exec_cell_int (ad := ⟨w.heap.size, 1, none⟩) rfl (by kernel_rfl) ((HZ.out _ hSf2).cell 1) Tryz.isAgg3)) ?_
 intro xf6 hf6
 refine plan.sym_op 7 4 _ false (.bool (!(HasC s.op 76))) (.pointer (some ⟨w.heap.size, 15, none⟩)) rfl rfl (fun K => (by kernel_rfl)) ?_
 intro xf7 hf7
 refine plan.sym_op 8 4 _ false (.bool (!(HasC s.op 76))) (.slice la s.l.length lc) rfl rfl (fun K => by have e := hf7 K; subst e; exact (exec_cell_slice (ad := ⟨w.heap.size, 15, none⟩) rfl ((HZ.out _ hSf2).cell 15) Tryz.isAgg30)) ?_
 intro xf8 hf8
 refine plan.sym_op 9 4 _ false (.bool (!(HasC s.op 76))) (zS s.fm la s.l.length lc) rfl rfl (fun K => by have e := hf6 K; subst e; have e := hf8 K; subst e; show _ = _; kernel_rfl) ?_
 intro xf9 hf9
 refine plan.sym_call 10 4 _ false (.bool (!(HasC s.op 76))) (.bool (decide (schema.Fine (s.fm, s.l)))) 34 #[zS s.fm la s.l.length lc] (fun w' => Below W0.heap.size W0 w') rfl rfl hSf2 (fun K => by have e := hf9 K; subst e; show _ = _; kernel_rfl) (fun K => gives_from (schema.refFine_any s.fm la lc s.l wf2 ((HL.out.below hSf2).l) HL.out.ml) hSf2) ?_
 intro xf10 wf10 hSf10 hf10
 refine plan.line_same 11 _ (.bool ((!(HasC s.op 76)) || (decide (schema.Fine (s.fm, s.l))))) rfl (hv := (plan.exec_pick_or (c := (!(HasC s.op 76))) (e := (decide (schema.Fine (s.fm, s.l)))) rfl (fun q => Eq.trans (b := xf10) (by kernel_rfl) (hf10 (by rw [q]))))) ?_
 obtain ⟨k9, hk9⟩ : ∃ q, Hid (((!(HasC s.op 76)) || (decide (schema.Fine (s.fm, s.l)))) = q) := ⟨_, hid rfl⟩
 refine plan.line_same 12 _ (.bool k9) rfl (hv := (plan.exec_assign_b (c := ((!(HasC s.op 76)) || (decide (schema.Fine (s.fm, s.l))))) rfl hk9.out)) ?_
 have hy : s.yes6 = k9 := hk9.out
 refine plan.line_done (by decide) ?_
 walk_nrm
 go_wp2
 go_ret
 exact ⟨by unfold Sp.rightB; rw [hn0, hn1, hn2, hn3, hn4, hy]; simp, HB0.out.trans (hSf10.mono HB0.out.size)⟩
end Go.Proofs.YtaciegkblklokaaGreat.step
namespace Go.Proofs.YtaciegkblklokaaGreat.step
open Go.RowKit
open Go.Proofs.YtaciegkblklokaaGreat.field (Gives)
theorem has_right {f : field.Fd} {v : field.Va} (h : f.Has v) : f.Right := h.1
theorem len_nil {α : Type} (l : List α) : ((l.length : Int) == 0) = decide (l = []) := by
 cases l <;> simp <;> omega
set_option maxHeartbeats 3200000 in
theorem rightB_eq (s : Sp) : s.rightB = decide s.Right := by
 obtain ⟨op, fm, fd, pl, tt, a, b, f, v, t, l⟩ := s
 refine all_ops (Q := fun op => (⟨op, fm, fd, pl, tt, a, b, f, v, t, l⟩ : Sp).rightB = decide (⟨op, fm, fd, pl, tt, a, b, f, v, t, l⟩ : Sp).Right) ?_ ?_ ?_ ?_ ?_ ?_ ?_ ?_ ?_ ?_ ?_ ?_ ?_ ?_ ?_ ?_ ?_ ?_ ?_ ?_ ?h0 op
 case h0 =>
  intro op h1 h2
  have e1 : (⟨op, fm, fd, pl, tt, a, b, f, v, t, l⟩ : Sp).no1 = true := by unfold Sp.no1; rw [h2]; rfl
  rw [show decide (⟨op, fm, fd, pl, tt, a, b, f, v, t, l⟩ : Sp).Right = false from decide_eq_false (fun h => h.2.1 h1)]
  unfold Sp.rightB
  rw [e1]
  rfl
 all_goals
  rw [Bool.eq_iff_iff, decide_eq_true_iff]
  have hr := @has_right f v
  simp [Sp.rightB, Sp.no1, Sp.no2, Sp.no3, Sp.no4, Sp.no5, Sp.yes6, Sp.zeroB, Sp.numsB, HasC, uses, mem, Sp.Right, Sp.Fine, Sp.clear, len_nil, schema.Fine]
  grind
theorem refRight_any (s : Sp) (ta : Option Addr) (tc : Nat) (la : Option Addr) (lc : Nat) (w : World) (h : Lists w s ta la) : Calls Tryz.prog 18 #[zP s ta tc la lc] w (Gives (.bool (decide s.Right)) w) := by
 have := refRightB_any s ta tc la lc w h
 rw [rightB_eq] at this
 exact this
end Go.Proofs.YtaciegkblklokaaGreat.step
namespace Go.Proofs.YtaciegkblklokaaGreat.typing
open Go.RowKit Go.Proofs.YtaciegkblklokaaGreat.schema
open Go.Proofs.YtaciegkblklokaaGreat.field (Gives newB gives_from)
open Go.Proofs.YtaciegkblklokaaGreat.step (Lists boxP)
set_option maxRecDepth 20000 in
set_option maxHeartbeats 3200000 in
theorem refOn_no (v : Int) (a : Option Addr) (cap : Nat) (F : List Fm) (s : step.Sp) (ta : Option Addr) (tc : Nat) (la : Option Addr) (lc : Nat) (w : World) (h : FmL w a F) (hF : Small w F) (hl : Lists w s ta la) (hL : s.l.length ≤ 40) (hf : ¬ Fit v (forms F) s) :
  Calls Tryz.prog 21 #[zS v a F.length cap, zP s ta tc la lc] w (OnR (0, [], 2) w) := by
 obtain ⟨W3, HW3, hbw, hsz3, HX⟩ := on_boxes v a cap F s ta tc la lc w
 have hmx : F.length ≤ maxLen := by have := hF.1; unfold maxLen; omega
 have cR := refRight_any v a cap F W3 (h.below hbw) hmx
 unfold Gives at cR
 rw [← HW3.out] at cR
 have n1 : w.heap.size ≠ w.heap.size + 1 + 1 := by omega
 have n2 : w.heap.size + 1 ≠ w.heap.size + 1 + 1 := by omega
 have cS := fun (w' : World) (hb : Below W3.heap.size W3 w') => step.refRight_any s ta tc la lc w' ((hl.below hbw).below hb)
 unfold Gives at cS
 have cN := fun (w' : World) (hb : Below w.heap.size w w') => refNames_any v a cap F s ta tc la lc w' (h.below hb) hmx
 unfold Gives at cN
 have HSZ : Hid (W3.heap.size = w.heap.size + 3) := hid hsz3
 clear hsz3
 unfold OnR
 by_cases hr : Right v (forms F)
 ·rw [decide_eq_true hr] at cR
  by_cases hs : s.Right
  ·rw [decide_eq_true hs] at cS
   have d10 : decide (s.op > 10) = true := decide_eq_true (Int.not_le.1 (fun h10 => hf ⟨hr, hs, h10⟩))
   clear h hF hl hL hmx hbw hf hr hs cN
   go_enter Tryz.func21, Tryz.ntmps21
   go_wp2_with (first
    | (go_at_call 43; ((with_reducible refine cR.mono ?_); rintro e w1 ⟨rfl, hb1⟩; rw [HW3.out] at hb1; obtain ⟨k0, k1, k2, kb⟩ := HX.out _ hb1; have z0 := k0.cell 0; have z1 := k0.cell 1; have y0 := k1.cell 0; have y1 := k1.cell 1; have y2 := k1.cell 2; have y3 := k1.cell 3; have y4 := k1.cell 4; have y5 := k1.cell 5; have y6 := k1.cell 6; have y7 := k1.cell 7; have y8 := k1.cell 8; have y9 := k1.cell 9; have y10 := k1.cell 10; have y11 := k1.cell 11; have y12 := k1.cell 12; have y13 := k1.cell 13; have y14 := k1.cell 14; have y15 := k1.cell 15; have x0 := k2.cell 0; have x1 := k2.cell 1; have f0 := k2.frozen 0; have f1 := k2.frozen 1; have K2 := hid k2; have KB := hid kb; clear k0 k1 k2 kb))
    | (go_at_call 18; ((with_reducible refine (cS _ hb1).mono ?_); rintro e w2 ⟨rfl, hb2⟩; have hb1 := hb1.trans (hb2.mono hb1.size); obtain ⟨k0, k1, k2, kb⟩ := HX.out _ hb1; have z0 := k0.cell 0; have z1 := k0.cell 1; have y0 := k1.cell 0; have y1 := k1.cell 1; have y2 := k1.cell 2; have y3 := k1.cell 3; have y4 := k1.cell 4; have y5 := k1.cell 5; have y6 := k1.cell 6; have y7 := k1.cell 7; have y8 := k1.cell 8; have y9 := k1.cell 9; have y10 := k1.cell 10; have y11 := k1.cell 11; have y12 := k1.cell 12; have y13 := k1.cell 13; have y14 := k1.cell 14; have y15 := k1.cell 15; have x0 := k2.cell 0; have x1 := k2.cell 1; have f0 := k2.frozen 0; have f1 := k2.frozen 1; have K2 := hid k2; have KB := hid kb; clear k0 k1 k2 kb)))
   have hB := (K2.out.setCell 0 (.int .i64 0)).setCell 1 (.slice none 0 0)
   refine bodyPost_ret (results_cell2 (b := w.heap.size + 1 + 1) (o := 0) rfl rfl hB.whole Tryz.underlying24 rfl (sc_info2 _ _)) rfl ?_
   exact ⟨none, 0, [], rfl, ⟨.inl rfl, by simp⟩, rfl, (fun z hz => by cases hz), below_setCells (below_setCells KB.out (by omega) 0 [_]) (by omega) 1 [_]⟩
  ·rw [decide_eq_false hs] at cS
   clear h hF hl hL hmx hbw hf hr hs cN
   go_enter Tryz.func21, Tryz.ntmps21
   go_wp2_with (first
    | (go_at_call 43; ((with_reducible refine cR.mono ?_); rintro e w1 ⟨rfl, hb1⟩; rw [HW3.out] at hb1; obtain ⟨k0, k1, k2, kb⟩ := HX.out _ hb1; have z0 := k0.cell 0; have z1 := k0.cell 1; have y0 := k1.cell 0; have y1 := k1.cell 1; have y2 := k1.cell 2; have y3 := k1.cell 3; have y4 := k1.cell 4; have y5 := k1.cell 5; have y6 := k1.cell 6; have y7 := k1.cell 7; have y8 := k1.cell 8; have y9 := k1.cell 9; have y10 := k1.cell 10; have y11 := k1.cell 11; have y12 := k1.cell 12; have y13 := k1.cell 13; have y14 := k1.cell 14; have y15 := k1.cell 15; have x0 := k2.cell 0; have x1 := k2.cell 1; have f0 := k2.frozen 0; have f1 := k2.frozen 1; have K2 := hid k2; have KB := hid kb; clear k0 k1 k2 kb))
    | (go_at_call 18; ((with_reducible refine (cS _ hb1).mono ?_); rintro e w2 ⟨rfl, hb2⟩; have hb1 := hb1.trans (hb2.mono hb1.size); obtain ⟨k0, k1, k2, kb⟩ := HX.out _ hb1; have z0 := k0.cell 0; have z1 := k0.cell 1; have y0 := k1.cell 0; have y1 := k1.cell 1; have y2 := k1.cell 2; have y3 := k1.cell 3; have y4 := k1.cell 4; have y5 := k1.cell 5; have y6 := k1.cell 6; have y7 := k1.cell 7; have y8 := k1.cell 8; have y9 := k1.cell 9; have y10 := k1.cell 10; have y11 := k1.cell 11; have y12 := k1.cell 12; have y13 := k1.cell 13; have y14 := k1.cell 14; have y15 := k1.cell 15; have x0 := k2.cell 0; have x1 := k2.cell 1; have f0 := k2.frozen 0; have f1 := k2.frozen 1; have K2 := hid k2; have KB := hid kb; clear k0 k1 k2 kb)))
   have hB := (K2.out.setCell 0 (.int .i64 0)).setCell 1 (.slice none 0 0)
   refine bodyPost_ret (results_cell2 (b := w.heap.size + 1 + 1) (o := 0) rfl rfl hB.whole Tryz.underlying24 rfl (sc_info2 _ _)) rfl ?_
   exact ⟨none, 0, [], rfl, ⟨.inl rfl, by simp⟩, rfl, (fun z hz => by cases hz), below_setCells (below_setCells KB.out (by omega) 0 [_]) (by omega) 1 [_]⟩
 ·rw [decide_eq_false hr] at cR
  clear h hF hl hL hmx hbw hf hr cN cS
  go_enter Tryz.func21, Tryz.ntmps21
  go_wp2_with ((go_at_call 43; ((with_reducible refine cR.mono ?_); rintro e w1 ⟨rfl, hb1⟩; rw [HW3.out] at hb1; obtain ⟨k0, k1, k2, kb⟩ := HX.out _ hb1; have z0 := k0.cell 0; have z1 := k0.cell 1; have y0 := k1.cell 0; have y1 := k1.cell 1; have y2 := k1.cell 2; have y3 := k1.cell 3; have y4 := k1.cell 4; have y5 := k1.cell 5; have y6 := k1.cell 6; have y7 := k1.cell 7; have y8 := k1.cell 8; have y9 := k1.cell 9; have y10 := k1.cell 10; have y11 := k1.cell 11; have y12 := k1.cell 12; have y13 := k1.cell 13; have y14 := k1.cell 14; have y15 := k1.cell 15; have x0 := k2.cell 0; have x1 := k2.cell 1; have f0 := k2.frozen 0; have f1 := k2.frozen 1; have K2 := hid k2; have KB := hid kb; clear k0 k1 k2 kb)))
  have hB := (K2.out.setCell 0 (.int .i64 0)).setCell 1 (.slice none 0 0)
  refine bodyPost_ret (results_cell2 (b := w.heap.size + 1 + 1) (o := 0) rfl rfl hB.whole Tryz.underlying24 rfl (sc_info2 _ _)) rfl ?_
  exact ⟨none, 0, [], rfl, ⟨.inl rfl, by simp⟩, rfl, (fun z hz => by cases hz), below_setCells (below_setCells KB.out (by omega) 0 [_]) (by omega) 1 [_]⟩
set_option maxRecDepth 20000 in
set_option maxHeartbeats 3200000 in
theorem refOn_names (v : Int) (a : Option Addr) (cap : Nat) (F : List Fm) (s : step.Sp) (ta : Option Addr) (tc : Nat) (la : Option Addr) (lc : Nat) (w : World) (h : FmL w a F) (hF : Small w F) (hl : Lists w s ta la) (hL : s.l.length ≤ 40) (hf : Fit v (forms F) s) (h0 : names (forms F) s ≠ 0) :
  Calls Tryz.prog 21 #[zS v a F.length cap, zP s ta tc la lc] w (OnR (0, [], names (forms F) s) w) := by
 obtain ⟨W3, HW3, hbw, hsz3, HX⟩ := on_boxes v a cap F s ta tc la lc w
 have hmx : F.length ≤ maxLen := by have := hF.1; unfold maxLen; omega
 have cR := refRight_any v a cap F W3 (h.below hbw) hmx
 unfold Gives at cR
 rw [← HW3.out] at cR
 have n1 : w.heap.size ≠ w.heap.size + 1 + 1 := by omega
 have n2 : w.heap.size + 1 ≠ w.heap.size + 1 + 1 := by omega
 have cS := fun (w' : World) (hb : Below W3.heap.size W3 w') => step.refRight_any s ta tc la lc w' ((hl.below hbw).below hb)
 unfold Gives at cS
 have cN := fun (w' : World) (hb : Below w.heap.size w w') => refNames_any v a cap F s ta tc la lc w' (h.below hb) hmx
 unfold Gives at cN
 have HSZ : Hid (W3.heap.size = w.heap.size + 3) := hid hsz3
 clear hsz3
 rw [decide_eq_true hf.1] at cR
 have hf1 := hf.2.1
 have hf2 := hf.2.2
 simp only [decide_eq_true hf1] at cS
 have d10 : decide (s.op > 10) = false := decide_eq_false (by omega)
 generalize names (forms F) s = N at *
 have dN : (((N : Nat) : Int) != 0) = true := by simpa using h0
 unfold OnR
 clear h hF hl hL hmx hbw hf h0 hf1 hf2
 go_enter Tryz.func21, Tryz.ntmps21
 go_wp2_with (first
  | (go_at_call 43; ((with_reducible refine cR.mono ?_); rintro e w1 ⟨rfl, hb1⟩; rw [HW3.out] at hb1; obtain ⟨k0, k1, k2, kb⟩ := HX.out _ hb1; have z0 := k0.cell 0; have z1 := k0.cell 1; have y0 := k1.cell 0; have y1 := k1.cell 1; have y2 := k1.cell 2; have y3 := k1.cell 3; have y4 := k1.cell 4; have y5 := k1.cell 5; have y6 := k1.cell 6; have y7 := k1.cell 7; have y8 := k1.cell 8; have y9 := k1.cell 9; have y10 := k1.cell 10; have y11 := k1.cell 11; have y12 := k1.cell 12; have y13 := k1.cell 13; have y14 := k1.cell 14; have y15 := k1.cell 15; have x0 := k2.cell 0; have x1 := k2.cell 1; have f0 := k2.frozen 0; have f1 := k2.frozen 1; have K2 := hid k2; have KB := hid kb; clear k0 k1 k2 kb))
  | (go_at_call 18; ((with_reducible refine (cS _ hb1).mono ?_); rintro e w2 ⟨rfl, hb2⟩; have hb1 := hb1.trans (hb2.mono hb1.size); obtain ⟨k0, k1, k2, kb⟩ := HX.out _ hb1; have z0 := k0.cell 0; have z1 := k0.cell 1; have y0 := k1.cell 0; have y1 := k1.cell 1; have y2 := k1.cell 2; have y3 := k1.cell 3; have y4 := k1.cell 4; have y5 := k1.cell 5; have y6 := k1.cell 6; have y7 := k1.cell 7; have y8 := k1.cell 8; have y9 := k1.cell 9; have y10 := k1.cell 10; have y11 := k1.cell 11; have y12 := k1.cell 12; have y13 := k1.cell 13; have y14 := k1.cell 14; have y15 := k1.cell 15; have x0 := k2.cell 0; have x1 := k2.cell 1; have f0 := k2.frozen 0; have f1 := k2.frozen 1; have K2 := hid k2; have KB := hid kb; clear k0 k1 k2 kb))
  | (go_at_call 44; ((with_reducible refine (cN _ KB.out).mono ?_); rintro e w3 ⟨rfl, hb3⟩; have hb1 := hb1.trans (hb3.mono hb1.size); obtain ⟨k0, k1, k2, kb⟩ := HX.out _ hb1; have z0 := k0.cell 0; have z1 := k0.cell 1; have y0 := k1.cell 0; have y1 := k1.cell 1; have y2 := k1.cell 2; have y3 := k1.cell 3; have y4 := k1.cell 4; have y5 := k1.cell 5; have y6 := k1.cell 6; have y7 := k1.cell 7; have y8 := k1.cell 8; have y9 := k1.cell 9; have y10 := k1.cell 10; have y11 := k1.cell 11; have y12 := k1.cell 12; have y13 := k1.cell 13; have y14 := k1.cell 14; have y15 := k1.cell 15; have x0 := k2.cell 0; have x1 := k2.cell 1; have f0 := k2.frozen 0; have f1 := k2.frozen 1; have K2 := hid k2; have KB := hid kb; clear k0 k1 k2 kb)))
 have hB := (K2.out.setCell 0 (.int .i64 0)).setCell 1 (.slice none 0 0)
 refine bodyPost_ret (results_cell2 (b := w.heap.size + 1 + 1) (o := 0) rfl rfl hB.whole Tryz.underlying24 rfl (sc_info2 _ _)) rfl ?_
 exact ⟨none, 0, [], rfl, ⟨.inl rfl, by simp⟩, rfl, (fun z hz => by cases hz), below_setCells (below_setCells KB.out (by omega) 0 [_]) (by omega) 1 [_]⟩
end Go.Proofs.YtaciegkblklokaaGreat.typing
