/- Lemmas of the claim HTypingRight. Each says its own conditions. -/
import Derived.Test.YtiajpjkkopdmgaaClHTypingRightR
import Derived.Test.YtiajpjkkopdmgaaClHTypingRightP
import Derived.Deep.CutRange
import Derived.Test.YtiajpjkkopdmgaaClHTypingRightN
import Derived.Test.YtiajpjkkopdmgaaClHTypingRightJ
import Derived.Conc.WalkWords
/- A region whose order is given, walked with its tests left open: an operation behind '&&' or '||' is run where its test holds, skipped where not, and the two ways meet again. No condition. -/
namespace Go.Proofs.Ytiajpjkkopdmgaa.plan
open Go Go.RowKit
set_option linter.unusedVariables false
/-- the test that a value stands for holds -/
def gate (x : Value) (want : Bool) : Bool := (match x with | .bool b => some b | _ => none : Option Bool) == some want
theorem gate_iff {x : Value} {want : Bool} : gate x want = true ↔ x = .bool want := by
  unfold gate
  cases x <;> simp
theorem wanted_gate {o : Oper} {ops : Array Oper} {tmps : Array Value} {j : Nat} {want : Bool} {x : Value} (hg : o.guard = some (j, want)) (hj : ((ops[j]?).bind (·.dst)).bind (tmps[·]?) = some x) : Region.wanted o (yielded ops tmps) = gate x want := by
  unfold Region.wanted yielded gate
  rw [hg]
  simp only [hj]
  cases x <;> rfl
section
variable {P : Program} {l : List Oper} {Q : Exit → Act → World → Prop} {a : Act} {w : World}
theorem sym_op (i j : Nat) (o : Oper) (want : Bool) (x v : Value) (hi : l[i]? = some o) (hg : o.guard = some (j, want)) (hj : ((l.toArray[j]?).bind (·.dst)).bind (a.tmps[·]?) = some x)
    (hv : x = .bool want → (execOp a.eval o).run P w = .ok (.value v) w) (h : ∀ y, (x = .bool want → y = v) → Line P l Q (i + 1) (a.put o.dst y) w) : Line P l Q i a w := by
  by_cases hb : gate x want = true
  · exact line_same i o v hi ((wanted_gate hg hj).trans hb) (hv (gate_iff.1 hb)) (h v (fun _ => rfl))
  · exact line_skip i o hi ((wanted_gate hg hj).trans (by simpa using hb)) (h undef (fun e => absurd (gate_iff.2 e) hb))
theorem sym_call (i j : Nat) (o : Oper) (want : Bool) (x v : Value) (F : FuncId) (args : Array Value) (S : World → Prop) (hi : l[i]? = some o) (hg : o.guard = some (j, want)) (hj : ((l.toArray[j]?).bind (·.dst)).bind (a.tmps[·]?) = some x) (hS : S w)
    (hv : x = .bool want → (execOp a.eval o).run P w = .ok (.enter F args) w) (hC : x = .bool want → Calls P F args w fun e w' => e = .returned v ∧ S w') (h : ∀ y w', S w' → (x = .bool want → y = v) → Line P l Q (i + 1) (a.put o.dst y) w') : Line P l Q i a w := by
  by_cases hb : gate x want = true
  · refine line_call i o F args hi ((wanted_gate hg hj).trans hb) (hv (gate_iff.1 hb)) ((hC (gate_iff.1 hb)).mono ?_)
    rintro e w' ⟨rfl, hS'⟩
    exact ⟨v, rfl, h v w' hS' (fun _ => rfl)⟩
  · exact line_skip i o hi ((wanted_gate hg hj).trans (by simpa using hb)) (h undef w hS (fun e => absurd (gate_iff.2 e) hb))
theorem call_S (i : Nat) (o : Oper) (v : Value) (F : FuncId) (args : Array Value) (S : World → Prop) (hi : l[i]? = some o) (hw : Region.wanted o (yielded l.toArray a.tmps) = true)
    (hv : (execOp a.eval o).run P w = .ok (.enter F args) w) (hC : Calls P F args w fun e w' => e = .returned v ∧ S w') (h : ∀ w', S w' → Line P l Q (i + 1) (a.put o.dst v) w') : Line P l Q i a w := by
  refine line_call i o F args hi hw hv (hC.mono ?_)
  rintro e w' ⟨rfl, hS'⟩
  exact ⟨v, rfl, h w' hS'⟩
theorem exec_pick_or {o : Oper} {x y : Operand} {c e : Bool} (ho : o.op = .pick x (.const (.bool true)) y) (hx : a.eval x = .bool c) (hy : c = false → a.eval y = .bool e) : (execOp a.eval o).run P w = .ok (.value (.bool (c || e))) w := by
  unfold execOp
  rw [ho]
  cases c
  · simp only [hx, hy rfl]; go_simp
  · simp only [hx]; go_simp
theorem exec_pick_and {o : Oper} {x y : Operand} {c e : Bool} (ho : o.op = .pick x y (.const (.bool false))) (hx : a.eval x = .bool c) (hy : c = true → a.eval y = .bool e) : (execOp a.eval o).run P w = .ok (.value (.bool (c && e))) w := by
  unfold execOp
  rw [ho]
  cases c
  · simp only [hx]; go_simp
  · simp only [hx, hy rfl]; go_simp
theorem exec_as {o : Oper} {c e : Bool} (h : (execOp a.eval o).run P w = .ok (.value (.bool c)) w) (he : c = e) : (execOp a.eval o).run P w = .ok (.value (.bool e)) w := he ▸ h
theorem exec_assign_b {o : Oper} {x : Operand} {c e : Bool} (ho : o.op = .assign x) (hx : a.eval x = .bool c) (he : c = e) : (execOp a.eval o).run P w = .ok (.value (.bool e)) w := by
  unfold execOp
  rw [ho]
  simp only [hx, he]
  go_simp
end
end Go.Proofs.Ytiajpjkkopdmgaa.plan
/- Contracts of the reference of layer 15 (step): zero. No condition. -/
namespace Go.Proofs.Ytiajpjkkopdmgaa.step
open Go.RowKit
open Go.Proofs.Ytiajpjkkopdmgaa.field (Gives newB gives_from)
open Go.Proofs.Ytiajpjkkopdmgaa.schema (below_out exec_two exec_load_at exec_cell_slice exec_cell_int exec_neq_int exec_gtr_int info_fd)
set_option linter.unusedVariables false

theorem exec_eql_int {o : Oper} {a : Act} {w : World} {x y : Operand} {t' : TypeId} {n m : Int} (ho : o.op = .binOp .eql 3 x y t') (hx : a.eval x = .int .i64 n) (hy : a.eval y = .int .i64 m) : (execOp a.eval o).run Try.prog w = .ok (.value (.bool (n == m))) w :=
  exec_two ho hx hy (by simp [go_sem]) (by simp [go_sem])
/-- all that is not used is zero, as the reference asks it -/
def Sp.zeroB (s : Sp) : Bool :=
  ((((HasC s.op 100 || s.fd == 0) && (HasC s.op 112 || s.pl == 0)) && (HasC s.op 116 || s.tt == 0)) && ((HasC s.op 97 || HasC s.op 98) || s.a == 0) && (HasC s.op 98 || s.b == 0)) &&
    (HasC s.op 70 || decide (s.f = fd0)) && (HasC s.op 86 || decide (s.v = va0)) && (HasC s.op 84 || (s.t.length : Int) == 0) && (HasC s.op 76 || (s.l.length : Int) == 0)
set_option maxRecDepth 20000 in
set_option maxHeartbeats 6400000 in
theorem refZero_any (s : Sp) (ta : Option Addr) (tc : Nat) (la : Option Addr) (lc : Nat) (w : World) (h : Lists w s ta la) : Calls Try.prog 54 #[.agg #[.int .i64 s.op, .int .i64 s.fm, .int .i64 s.fd, .int .i64 s.pl, .int .i64 s.tt, .int .i64 s.a, .int .i64 s.b, .int .i64 s.f.id, .int .i64 s.f.kind, .int .i64 s.f.lo, .int .i64 s.f.hi, .int .i64 s.f.most, .int .i64 s.v.n, .string s.v.s, .slice ta s.t.length tc, .slice la s.l.length lc]] w (Gives (.bool s.zeroB) w) := by
  have HZ : Hid (∀ w', Below (w.alloc (.cells #[.int .i64 s.op, .int .i64 s.fm, .int .i64 s.fd, .int .i64 s.pl, .int .i64 s.tt, .int .i64 s.a, .int .i64 s.b, .int .i64 s.f.id, .int .i64 s.f.kind, .int .i64 s.f.lo, .int .i64 s.f.hi, .int .i64 s.f.most, .int .i64 s.v.n, .string s.v.s, .slice ta s.t.length tc, .slice la s.l.length lc] 32)).heap.size (w.alloc (.cells #[.int .i64 s.op, .int .i64 s.fm, .int .i64 s.fd, .int .i64 s.pl, .int .i64 s.tt, .int .i64 s.a, .int .i64 s.b, .int .i64 s.f.id, .int .i64 s.f.kind, .int .i64 s.f.lo, .int .i64 s.f.hi, .int .i64 s.f.most, .int .i64 s.v.n, .string s.v.s, .slice ta s.t.length tc, .slice la s.l.length lc] 32)) w' → Block w' w.heap.size 32 [.int .i64 s.op, .int .i64 s.fm, .int .i64 s.fd, .int .i64 s.pl, .int .i64 s.tt, .int .i64 s.a, .int .i64 s.b, .int .i64 s.f.id, .int .i64 s.f.kind, .int .i64 s.f.lo, .int .i64 s.f.hi, .int .i64 s.f.most, .int .i64 s.v.n, .string s.v.s, .slice ta s.t.length tc, .slice la s.l.length lc]) := hid (fun w' hb => (Block.new w 32 [.int .i64 s.op, .int .i64 s.fm, .int .i64 s.fd, .int .i64 s.pl, .int .i64 s.tt, .int .i64 s.a, .int .i64 s.b, .int .i64 s.f.id, .int .i64 s.f.kind, .int .i64 s.f.lo, .int .i64 s.f.hi, .int .i64 s.f.most, .int .i64 s.v.n, .string s.v.s, .slice ta s.t.length tc, .slice la s.l.length lc]).later hb)
  have HL := hid (h.below (newB w (.cells #[.int .i64 s.op, .int .i64 s.fm, .int .i64 s.fd, .int .i64 s.pl, .int .i64 s.tt, .int .i64 s.a, .int .i64 s.b, .int .i64 s.f.id, .int .i64 s.f.kind, .int .i64 s.f.lo, .int .i64 s.f.hi, .int .i64 s.f.most, .int .i64 s.v.n, .string s.v.s, .slice ta s.t.length tc, .slice la s.l.length lc] 32)))
  have HB0 := hid (newB w (.cells #[.int .i64 s.op, .int .i64 s.fm, .int .i64 s.fd, .int .i64 s.pl, .int .i64 s.tt, .int .i64 s.a, .int .i64 s.b, .int .i64 s.f.id, .int .i64 s.f.kind, .int .i64 s.f.lo, .int .i64 s.f.hi, .int .i64 s.f.most, .int .i64 s.v.n, .string s.v.s, .slice ta s.t.length tc, .slice la s.l.length lc] 32))
  obtain ⟨W0, hW0⟩ : ∃ x, (w.alloc (.cells #[.int .i64 s.op, .int .i64 s.fm, .int .i64 s.fd, .int .i64 s.pl, .int .i64 s.tt, .int .i64 s.a, .int .i64 s.b, .int .i64 s.f.id, .int .i64 s.f.kind, .int .i64 s.f.lo, .int .i64 s.f.hi, .int .i64 s.f.most, .int .i64 s.v.n, .string s.v.s, .slice ta s.t.length tc, .slice la s.l.length lc] 32)) = x := ⟨_, rfl⟩
  have HW0 := hid hW0
  rw [hW0] at HZ HL HB0
  clear h hW0
  unfold Gives
  go_enter Try.func54, Try.ntmps54
  go_upto_region 1 with fail
  rw [HW0.out]
  have hS0 : Below W0.heap.size W0 W0 := Below.refl _ _
  refine plan.line ?_
  refine plan.line_same 0 _ (.pointer (some ⟨w.heap.size, 0, none⟩)) rfl (by kernel_rfl) (by kernel_rfl) ?_
  refine plan.line_same 1 _ (.int .i64 s.op) rfl (by kernel_rfl) (exec_cell_int (ad := ⟨w.heap.size, 0, none⟩) rfl (by kernel_rfl) ((HZ.out _ hS0).cell 0) Try.isAgg3) ?_
  refine plan.call_S 2 _ (.bool (HasC s.op 100)) 57 #[.int .i64 s.op, .int .u8 100] (fun w' => Below W0.heap.size W0 w') rfl (by kernel_rfl) (by kernel_rfl) (gives_from (has_any s.op 100 W0) hS0) ?_
  intro wa2 hSa2
  refine plan.line_same 3 _ (.bool (HasC s.op 100)) rfl (by kernel_rfl) (by kernel_rfl) ?_
  refine plan.sym_op 4 3 _ false (.bool (HasC s.op 100)) (.pointer (some ⟨w.heap.size, 2, none⟩)) rfl rfl (by kernel_rfl) (fun K => (by kernel_rfl)) ?_
  intro xa4 ha4
  refine plan.sym_op 5 3 _ false (.bool (HasC s.op 100)) (.int .i64 s.fd) rfl rfl (by kernel_rfl) (fun K => by have e := ha4 K; subst e; exact (exec_cell_int (ad := ⟨w.heap.size, 2, none⟩) rfl (by kernel_rfl) ((HZ.out _ hSa2).cell 2) Try.isAgg3)) ?_
  intro xa5 ha5
  refine plan.sym_op 6 3 _ false (.bool (HasC s.op 100)) (.bool (s.fd == 0)) rfl rfl (by kernel_rfl) (fun K => by have e := ha5 K; subst e; exact (exec_eql_int (n := s.fd) (m := 0) rfl (by kernel_rfl) (by kernel_rfl))) ?_
  intro xa6 ha6
  refine plan.line_same 7 _ (.bool ((HasC s.op 100) || (s.fd == 0))) rfl (by kernel_rfl) (plan.exec_pick_or (c := (HasC s.op 100)) (e := (s.fd == 0)) rfl (by kernel_rfl) (fun q => Eq.trans (b := xa6) (by kernel_rfl) (ha6 (by rw [q])))) ?_
  refine plan.line_same 8 _ (.bool ((HasC s.op 100) || (s.fd == 0))) rfl (by kernel_rfl) (by kernel_rfl) ?_
  refine plan.sym_op 9 8 _ true (.bool ((HasC s.op 100) || (s.fd == 0))) (.pointer (some ⟨w.heap.size, 0, none⟩)) rfl rfl (by kernel_rfl) (fun K => (by kernel_rfl)) ?_
  intro xa9 ha9
  refine plan.sym_op 10 8 _ true (.bool ((HasC s.op 100) || (s.fd == 0))) (.int .i64 s.op) rfl rfl (by kernel_rfl) (fun K => by have e := ha9 K; subst e; exact (exec_cell_int (ad := ⟨w.heap.size, 0, none⟩) rfl (by kernel_rfl) ((HZ.out _ hSa2).cell 0) Try.isAgg3)) ?_
  intro xa10 ha10
  refine plan.sym_call 11 8 _ true (.bool ((HasC s.op 100) || (s.fd == 0))) (.bool (HasC s.op 112)) 57 #[.int .i64 s.op, .int .u8 112] (fun w' => Below W0.heap.size W0 w') rfl rfl (by kernel_rfl) hSa2 (fun K => by have e := ha10 K; subst e; show _ = _; kernel_rfl) (fun K => gives_from (has_any s.op 112 wa2) hSa2) ?_
  intro xa11 wa11 hSa11 ha11
  refine plan.sym_op 12 8 _ true (.bool ((HasC s.op 100) || (s.fd == 0))) (.bool (HasC s.op 112)) rfl rfl (by kernel_rfl) (fun K => by have e := ha11 K; subst e; show _ = _; kernel_rfl) ?_
  intro xa12 ha12
  refine plan.sym_op 13 12 _ false (xa12) (.pointer (some ⟨w.heap.size, 3, none⟩)) rfl rfl (by kernel_rfl) (fun K => (by kernel_rfl)) ?_
  intro xa13 ha13
  refine plan.sym_op 14 12 _ false (xa12) (.int .i64 s.pl) rfl rfl (by kernel_rfl) (fun K => by have e := ha13 K; subst e; exact (exec_cell_int (ad := ⟨w.heap.size, 3, none⟩) rfl (by kernel_rfl) ((HZ.out _ hSa11).cell 3) Try.isAgg3)) ?_
  intro xa14 ha14
  refine plan.sym_op 15 12 _ false (xa12) (.bool (s.pl == 0)) rfl rfl (by kernel_rfl) (fun K => by have e := ha14 K; subst e; exact (exec_eql_int (n := s.pl) (m := 0) rfl (by kernel_rfl) (by kernel_rfl))) ?_
  intro xa15 ha15
  refine plan.sym_op 16 8 _ true (.bool ((HasC s.op 100) || (s.fd == 0))) (.bool ((HasC s.op 112) || (s.pl == 0))) rfl rfl (by kernel_rfl) (fun K => by have e := ha12 K; subst e; exact (plan.exec_pick_or (c := (HasC s.op 112)) (e := (s.pl == 0)) rfl (by kernel_rfl) (fun q => Eq.trans (b := xa15) (by kernel_rfl) (ha15 (by rw [q]))))) ?_
  intro xa16 ha16
  refine plan.line_same 17 _ (.bool (((HasC s.op 100) || (s.fd == 0)) && ((HasC s.op 112) || (s.pl == 0)))) rfl (by kernel_rfl) (plan.exec_pick_and (c := ((HasC s.op 100) || (s.fd == 0))) (e := ((HasC s.op 112) || (s.pl == 0))) rfl (by kernel_rfl) (fun q => Eq.trans (b := xa16) (by kernel_rfl) (ha16 (by rw [q])))) ?_
  refine plan.line_same 18 _ (.bool (((HasC s.op 100) || (s.fd == 0)) && ((HasC s.op 112) || (s.pl == 0)))) rfl (by kernel_rfl) (by kernel_rfl) ?_
  refine plan.sym_op 19 18 _ true (.bool (((HasC s.op 100) || (s.fd == 0)) && ((HasC s.op 112) || (s.pl == 0)))) (.pointer (some ⟨w.heap.size, 0, none⟩)) rfl rfl (by kernel_rfl) (fun K => (by kernel_rfl)) ?_
  intro xa19 ha19
  refine plan.sym_op 20 18 _ true (.bool (((HasC s.op 100) || (s.fd == 0)) && ((HasC s.op 112) || (s.pl == 0)))) (.int .i64 s.op) rfl rfl (by kernel_rfl) (fun K => by have e := ha19 K; subst e; exact (exec_cell_int (ad := ⟨w.heap.size, 0, none⟩) rfl (by kernel_rfl) ((HZ.out _ hSa11).cell 0) Try.isAgg3)) ?_
  intro xa20 ha20
  refine plan.sym_call 21 18 _ true (.bool (((HasC s.op 100) || (s.fd == 0)) && ((HasC s.op 112) || (s.pl == 0)))) (.bool (HasC s.op 116)) 57 #[.int .i64 s.op, .int .u8 116] (fun w' => Below W0.heap.size W0 w') rfl rfl (by kernel_rfl) hSa11 (fun K => by have e := ha20 K; subst e; show _ = _; kernel_rfl) (fun K => gives_from (has_any s.op 116 wa11) hSa11) ?_
  intro xa21 wa21 hSa21 ha21
  refine plan.sym_op 22 18 _ true (.bool (((HasC s.op 100) || (s.fd == 0)) && ((HasC s.op 112) || (s.pl == 0)))) (.bool (HasC s.op 116)) rfl rfl (by kernel_rfl) (fun K => by have e := ha21 K; subst e; show _ = _; kernel_rfl) ?_
  intro xa22 ha22
  refine plan.sym_op 23 22 _ false (xa22) (.pointer (some ⟨w.heap.size, 4, none⟩)) rfl rfl (by kernel_rfl) (fun K => (by kernel_rfl)) ?_
  intro xa23 ha23
  refine plan.sym_op 24 22 _ false (xa22) (.int .i64 s.tt) rfl rfl (by kernel_rfl) (fun K => by have e := ha23 K; subst e; exact (exec_cell_int (ad := ⟨w.heap.size, 4, none⟩) rfl (by kernel_rfl) ((HZ.out _ hSa21).cell 4) Try.isAgg3)) ?_
  intro xa24 ha24
  refine plan.sym_op 25 22 _ false (xa22) (.bool (s.tt == 0)) rfl rfl (by kernel_rfl) (fun K => by have e := ha24 K; subst e; exact (exec_eql_int (n := s.tt) (m := 0) rfl (by kernel_rfl) (by kernel_rfl))) ?_
  intro xa25 ha25
  refine plan.sym_op 26 18 _ true (.bool (((HasC s.op 100) || (s.fd == 0)) && ((HasC s.op 112) || (s.pl == 0)))) (.bool ((HasC s.op 116) || (s.tt == 0))) rfl rfl (by kernel_rfl) (fun K => by have e := ha22 K; subst e; exact (plan.exec_pick_or (c := (HasC s.op 116)) (e := (s.tt == 0)) rfl (by kernel_rfl) (fun q => Eq.trans (b := xa25) (by kernel_rfl) (ha25 (by rw [q]))))) ?_
  intro xa26 ha26
  refine plan.line_same 27 _ (.bool ((((HasC s.op 100) || (s.fd == 0)) && ((HasC s.op 112) || (s.pl == 0))) && ((HasC s.op 116) || (s.tt == 0)))) rfl (by kernel_rfl) (plan.exec_pick_and (c := (((HasC s.op 100) || (s.fd == 0)) && ((HasC s.op 112) || (s.pl == 0)))) (e := ((HasC s.op 116) || (s.tt == 0))) rfl (by kernel_rfl) (fun q => Eq.trans (b := xa26) (by kernel_rfl) (ha26 (by rw [q])))) ?_
  obtain ⟨k1, hk1⟩ : ∃ q, Hid (((((HasC s.op 100) || (s.fd == 0)) && ((HasC s.op 112) || (s.pl == 0))) && ((HasC s.op 116) || (s.tt == 0))) = q) := ⟨_, hid rfl⟩
  refine plan.line_same 28 _ (.bool k1) rfl (by kernel_rfl) (plan.exec_assign_b (c := ((((HasC s.op 100) || (s.fd == 0)) && ((HasC s.op 112) || (s.pl == 0))) && ((HasC s.op 116) || (s.tt == 0)))) rfl (by kernel_rfl) hk1.out) ?_
  refine plan.line_done (by decide) ?_
  walk_nrm
  go_upto_region 2 with fail
  refine plan.line ?_
  refine plan.line_same 0 _ (.bool k1) rfl (by kernel_rfl) (by kernel_rfl) ?_
  refine plan.line_same 1 _ (.bool k1) rfl (by kernel_rfl) (by kernel_rfl) ?_
  refine plan.sym_op 2 1 _ true (.bool k1) (.pointer (some ⟨w.heap.size, 0, none⟩)) rfl rfl (by kernel_rfl) (fun K => (by kernel_rfl)) ?_
  intro xb2 hb2
  refine plan.sym_op 3 1 _ true (.bool k1) (.int .i64 s.op) rfl rfl (by kernel_rfl) (fun K => by have e := hb2 K; subst e; exact (exec_cell_int (ad := ⟨w.heap.size, 0, none⟩) rfl (by kernel_rfl) ((HZ.out _ hSa21).cell 0) Try.isAgg3)) ?_
  intro xb3 hb3
  refine plan.sym_call 4 1 _ true (.bool k1) (.bool (HasC s.op 97)) 57 #[.int .i64 s.op, .int .u8 97] (fun w' => Below W0.heap.size W0 w') rfl rfl (by kernel_rfl) hSa21 (fun K => by have e := hb3 K; subst e; show _ = _; kernel_rfl) (fun K => gives_from (has_any s.op 97 wa21) hSa21) ?_
  intro xb4 wb4 hSb4 hb4
  refine plan.sym_op 5 1 _ true (.bool k1) (.bool (HasC s.op 97)) rfl rfl (by kernel_rfl) (fun K => by have e := hb4 K; subst e; show _ = _; kernel_rfl) ?_
  intro xb5 hb5
  refine plan.sym_op 6 5 _ false (xb5) (.pointer (some ⟨w.heap.size, 0, none⟩)) rfl rfl (by kernel_rfl) (fun K => (by kernel_rfl)) ?_
  intro xb6 hb6
  refine plan.sym_op 7 5 _ false (xb5) (.int .i64 s.op) rfl rfl (by kernel_rfl) (fun K => by have e := hb6 K; subst e; exact (exec_cell_int (ad := ⟨w.heap.size, 0, none⟩) rfl (by kernel_rfl) ((HZ.out _ hSb4).cell 0) Try.isAgg3)) ?_
  intro xb7 hb7
  refine plan.sym_call 8 5 _ false (xb5) (.bool (HasC s.op 98)) 57 #[.int .i64 s.op, .int .u8 98] (fun w' => Below W0.heap.size W0 w') rfl rfl (by kernel_rfl) hSb4 (fun K => by have e := hb7 K; subst e; show _ = _; kernel_rfl) (fun K => gives_from (has_any s.op 98 wb4) hSb4) ?_
  intro xb8 wb8 hSb8 hb8
  refine plan.sym_op 9 1 _ true (.bool k1) (.bool ((HasC s.op 97) || (HasC s.op 98))) rfl rfl (by kernel_rfl) (fun K => by have e := hb5 K; subst e; exact (plan.exec_pick_or (c := (HasC s.op 97)) (e := (HasC s.op 98)) rfl (by kernel_rfl) (fun q => Eq.trans (b := xb8) (by kernel_rfl) (hb8 (by rw [q]))))) ?_
  intro xb9 hb9
  refine plan.sym_op 10 1 _ true (.bool k1) (.bool ((HasC s.op 97) || (HasC s.op 98))) rfl rfl (by kernel_rfl) (fun K => by have e := hb9 K; subst e; show _ = _; kernel_rfl) ?_
  intro xb10 hb10
  refine plan.sym_op 11 10 _ false (xb10) (.pointer (some ⟨w.heap.size, 5, none⟩)) rfl rfl (by kernel_rfl) (fun K => (by kernel_rfl)) ?_
  intro xb11 hb11
  refine plan.sym_op 12 10 _ false (xb10) (.int .i64 s.a) rfl rfl (by kernel_rfl) (fun K => by have e := hb11 K; subst e; exact (exec_cell_int (ad := ⟨w.heap.size, 5, none⟩) rfl (by kernel_rfl) ((HZ.out _ hSb8).cell 5) Try.isAgg3)) ?_
  intro xb12 hb12
  refine plan.sym_op 13 10 _ false (xb10) (.bool (s.a == 0)) rfl rfl (by kernel_rfl) (fun K => by have e := hb12 K; subst e; exact (exec_eql_int (n := s.a) (m := 0) rfl (by kernel_rfl) (by kernel_rfl))) ?_
  intro xb13 hb13
  refine plan.sym_op 14 1 _ true (.bool k1) (.bool (((HasC s.op 97) || (HasC s.op 98)) || (s.a == 0))) rfl rfl (by kernel_rfl) (fun K => by have e := hb10 K; subst e; exact (plan.exec_pick_or (c := ((HasC s.op 97) || (HasC s.op 98))) (e := (s.a == 0)) rfl (by kernel_rfl) (fun q => Eq.trans (b := xb13) (by kernel_rfl) (hb13 (by rw [q]))))) ?_
  intro xb14 hb14
  refine plan.line_same 15 _ (.bool (k1 && (((HasC s.op 97) || (HasC s.op 98)) || (s.a == 0)))) rfl (by kernel_rfl) (plan.exec_pick_and (c := k1) (e := (((HasC s.op 97) || (HasC s.op 98)) || (s.a == 0))) rfl (by kernel_rfl) (fun q => Eq.trans (b := xb14) (by kernel_rfl) (hb14 (by rw [q])))) ?_
  refine plan.line_same 16 _ (.bool (k1 && (((HasC s.op 97) || (HasC s.op 98)) || (s.a == 0)))) rfl (by kernel_rfl) (by kernel_rfl) ?_
  refine plan.sym_op 17 16 _ true (.bool (k1 && (((HasC s.op 97) || (HasC s.op 98)) || (s.a == 0)))) (.pointer (some ⟨w.heap.size, 0, none⟩)) rfl rfl (by kernel_rfl) (fun K => (by kernel_rfl)) ?_
  intro xb17 hb17
  refine plan.sym_op 18 16 _ true (.bool (k1 && (((HasC s.op 97) || (HasC s.op 98)) || (s.a == 0)))) (.int .i64 s.op) rfl rfl (by kernel_rfl) (fun K => by have e := hb17 K; subst e; exact (exec_cell_int (ad := ⟨w.heap.size, 0, none⟩) rfl (by kernel_rfl) ((HZ.out _ hSb8).cell 0) Try.isAgg3)) ?_
  intro xb18 hb18
  refine plan.sym_call 19 16 _ true (.bool (k1 && (((HasC s.op 97) || (HasC s.op 98)) || (s.a == 0)))) (.bool (HasC s.op 98)) 57 #[.int .i64 s.op, .int .u8 98] (fun w' => Below W0.heap.size W0 w') rfl rfl (by kernel_rfl) hSb8 (fun K => by have e := hb18 K; subst e; show _ = _; kernel_rfl) (fun K => gives_from (has_any s.op 98 wb8) hSb8) ?_
  intro xb19 wb19 hSb19 hb19
  refine plan.sym_op 20 16 _ true (.bool (k1 && (((HasC s.op 97) || (HasC s.op 98)) || (s.a == 0)))) (.bool (HasC s.op 98)) rfl rfl (by kernel_rfl) (fun K => by have e := hb19 K; subst e; show _ = _; kernel_rfl) ?_
  intro xb20 hb20
  refine plan.sym_op 21 20 _ false (xb20) (.pointer (some ⟨w.heap.size, 6, none⟩)) rfl rfl (by kernel_rfl) (fun K => (by kernel_rfl)) ?_
  intro xb21 hb21
  refine plan.sym_op 22 20 _ false (xb20) (.int .i64 s.b) rfl rfl (by kernel_rfl) (fun K => by have e := hb21 K; subst e; exact (exec_cell_int (ad := ⟨w.heap.size, 6, none⟩) rfl (by kernel_rfl) ((HZ.out _ hSb19).cell 6) Try.isAgg3)) ?_
  intro xb22 hb22
  refine plan.sym_op 23 20 _ false (xb20) (.bool (s.b == 0)) rfl rfl (by kernel_rfl) (fun K => by have e := hb22 K; subst e; exact (exec_eql_int (n := s.b) (m := 0) rfl (by kernel_rfl) (by kernel_rfl))) ?_
  intro xb23 hb23
  refine plan.sym_op 24 16 _ true (.bool (k1 && (((HasC s.op 97) || (HasC s.op 98)) || (s.a == 0)))) (.bool ((HasC s.op 98) || (s.b == 0))) rfl rfl (by kernel_rfl) (fun K => by have e := hb20 K; subst e; exact (plan.exec_pick_or (c := (HasC s.op 98)) (e := (s.b == 0)) rfl (by kernel_rfl) (fun q => Eq.trans (b := xb23) (by kernel_rfl) (hb23 (by rw [q]))))) ?_
  intro xb24 hb24
  refine plan.line_same 25 _ (.bool ((k1 && (((HasC s.op 97) || (HasC s.op 98)) || (s.a == 0))) && ((HasC s.op 98) || (s.b == 0)))) rfl (by kernel_rfl) (plan.exec_pick_and (c := (k1 && (((HasC s.op 97) || (HasC s.op 98)) || (s.a == 0)))) (e := ((HasC s.op 98) || (s.b == 0))) rfl (by kernel_rfl) (fun q => Eq.trans (b := xb24) (by kernel_rfl) (hb24 (by rw [q])))) ?_
  obtain ⟨k2, hk2⟩ : ∃ q, Hid (((k1 && (((HasC s.op 97) || (HasC s.op 98)) || (s.a == 0))) && ((HasC s.op 98) || (s.b == 0))) = q) := ⟨_, hid rfl⟩
  refine plan.line_same 26 _ (.bool k2) rfl (by kernel_rfl) (plan.exec_assign_b (c := ((k1 && (((HasC s.op 97) || (HasC s.op 98)) || (s.a == 0))) && ((HasC s.op 98) || (s.b == 0)))) rfl (by kernel_rfl) hk2.out) ?_
  refine plan.line_done (by decide) ?_
  walk_nrm
  go_upto_region 3 with fail
  refine plan.line ?_
  refine plan.line_same 0 _ (.bool k2) rfl (by kernel_rfl) (by kernel_rfl) ?_
  refine plan.line_same 1 _ (.bool k2) rfl (by kernel_rfl) (by kernel_rfl) ?_
  refine plan.sym_op 2 1 _ true (.bool k2) (.pointer (some ⟨w.heap.size, 0, none⟩)) rfl rfl (by kernel_rfl) (fun K => (by kernel_rfl)) ?_
  intro xc2 hc2
  refine plan.sym_op 3 1 _ true (.bool k2) (.int .i64 s.op) rfl rfl (by kernel_rfl) (fun K => by have e := hc2 K; subst e; exact (exec_cell_int (ad := ⟨w.heap.size, 0, none⟩) rfl (by kernel_rfl) ((HZ.out _ hSb19).cell 0) Try.isAgg3)) ?_
  intro xc3 hc3
  refine plan.sym_call 4 1 _ true (.bool k2) (.bool (HasC s.op 70)) 57 #[.int .i64 s.op, .int .u8 70] (fun w' => Below W0.heap.size W0 w') rfl rfl (by kernel_rfl) hSb19 (fun K => by have e := hc3 K; subst e; show _ = _; kernel_rfl) (fun K => gives_from (has_any s.op 70 wb19) hSb19) ?_
  intro xc4 wc4 hSc4 hc4
  refine plan.sym_op 5 1 _ true (.bool k2) (.bool (HasC s.op 70)) rfl rfl (by kernel_rfl) (fun K => by have e := hc4 K; subst e; show _ = _; kernel_rfl) ?_
  intro xc5 hc5
  refine plan.sym_op 6 5 _ false (xc5) (.pointer (some ⟨w.heap.size, 7, none⟩)) rfl rfl (by kernel_rfl) (fun K => (by kernel_rfl)) ?_
  intro xc6 hc6
  refine plan.sym_op 7 5 _ false (xc5) (.agg #[.int .i64 s.f.id, .int .i64 s.f.kind, .int .i64 s.f.lo, .int .i64 s.f.hi, .int .i64 s.f.most]) rfl rfl (by kernel_rfl) (fun K => by have e := hc6 K; subst e; exact (exec_load_at (b := w.heap.size) (off := 7) rfl (by kernel_rfl) (range_f (HZ.out _ hSc4)) Try.underlying26 rfl info_fd.out)) ?_
  intro xc7 hc7
  refine plan.sym_op 8 5 _ false (xc5) (.agg #[.int .i64 fd0.id, .int .i64 fd0.kind, .int .i64 fd0.lo, .int .i64 fd0.hi, .int .i64 fd0.most]) rfl rfl (by kernel_rfl) (fun K => (by kernel_rfl)) ?_
  intro xc8 hc8
  refine plan.sym_op 9 5 _ false (xc5) (.bool (decide (s.f = fd0))) rfl rfl (by kernel_rfl) (fun K => by have e := hc7 K; subst e; have e := hc8 K; subst e; exact (exec_two rfl (by kernel_rfl) (by kernel_rfl) (eqg_fd _ _ _ _ _ _) (eq_fd s.f fd0 _))) ?_
  intro xc9 hc9
  refine plan.sym_op 10 1 _ true (.bool k2) (.bool ((HasC s.op 70) || (decide (s.f = fd0)))) rfl rfl (by kernel_rfl) (fun K => by have e := hc5 K; subst e; exact (plan.exec_pick_or (c := (HasC s.op 70)) (e := (decide (s.f = fd0))) rfl (by kernel_rfl) (fun q => Eq.trans (b := xc9) (by kernel_rfl) (hc9 (by rw [q]))))) ?_
  intro xc10 hc10
  refine plan.line_same 11 _ (.bool (k2 && ((HasC s.op 70) || (decide (s.f = fd0))))) rfl (by kernel_rfl) (plan.exec_pick_and (c := k2) (e := ((HasC s.op 70) || (decide (s.f = fd0)))) rfl (by kernel_rfl) (fun q => Eq.trans (b := xc10) (by kernel_rfl) (hc10 (by rw [q])))) ?_
  refine plan.line_same 12 _ (.bool (k2 && ((HasC s.op 70) || (decide (s.f = fd0))))) rfl (by kernel_rfl) (by kernel_rfl) ?_
  refine plan.sym_op 13 12 _ true (.bool (k2 && ((HasC s.op 70) || (decide (s.f = fd0))))) (.pointer (some ⟨w.heap.size, 0, none⟩)) rfl rfl (by kernel_rfl) (fun K => (by kernel_rfl)) ?_
  intro xc13 hc13
  refine plan.sym_op 14 12 _ true (.bool (k2 && ((HasC s.op 70) || (decide (s.f = fd0))))) (.int .i64 s.op) rfl rfl (by kernel_rfl) (fun K => by have e := hc13 K; subst e; exact (exec_cell_int (ad := ⟨w.heap.size, 0, none⟩) rfl (by kernel_rfl) ((HZ.out _ hSc4).cell 0) Try.isAgg3)) ?_
  intro xc14 hc14
  refine plan.sym_call 15 12 _ true (.bool (k2 && ((HasC s.op 70) || (decide (s.f = fd0))))) (.bool (HasC s.op 86)) 57 #[.int .i64 s.op, .int .u8 86] (fun w' => Below W0.heap.size W0 w') rfl rfl (by kernel_rfl) hSc4 (fun K => by have e := hc14 K; subst e; show _ = _; kernel_rfl) (fun K => gives_from (has_any s.op 86 wc4) hSc4) ?_
  intro xc15 wc15 hSc15 hc15
  refine plan.sym_op 16 12 _ true (.bool (k2 && ((HasC s.op 70) || (decide (s.f = fd0))))) (.bool (HasC s.op 86)) rfl rfl (by kernel_rfl) (fun K => by have e := hc15 K; subst e; show _ = _; kernel_rfl) ?_
  intro xc16 hc16
  refine plan.sym_op 17 16 _ false (xc16) (.pointer (some ⟨w.heap.size, 12, none⟩)) rfl rfl (by kernel_rfl) (fun K => (by kernel_rfl)) ?_
  intro xc17 hc17
  refine plan.sym_op 18 16 _ false (xc16) (.agg #[.int .i64 s.v.n, .string s.v.s]) rfl rfl (by kernel_rfl) (fun K => by have e := hc17 K; subst e; exact (exec_load_at (b := w.heap.size) (off := 12) rfl (by kernel_rfl) (range_v (HZ.out _ hSc15)) Try.underlying28 rfl info_va.out)) ?_
  intro xc18 hc18
  refine plan.sym_op 19 16 _ false (xc16) (.agg #[.int .i64 va0.n, .string va0.s]) rfl rfl (by kernel_rfl) (fun K => (by kernel_rfl)) ?_
  intro xc19 hc19
  refine plan.sym_op 20 16 _ false (xc16) (.bool (decide (s.v = va0))) rfl rfl (by kernel_rfl) (fun K => by have e := hc18 K; subst e; have e := hc19 K; subst e; exact (exec_two rfl (by kernel_rfl) (by kernel_rfl) (eqg_va _ _ _ _ _ _) (eq_va s.v va0 _))) ?_
  intro xc20 hc20
  refine plan.sym_op 21 12 _ true (.bool (k2 && ((HasC s.op 70) || (decide (s.f = fd0))))) (.bool ((HasC s.op 86) || (decide (s.v = va0)))) rfl rfl (by kernel_rfl) (fun K => by have e := hc16 K; subst e; exact (plan.exec_pick_or (c := (HasC s.op 86)) (e := (decide (s.v = va0))) rfl (by kernel_rfl) (fun q => Eq.trans (b := xc20) (by kernel_rfl) (hc20 (by rw [q]))))) ?_
  intro xc21 hc21
  refine plan.line_same 22 _ (.bool ((k2 && ((HasC s.op 70) || (decide (s.f = fd0)))) && ((HasC s.op 86) || (decide (s.v = va0))))) rfl (by kernel_rfl) (plan.exec_pick_and (c := (k2 && ((HasC s.op 70) || (decide (s.f = fd0))))) (e := ((HasC s.op 86) || (decide (s.v = va0)))) rfl (by kernel_rfl) (fun q => Eq.trans (b := xc21) (by kernel_rfl) (hc21 (by rw [q])))) ?_
  obtain ⟨k3, hk3⟩ : ∃ q, Hid (((k2 && ((HasC s.op 70) || (decide (s.f = fd0)))) && ((HasC s.op 86) || (decide (s.v = va0)))) = q) := ⟨_, hid rfl⟩
  refine plan.line_same 23 _ (.bool k3) rfl (by kernel_rfl) (plan.exec_assign_b (c := ((k2 && ((HasC s.op 70) || (decide (s.f = fd0)))) && ((HasC s.op 86) || (decide (s.v = va0))))) rfl (by kernel_rfl) hk3.out) ?_
  refine plan.line_done (by decide) ?_
  walk_nrm
  go_upto_region 4 with fail
  refine plan.line ?_
  refine plan.line_same 0 _ (.bool k3) rfl (by kernel_rfl) (by kernel_rfl) ?_
  refine plan.line_same 1 _ (.bool k3) rfl (by kernel_rfl) (by kernel_rfl) ?_
  refine plan.sym_op 2 1 _ true (.bool k3) (.pointer (some ⟨w.heap.size, 0, none⟩)) rfl rfl (by kernel_rfl) (fun K => (by kernel_rfl)) ?_
  intro xd2 hd2
  refine plan.sym_op 3 1 _ true (.bool k3) (.int .i64 s.op) rfl rfl (by kernel_rfl) (fun K => by have e := hd2 K; subst e; exact (exec_cell_int (ad := ⟨w.heap.size, 0, none⟩) rfl (by kernel_rfl) ((HZ.out _ hSc15).cell 0) Try.isAgg3)) ?_
  intro xd3 hd3
  refine plan.sym_call 4 1 _ true (.bool k3) (.bool (HasC s.op 84)) 57 #[.int .i64 s.op, .int .u8 84] (fun w' => Below W0.heap.size W0 w') rfl rfl (by kernel_rfl) hSc15 (fun K => by have e := hd3 K; subst e; show _ = _; kernel_rfl) (fun K => gives_from (has_any s.op 84 wc15) hSc15) ?_
  intro xd4 wd4 hSd4 hd4
  refine plan.sym_op 5 1 _ true (.bool k3) (.bool (HasC s.op 84)) rfl rfl (by kernel_rfl) (fun K => by have e := hd4 K; subst e; show _ = _; kernel_rfl) ?_
  intro xd5 hd5
  refine plan.sym_op 6 5 _ false (xd5) (.pointer (some ⟨w.heap.size, 14, none⟩)) rfl rfl (by kernel_rfl) (fun K => (by kernel_rfl)) ?_
  intro xd6 hd6
  refine plan.sym_op 7 5 _ false (xd5) (.slice ta s.t.length tc) rfl rfl (by kernel_rfl) (fun K => by have e := hd6 K; subst e; exact (exec_cell_slice (ad := ⟨w.heap.size, 14, none⟩) rfl (by kernel_rfl) ((HZ.out _ hSd4).cell 14) Try.isAgg29)) ?_
  intro xd7 hd7
  refine plan.sym_op 8 5 _ false (xd5) (.int .i64 (s.t.length : Int)) rfl rfl (by kernel_rfl) (fun K => by have e := hd7 K; subst e; show _ = _; kernel_rfl) ?_
  intro xd8 hd8
  refine plan.sym_op 9 5 _ false (xd5) (.bool ((s.t.length : Int) == 0)) rfl rfl (by kernel_rfl) (fun K => by have e := hd8 K; subst e; exact (exec_eql_int (n := (s.t.length : Int)) (m := 0) rfl (by kernel_rfl) (by kernel_rfl))) ?_
  intro xd9 hd9
  refine plan.sym_op 10 1 _ true (.bool k3) (.bool ((HasC s.op 84) || ((s.t.length : Int) == 0))) rfl rfl (by kernel_rfl) (fun K => by have e := hd5 K; subst e; exact (plan.exec_pick_or (c := (HasC s.op 84)) (e := ((s.t.length : Int) == 0)) rfl (by kernel_rfl) (fun q => Eq.trans (b := xd9) (by kernel_rfl) (hd9 (by rw [q]))))) ?_
  intro xd10 hd10
  refine plan.line_same 11 _ (.bool (k3 && ((HasC s.op 84) || ((s.t.length : Int) == 0)))) rfl (by kernel_rfl) (plan.exec_pick_and (c := k3) (e := ((HasC s.op 84) || ((s.t.length : Int) == 0))) rfl (by kernel_rfl) (fun q => Eq.trans (b := xd10) (by kernel_rfl) (hd10 (by rw [q])))) ?_
  refine plan.line_same 12 _ (.bool (k3 && ((HasC s.op 84) || ((s.t.length : Int) == 0)))) rfl (by kernel_rfl) (by kernel_rfl) ?_
  refine plan.sym_op 13 12 _ true (.bool (k3 && ((HasC s.op 84) || ((s.t.length : Int) == 0)))) (.pointer (some ⟨w.heap.size, 0, none⟩)) rfl rfl (by kernel_rfl) (fun K => (by kernel_rfl)) ?_
  intro xd13 hd13
  refine plan.sym_op 14 12 _ true (.bool (k3 && ((HasC s.op 84) || ((s.t.length : Int) == 0)))) (.int .i64 s.op) rfl rfl (by kernel_rfl) (fun K => by have e := hd13 K; subst e; exact (exec_cell_int (ad := ⟨w.heap.size, 0, none⟩) rfl (by kernel_rfl) ((HZ.out _ hSd4).cell 0) Try.isAgg3)) ?_
  intro xd14 hd14
  refine plan.sym_call 15 12 _ true (.bool (k3 && ((HasC s.op 84) || ((s.t.length : Int) == 0)))) (.bool (HasC s.op 76)) 57 #[.int .i64 s.op, .int .u8 76] (fun w' => Below W0.heap.size W0 w') rfl rfl (by kernel_rfl) hSd4 (fun K => by have e := hd14 K; subst e; show _ = _; kernel_rfl) (fun K => gives_from (has_any s.op 76 wd4) hSd4) ?_
  intro xd15 wd15 hSd15 hd15
  refine plan.sym_op 16 12 _ true (.bool (k3 && ((HasC s.op 84) || ((s.t.length : Int) == 0)))) (.bool (HasC s.op 76)) rfl rfl (by kernel_rfl) (fun K => by have e := hd15 K; subst e; show _ = _; kernel_rfl) ?_
  intro xd16 hd16
  refine plan.sym_op 17 16 _ false (xd16) (.pointer (some ⟨w.heap.size, 15, none⟩)) rfl rfl (by kernel_rfl) (fun K => (by kernel_rfl)) ?_
  intro xd17 hd17
  refine plan.sym_op 18 16 _ false (xd16) (.slice la s.l.length lc) rfl rfl (by kernel_rfl) (fun K => by have e := hd17 K; subst e; exact (exec_cell_slice (ad := ⟨w.heap.size, 15, none⟩) rfl (by kernel_rfl) ((HZ.out _ hSd15).cell 15) Try.isAgg30)) ?_
  intro xd18 hd18
  refine plan.sym_op 19 16 _ false (xd16) (.int .i64 (s.l.length : Int)) rfl rfl (by kernel_rfl) (fun K => by have e := hd18 K; subst e; show _ = _; kernel_rfl) ?_
  intro xd19 hd19
  refine plan.sym_op 20 16 _ false (xd16) (.bool ((s.l.length : Int) == 0)) rfl rfl (by kernel_rfl) (fun K => by have e := hd19 K; subst e; exact (exec_eql_int (n := (s.l.length : Int)) (m := 0) rfl (by kernel_rfl) (by kernel_rfl))) ?_
  intro xd20 hd20
  refine plan.sym_op 21 12 _ true (.bool (k3 && ((HasC s.op 84) || ((s.t.length : Int) == 0)))) (.bool ((HasC s.op 76) || ((s.l.length : Int) == 0))) rfl rfl (by kernel_rfl) (fun K => by have e := hd16 K; subst e; exact (plan.exec_pick_or (c := (HasC s.op 76)) (e := ((s.l.length : Int) == 0)) rfl (by kernel_rfl) (fun q => Eq.trans (b := xd20) (by kernel_rfl) (hd20 (by rw [q]))))) ?_
  intro xd21 hd21
  refine plan.line_same 22 _ (.bool ((k3 && ((HasC s.op 84) || ((s.t.length : Int) == 0))) && ((HasC s.op 76) || ((s.l.length : Int) == 0)))) rfl (by kernel_rfl) (plan.exec_pick_and (c := (k3 && ((HasC s.op 84) || ((s.t.length : Int) == 0)))) (e := ((HasC s.op 76) || ((s.l.length : Int) == 0))) rfl (by kernel_rfl) (fun q => Eq.trans (b := xd21) (by kernel_rfl) (hd21 (by rw [q])))) ?_
  obtain ⟨k4, hk4⟩ : ∃ q, Hid (((k3 && ((HasC s.op 84) || ((s.t.length : Int) == 0))) && ((HasC s.op 76) || ((s.l.length : Int) == 0))) = q) := ⟨_, hid rfl⟩
  refine plan.line_same 23 _ (.bool k4) rfl (by kernel_rfl) (plan.exec_assign_b (c := ((k3 && ((HasC s.op 84) || ((s.t.length : Int) == 0))) && ((HasC s.op 76) || ((s.l.length : Int) == 0)))) rfl (by kernel_rfl) hk4.out) ?_
  refine plan.line_done (by decide) ?_
  walk_nrm
  go_wp2
  go_ret
  refine ⟨?_, HB0.out.trans (hSd15.mono HB0.out.size)⟩
  rw [← hk4.out, ← hk3.out, ← hk2.out, ← hk1.out]
  rfl
end Go.Proofs.Ytiajpjkkopdmgaa.step
/- Contract of the reference of layer 15 (step): table. No condition but a limit from 1 to 1000. -/
namespace Go.Proofs.Ytiajpjkkopdmgaa.step
open Go.RowKit
open Go.Proofs.Ytiajpjkkopdmgaa.field (Gives newB gives_from)
open Go.Proofs.Ytiajpjkkopdmgaa.schema (take_succ_at below_out)
set_option linter.unusedVariables false

theorem not_take {L : List Int} {k : Nat} {x q : Int} (h : L[k]? = some q) (hn : x ∉ L.take k) (hq : ¬ q = x) : x ∉ L.take (k + 1) := by
  rw [take_succ_at h]
  intro hm
  rcases List.mem_append.1 hm with h1 | h1
  · exact hn h1
  · exact hq (List.mem_singleton.1 h1).symm
theorem mem_take {L : List Int} {j k : Nat} {q : Int} (h : L[j]? = some q) (hj : j < k) : q ∈ L.take k := by
  have := (List.getElem?_take_of_lt (l := L) hj).trans h
  exact List.mem_of_getElem? this
theorem int_cell {w w' : World} {b off k : Nat} {p : Int} {L : List Int} (h : Ins w (some ⟨b, off, none⟩) L) (hb : Below w.heap.size w w') (hp : L[k]? = some p) : w'.cell? ⟨b, off + k, none⟩ = some (.int .i64 p) := by
  rcases h.below hb with rfl | ⟨b', off', he, hlt, hc⟩
  · simp at hp
  · injection he with e
    injection e with e1 e2
    subst e1 e2
    exact hc k p hp
theorem int_block {w w' : World} {b off k : Nat} {p : Int} {L : List Int} (h : Ins w (some ⟨b, off, none⟩) L) (hb : Below w.heap.size w w') (hp : L[k]? = some p) : b < w'.heap.size := by
  rcases h.below hb with rfl | ⟨b', off', he, hlt, hc⟩
  · simp at hp
  · injection he with e
    injection e with e1 e2
    subst e1 e2
    exact hlt
set_option maxRecDepth 20000 in
theorem refTable_any (a : Option Addr) (cap : Nat) (L : List Int) (lim : Int) (h1 : 1 ≤ lim) (h2 : lim ≤ 1000) (w : World) (h : Ins w a L) (hL : L.length ≤ maxLen) :
    Calls Try.prog 88 #[.slice a L.length cap, .int .i64 lim] w (Gives (.bool (decide (Table L lim))) w) := by
  have hml : (L.length : Int) ≤ 9223372036854775807 := by unfold maxLen at hL; omega
  obtain ⟨v, hv⟩ : ∃ v : Bool, Hid (decide (Table L lim) = v) := ⟨_, rfl⟩
  rw [hv.out]
  have cV := fun n (w' : World) => between_any n 0 (lim - 1) w'
  unfold Gives at cV ⊢
  have HF := hid h
  clear h hL
  go_enter Try.func88, Try.ntmps88
  go_wp2
  go_loopw [5] (fun n wr => ∃ k : Nat, k ≤ L.length ∧ n = .int .i64 (k : Int) ∧ Hid (TabOk lim (L.take k)) ∧ Hid (Below w.heap.size w wr)) (fun n _ => L.length - (intOf n).toNat)
  case atStart => exact ⟨0, Nat.zero_le _, rfl, hid ⟨by simp, by simp⟩, hid (Below.refl _ _)⟩
  case round =>
    obtain ⟨k, hk, rfl, HOK, HB⟩ := hrel
    by_cases hlt : k < L.length
    · obtain ⟨b, off, p, rfl, hbl, hp, c0⟩ := int_at HF.out HB.out hlt
      have i1 : (k : Int) < L.length := by omega
      have HP := hid hp
      have HNO := hid (tab_no (lim := lim) hp)
      have HSUC := hid (tab_succ (lim := lim) hp)
      have cs := fun w' => cV p w'
      clear hp
      by_cases hr : 0 ≤ p ∧ p ≤ lim - 1
      · rw [decide_eq_true hr] at cs
        have HR := hid hr
        clear hr
        go_wp2_with (go_at_call 55; ((with_reducible refine (cs _).mono ?_); rintro e w3 ⟨rfl, hb3⟩; have HB3 := hid (HB.out.trans (hb3.mono HB.out.size)); clear hb3))
        clear c0 hbl
        go_loopw [6] (fun n wr => ∃ j : Nat, j ≤ k ∧ n = .int .i64 (j : Int) ∧ Hid (p ∉ L.take j) ∧ Hid (Below w.heap.size w wr)) (fun n _ => k - (intOf n).toNat)
        case atStart => exact ⟨0, Nat.zero_le _, rfl, hid (by simp), HB3⟩
        case round =>
          obtain ⟨j, hj, rfl, HNI, HB4⟩ := hrel
          by_cases hlt2 : j < k
          · have hq0 := List.getElem?_eq_getElem (show j < L.length by omega)
            generalize L[j]'(show j < L.length by omega) = q at hq0
            have d0 := int_cell HF.out HB4.out hq0
            have c1 := int_cell HF.out HB4.out HP.out
            have hbl := int_block HF.out HB4.out hq0
            have i2 : (j : Int) < k := by omega
            have i3 : (j : Int) < L.length := by omega
            have hq := hq0
            clear hq0
            have HQ := hid hq
            clear hq
            by_cases hpq : q = p
            · obtain rfl : false = v := by
                rw [← hv.out]
                exact (decide_eq_false (fun h => (HSUC.out.1 (tab_take h.2 _)).2.2 (by rw [← hpq]; exact mem_take HQ.out hlt2))).symm
              subst hpq
              go_wp2
              go_quiet (fail)
              go_wp2
              go_ret
              exact ⟨rfl, below_drewN HB4.out _⟩
            · have hd : (q == p) = false := by rw [beq_eq_false_iff_ne]; exact hpq
              have HPQ := hid hpq
              clear hpq
              go_wp2
              go_quiet (fail)
              go_wp2
              exact ⟨⟨j + 1, by omega, by go_num, hid (not_take HQ.out HNI.out HPQ.out), hid (below_drewN HB4.out _)⟩, by simp [intOf]; omega⟩
          · obtain rfl : j = k := by omega
            go_wp2
            exact ⟨⟨j + 1, by omega, by go_num, hid (HSUC.out.2 ⟨HOK.out, HR.out, HNI.out⟩), hid HB4.out⟩, by simp [intOf]; omega⟩
      · obtain rfl : false = v := by rw [← hv.out]; exact (decide_eq_false (fun h => HNO.out (fun h => hr h.1) h.2)).symm
        rw [decide_eq_false hr] at cs
        clear hr
        go_wp2_with (go_at_call 55; ((with_reducible refine (cs _).mono ?_); rintro e w3 ⟨rfl, hb3⟩))
        go_ret
        exact ⟨rfl, HB.out.trans (hb3.mono HB.out.size)⟩
    · obtain rfl : k = L.length := by omega
      have HT := HOK.out
      rw [List.take_of_length_le (Nat.le_refl _)] at HT
      have HT := hid HT
      by_cases h3 : 1 ≤ L.length
      · have hd3 : decide ((L.length : Int) ≥ 1) = true := decide_eq_true (by omega)
        by_cases h4 : L.length ≤ 64
        · have hd4 : decide ((L.length : Int) ≤ 64) = true := decide_eq_true (by omega)
          obtain rfl : true = v := by rw [← hv.out]; exact (decide_eq_true ⟨⟨h3, h4⟩, HT.out⟩).symm
          go_wp2
          go_ret
          exact ⟨rfl, HB.out⟩
        · have hd4 : decide ((L.length : Int) ≤ 64) = false := decide_eq_false (by omega)
          obtain rfl : false = v := by rw [← hv.out]; exact (decide_eq_false (fun h => h4 h.1.2)).symm
          go_wp2
          go_ret
          exact ⟨rfl, HB.out⟩
      · have hd3 : decide ((L.length : Int) ≥ 1) = false := decide_eq_false (by omega)
        obtain rfl : false = v := by rw [← hv.out]; exact (decide_eq_false (fun h => h3 h.1.1)).symm
        go_wp2
        go_ret
        exact ⟨rfl, HB.out⟩
end Go.Proofs.Ytiajpjkkopdmgaa.step
/- Contracts of the reference of layer 13 (schema): Fine, Right. No condition. -/
namespace Go.Proofs.Ytiajpjkkopdmgaa.schema
open Go.RowKit
open Go.Proofs.Ytiajpjkkopdmgaa.field (Gives newB gives_from refRight_any)
set_option linter.unusedVariables false

set_option maxRecDepth 20000 in
set_option maxHeartbeats 1600000 in
theorem refFine_any (i : Int) (a : Option Addr) (cap : Nat) (L : List field.Fd) (w : World) (h : field.Fds w a L) (hL : L.length ≤ maxLen) :
    Calls Try.prog 35 #[.agg #[.int .i64 i, .slice a L.length cap]] w (Gives (.bool (decide (Fine (i, L)))) w) := by
  have hml : (L.length : Int) ≤ 9223372036854775807 := by unfold maxLen at hL; omega
  have HX := hid (boxM i a L cap w)
  have hw := newB w (.cells #[.int .i64 i, .slice a L.length cap] 52)
  have HF := hid (h.below hw)
  have HW := hid hw
  have HB0 := hid (Block.new w 52 [.int .i64 i, .slice a L.length cap])
  obtain ⟨r, hr⟩ : ∃ r : Bool, Hid (decide (Fine (i, L)) = r) := ⟨_, rfl⟩
  rw [hr.out]
  unfold Gives
  clear h hw
  by_cases h1 : i < 0
  · obtain rfl : false = r := by rw [← hr.out]; exact (decide_eq_false (fun e => by have := e.1.1; simp at this; omega)).symm
    have hd1 : decide (i < 0) = true := decide_eq_true h1
    clear h1
    go_enter Try.func35, Try.ntmps35
    go_wp2
    go_ret
    exact ⟨rfl, HW.out⟩
  have hd1 : decide (i < 0) = false := decide_eq_false h1
  by_cases h2 : i > 200
  · obtain rfl : false = r := by rw [← hr.out]; exact (decide_eq_false (fun e => by have := e.1.2; simp at this; omega)).symm
    have hd2 : decide (i > 200) = true := decide_eq_true h2
    clear h1 h2
    go_enter Try.func35, Try.ntmps35
    go_wp2
    go_ret
    exact ⟨rfl, HW.out⟩
  have hd2 : decide (i > 200) = false := decide_eq_false h2
  by_cases h3 : L.length < 1
  · obtain rfl : false = r := by rw [← hr.out]; exact (decide_eq_false (fun e => by have := e.2.1.1; simp only at this; omega)).symm
    have hd3 : decide ((L.length : Int) < 1) = true := decide_eq_true (by omega)
    clear h1 h2 h3
    go_enter Try.func35, Try.ntmps35
    go_wp2
    go_ret
    exact ⟨rfl, HW.out⟩
  have hd3 : decide ((L.length : Int) < 1) = false := decide_eq_false (by omega)
  by_cases h4 : L.length > 8
  · obtain rfl : false = r := by rw [← hr.out]; exact (decide_eq_false (fun e => by have := e.2.1.2; simp only at this; omega)).symm
    have hd4 : decide ((L.length : Int) > 8) = true := decide_eq_true (by omega)
    clear h1 h2 h3 h4
    go_enter Try.func35, Try.ntmps35
    go_wp2
    go_ret
    exact ⟨rfl, HW.out⟩
  have hd4 : decide ((L.length : Int) > 8) = false := decide_eq_false (by omega)
  have HFI : Hid (Fine (i, L) ↔ FineF L ∧ size L ≤ 64) := hid ⟨fun e => ⟨e.2.2.1, e.2.2.2⟩, fun e => ⟨by simp; omega, by simp; omega, e.1, e.2⟩⟩
  have h8 : L.length ≤ 8 := by omega
  clear h1 h2 h3 h4
  go_enter Try.func35, Try.ntmps35
  go_wp2
  clear hd1 hd2 hd3 hd4
  generalize (w.alloc (.cells #[.int .i64 i, .slice a L.length cap] 52)) = W0 at *
  go_loopw [3] (fun n wr => ∃ k : Nat, k ≤ L.length ∧ n = .int .i64 (k : Int) ∧ Hid (FineF (L.take k)) ∧ Hid (Below W0.heap.size W0 wr)) (fun n _ => L.length - (intOf n).toNat)
  case atStart => exact ⟨0, Nat.zero_le _, rfl, hid FineF.nil, hid (Below.refl _ _)⟩
  case round =>
    obtain ⟨k, hk, rfl, HOK, HB⟩ := hrel
    obtain ⟨z0, z1, hbo⟩ := HX.out _ HB.out
    by_cases hlt : k < L.length
    · obtain ⟨b, off, p, rfl, hbl, hp, c0, c1, c2, c3, c4⟩ := field_at HF.out HB.out hlt
      have i1 : (k : Int) < L.length := by omega
      have HNO := hid (fineF_no hp)
      have HSUC := hid (fineF_succ hp)
      have HAT := hid (at_iff (ids_at hp))
      have hR := range5 c0 c1 c2 c3 c4
      have HZ := hid (fun w' (hb' : Below wr.heap.size wr w') => (⟨by obtain ⟨_, y1, _⟩ := HX.out w' (HB.out.trans (hb'.mono HB.out.size)); exact y1, (HB0.out.later (HB.out.trans (hb'.mono HB.out.size))).whole, range_later hR hb' hbl⟩ : w'.cell? ⟨w.heap.size, 1, none⟩ = some (.slice (some ⟨b, off, none⟩) L.length cap) ∧ w'.rangeAt w.heap.size 0 [.int .i64 i, .slice (some ⟨b, off, none⟩) L.length cap] ∧ w'.rangeAt b (off + k * 5) [.int .i64 p.id, .int .i64 p.kind, .int .i64 p.lo, .int .i64 p.hi, .int .i64 p.most]))
      have ca := fun w' (hb' : Below wr.heap.size wr w') => refAt_any i (some ⟨b, off, none⟩) cap L p.id w' (HF.out.below (HB.out.trans (hb'.mono HB.out.size))) hL
      have cr := fun w' => refRight_any p w'
      clear hp hR
      generalize firstAt (ids L) p.id = J at *
      by_cases hri : p.Right
      · rw [decide_eq_true hri] at cr
        by_cases hj : J = (k : Int)
        · have HNQ : Hid ((J != (k : Int)) = false) := hid (by rw [hj]; simp)
          have HOK2 : Hid (FineF (L.take (k + 1))) := hid (HSUC.out.2 ⟨HOK.out, hri, by rw [ids_take]; exact HAT.out.1 hj⟩)
          clear hri hj c0 c1 c2 c3 c4
          go_wp2
          have hb : Below wr.heap.size wr wr.drew := below_drew (Below.refl _ _)
          · refine plan.region (by kernel_rfl) ?_
            refine plan.Rest.first 0 _ (.pointer (some ⟨w.heap.size, 1, none⟩)) rfl (by kernel_rfl) (by kernel_rfl) (by kernel_rfl) (by kernel_rfl) (fun w' hb' => (by kernel_rfl)) ?_
            refine plan.Rest.first 1 _ (.slice (some ⟨b, off, none⟩) L.length cap) rfl (by kernel_rfl) (by kernel_rfl) (by kernel_rfl) (by kernel_rfl) (fun w' hb' => exec_cell_slice (ad := ⟨w.heap.size, 1, none⟩) rfl (by kernel_rfl) (HZ.out _ (hb.trans (hb'.mono hb.size))).1 Try.isAgg30) ?_
            refine plan.Rest.first 2 _ (.int .i64 (k : Int)) rfl (by kernel_rfl) (by kernel_rfl) (by kernel_rfl) (by kernel_rfl) (fun w' hb' => (by kernel_rfl)) ?_
            refine plan.Rest.first 3 _ (.pointer (some ⟨b, off + k * 5, none⟩)) rfl (by kernel_rfl) (by kernel_rfl) (by kernel_rfl) (by kernel_rfl) (fun w' hb' => (exec_indexF (b := b) (off := off) (len := L.length) (cap := cap) (i := k) rfl (by kernel_rfl) (by kernel_rfl) hlt)) ?_
            refine plan.Rest.first 4 _ (.agg #[.int .i64 p.id, .int .i64 p.kind, .int .i64 p.lo, .int .i64 p.hi, .int .i64 p.most]) rfl (by kernel_rfl) (by kernel_rfl) (by kernel_rfl) (by kernel_rfl) (fun w' hb' => exec_load_at (b := b) (off := off + k * 5) rfl (by kernel_rfl) (HZ.out _ (hb.trans (hb'.mono hb.size))).2.2 Try.underlying26 rfl info_fd.out) ?_
            refine plan.Rest.call 5 _ 58 #[.agg #[.int .i64 p.id, .int .i64 p.kind, .int .i64 p.lo, .int .i64 p.hi, .int .i64 p.most]] rfl (by kernel_rfl) (by kernel_rfl) (by kernel_rfl) ((cr wr.drew).mono ?_)
            rintro e W1 ⟨rfl, hn⟩
            have hb := hb.trans (hn.mono hb.size)
            refine ⟨_, rfl, hn, ?_⟩
            refine plan.Rest.first 6 _ (.bool false) rfl (by kernel_rfl) (by kernel_rfl) (by kernel_rfl) (by kernel_rfl) (fun w' hb' => (by kernel_rfl)) ?_
            refine plan.Rest.first 7 _ (.bool false) rfl (by kernel_rfl) (by kernel_rfl) (by kernel_rfl) (by kernel_rfl) (fun w' hb' => (by kernel_rfl)) ?_
            refine plan.Rest.first 8 _ (.agg #[.int .i64 i, .slice (some ⟨b, off, none⟩) L.length cap]) rfl (by kernel_rfl) (by kernel_rfl) (by kernel_rfl) (by kernel_rfl) (fun w' hb' => exec_load_at (b := w.heap.size) (off := 0) rfl (by kernel_rfl) (HZ.out _ (hb.trans (hb'.mono hb.size))).2.1 Try.underlying52 rfl info_fm.out) ?_
            refine plan.Rest.first 9 _ (.pointer (some ⟨w.heap.size, 1, none⟩)) rfl (by kernel_rfl) (by kernel_rfl) (by kernel_rfl) (by kernel_rfl) (fun w' hb' => (by kernel_rfl)) ?_
            refine plan.Rest.first 10 _ (.slice (some ⟨b, off, none⟩) L.length cap) rfl (by kernel_rfl) (by kernel_rfl) (by kernel_rfl) (by kernel_rfl) (fun w' hb' => exec_cell_slice (ad := ⟨w.heap.size, 1, none⟩) rfl (by kernel_rfl) (HZ.out _ (hb.trans (hb'.mono hb.size))).1 Try.isAgg30) ?_
            refine plan.Rest.first 11 _ (.int .i64 (k : Int)) rfl (by kernel_rfl) (by kernel_rfl) (by kernel_rfl) (by kernel_rfl) (fun w' hb' => (by kernel_rfl)) ?_
            refine plan.Rest.first 12 _ (.pointer (some ⟨b, off + k * 5, none⟩)) rfl (by kernel_rfl) (by kernel_rfl) (by kernel_rfl) (by kernel_rfl) (fun w' hb' => (exec_indexF (b := b) (off := off) (len := L.length) (cap := cap) (i := k) rfl (by kernel_rfl) (by kernel_rfl) hlt)) ?_
            refine plan.Rest.first 13 _ (.pointer (some ⟨b, off + k * 5, none⟩)) rfl (by kernel_rfl) (by kernel_rfl) (by kernel_rfl) (by kernel_rfl) (fun w' hb' => (by kernel_rfl)) ?_
            refine plan.Rest.first 14 _ (.int .i64 p.id) rfl (by kernel_rfl) (by kernel_rfl) (by kernel_rfl) (by kernel_rfl) (fun w' hb' => exec_cell_int (ad := ⟨b, off + k * 5, none⟩) rfl (by kernel_rfl) ((HZ.out _ (hb.trans (hb'.mono hb.size))).2.2 0 _ rfl) Try.isAgg3) ?_
            refine plan.Rest.first 16 _ (.int .i64 (k : Int)) rfl (by kernel_rfl) (by kernel_rfl) (by kernel_rfl) (by kernel_rfl) (fun w' hb' => (by kernel_rfl)) ?_
            refine plan.Rest.call 15 _ 26 #[.agg #[.int .i64 i, .slice (some ⟨b, off, none⟩) L.length cap], .int .i64 p.id] rfl (by kernel_rfl) (by kernel_rfl) (by kernel_rfl) ((ca W1 hb).mono ?_)
            rintro e W2 ⟨rfl, hn⟩
            have hb := hb.trans (hn.mono hb.size)
            refine ⟨_, rfl, hn, ?_⟩
            refine plan.Rest.first 17 _ (.bool false) rfl (by kernel_rfl) (by kernel_rfl) (by kernel_rfl) (by kernel_rfl) (fun w' hb' => (exec_neq_int (n := J) (m := (k : Int)) rfl (by kernel_rfl) (by kernel_rfl) HNQ)) ?_
            refine plan.Rest.first 18 _ (.bool false) rfl (by kernel_rfl) (by kernel_rfl) (by kernel_rfl) (by kernel_rfl) (fun w' hb' => (by kernel_rfl)) ?_
            refine plan.Rest.done (by kernel_rfl) ?_
            walk_nrm
            go_wp2
            exact ⟨⟨k + 1, by omega, by go_num, HOK2, hid (HB.out.trans (hb.mono HB.out.size))⟩, by simp [intOf]; omega⟩
        · have HNQ : Hid ((J != (k : Int)) = true) := hid (by simp [hj])
          obtain rfl : false = r := by rw [← hr.out]; exact (decide_eq_false (fun e => HNO.out (fun e2 => hj (HAT.out.2 (by rw [← ids_take]; exact e2.2))) (HFI.out.1 e).1)).symm
          clear hri hj c0 c1 c2 c3 c4
          go_wp2
          have hb : Below wr.heap.size wr wr.drew := below_drew (Below.refl _ _)
          · refine plan.region (by kernel_rfl) ?_
            refine plan.Rest.first 0 _ (.pointer (some ⟨w.heap.size, 1, none⟩)) rfl (by kernel_rfl) (by kernel_rfl) (by kernel_rfl) (by kernel_rfl) (fun w' hb' => (by kernel_rfl)) ?_
            refine plan.Rest.first 1 _ (.slice (some ⟨b, off, none⟩) L.length cap) rfl (by kernel_rfl) (by kernel_rfl) (by kernel_rfl) (by kernel_rfl) (fun w' hb' => exec_cell_slice (ad := ⟨w.heap.size, 1, none⟩) rfl (by kernel_rfl) (HZ.out _ (hb.trans (hb'.mono hb.size))).1 Try.isAgg30) ?_
            refine plan.Rest.first 2 _ (.int .i64 (k : Int)) rfl (by kernel_rfl) (by kernel_rfl) (by kernel_rfl) (by kernel_rfl) (fun w' hb' => (by kernel_rfl)) ?_
            refine plan.Rest.first 3 _ (.pointer (some ⟨b, off + k * 5, none⟩)) rfl (by kernel_rfl) (by kernel_rfl) (by kernel_rfl) (by kernel_rfl) (fun w' hb' => (exec_indexF (b := b) (off := off) (len := L.length) (cap := cap) (i := k) rfl (by kernel_rfl) (by kernel_rfl) hlt)) ?_
            refine plan.Rest.first 4 _ (.agg #[.int .i64 p.id, .int .i64 p.kind, .int .i64 p.lo, .int .i64 p.hi, .int .i64 p.most]) rfl (by kernel_rfl) (by kernel_rfl) (by kernel_rfl) (by kernel_rfl) (fun w' hb' => exec_load_at (b := b) (off := off + k * 5) rfl (by kernel_rfl) (HZ.out _ (hb.trans (hb'.mono hb.size))).2.2 Try.underlying26 rfl info_fd.out) ?_
            refine plan.Rest.call 5 _ 58 #[.agg #[.int .i64 p.id, .int .i64 p.kind, .int .i64 p.lo, .int .i64 p.hi, .int .i64 p.most]] rfl (by kernel_rfl) (by kernel_rfl) (by kernel_rfl) ((cr wr.drew).mono ?_)
            rintro e W1 ⟨rfl, hn⟩
            have hb := hb.trans (hn.mono hb.size)
            refine ⟨_, rfl, hn, ?_⟩
            refine plan.Rest.first 6 _ (.bool false) rfl (by kernel_rfl) (by kernel_rfl) (by kernel_rfl) (by kernel_rfl) (fun w' hb' => (by kernel_rfl)) ?_
            refine plan.Rest.first 7 _ (.bool false) rfl (by kernel_rfl) (by kernel_rfl) (by kernel_rfl) (by kernel_rfl) (fun w' hb' => (by kernel_rfl)) ?_
            refine plan.Rest.first 8 _ (.agg #[.int .i64 i, .slice (some ⟨b, off, none⟩) L.length cap]) rfl (by kernel_rfl) (by kernel_rfl) (by kernel_rfl) (by kernel_rfl) (fun w' hb' => exec_load_at (b := w.heap.size) (off := 0) rfl (by kernel_rfl) (HZ.out _ (hb.trans (hb'.mono hb.size))).2.1 Try.underlying52 rfl info_fm.out) ?_
            refine plan.Rest.first 9 _ (.pointer (some ⟨w.heap.size, 1, none⟩)) rfl (by kernel_rfl) (by kernel_rfl) (by kernel_rfl) (by kernel_rfl) (fun w' hb' => (by kernel_rfl)) ?_
            refine plan.Rest.first 10 _ (.slice (some ⟨b, off, none⟩) L.length cap) rfl (by kernel_rfl) (by kernel_rfl) (by kernel_rfl) (by kernel_rfl) (fun w' hb' => exec_cell_slice (ad := ⟨w.heap.size, 1, none⟩) rfl (by kernel_rfl) (HZ.out _ (hb.trans (hb'.mono hb.size))).1 Try.isAgg30) ?_
            refine plan.Rest.first 11 _ (.int .i64 (k : Int)) rfl (by kernel_rfl) (by kernel_rfl) (by kernel_rfl) (by kernel_rfl) (fun w' hb' => (by kernel_rfl)) ?_
            refine plan.Rest.first 12 _ (.pointer (some ⟨b, off + k * 5, none⟩)) rfl (by kernel_rfl) (by kernel_rfl) (by kernel_rfl) (by kernel_rfl) (fun w' hb' => (exec_indexF (b := b) (off := off) (len := L.length) (cap := cap) (i := k) rfl (by kernel_rfl) (by kernel_rfl) hlt)) ?_
            refine plan.Rest.first 13 _ (.pointer (some ⟨b, off + k * 5, none⟩)) rfl (by kernel_rfl) (by kernel_rfl) (by kernel_rfl) (by kernel_rfl) (fun w' hb' => (by kernel_rfl)) ?_
            refine plan.Rest.first 14 _ (.int .i64 p.id) rfl (by kernel_rfl) (by kernel_rfl) (by kernel_rfl) (by kernel_rfl) (fun w' hb' => exec_cell_int (ad := ⟨b, off + k * 5, none⟩) rfl (by kernel_rfl) ((HZ.out _ (hb.trans (hb'.mono hb.size))).2.2 0 _ rfl) Try.isAgg3) ?_
            refine plan.Rest.first 16 _ (.int .i64 (k : Int)) rfl (by kernel_rfl) (by kernel_rfl) (by kernel_rfl) (by kernel_rfl) (fun w' hb' => (by kernel_rfl)) ?_
            refine plan.Rest.call 15 _ 26 #[.agg #[.int .i64 i, .slice (some ⟨b, off, none⟩) L.length cap], .int .i64 p.id] rfl (by kernel_rfl) (by kernel_rfl) (by kernel_rfl) ((ca W1 hb).mono ?_)
            rintro e W2 ⟨rfl, hn⟩
            have hb := hb.trans (hn.mono hb.size)
            refine ⟨_, rfl, hn, ?_⟩
            refine plan.Rest.first 17 _ (.bool true) rfl (by kernel_rfl) (by kernel_rfl) (by kernel_rfl) (by kernel_rfl) (fun w' hb' => (exec_neq_int (n := J) (m := (k : Int)) rfl (by kernel_rfl) (by kernel_rfl) HNQ)) ?_
            refine plan.Rest.first 18 _ (.bool true) rfl (by kernel_rfl) (by kernel_rfl) (by kernel_rfl) (by kernel_rfl) (fun w' hb' => (by kernel_rfl)) ?_
            refine plan.Rest.done (by kernel_rfl) ?_
            walk_nrm
            go_wp2
            go_ret
            exact ⟨rfl, hbo.trans (hb.mono hbo.size)⟩
      · rw [decide_eq_false hri] at cr
        obtain rfl : false = r := by rw [← hr.out]; exact (decide_eq_false (fun e => HNO.out (fun e2 => hri e2.1) (HFI.out.1 e).1)).symm
        clear hri c0 c1 c2 c3 c4
        go_wp2
        have hb : Below wr.heap.size wr wr.drew := below_drew (Below.refl _ _)
        · refine plan.region (by kernel_rfl) ?_
          refine plan.Rest.first 0 _ (.pointer (some ⟨w.heap.size, 1, none⟩)) rfl (by kernel_rfl) (by kernel_rfl) (by kernel_rfl) (by kernel_rfl) (fun w' hb' => (by kernel_rfl)) ?_
          refine plan.Rest.first 1 _ (.slice (some ⟨b, off, none⟩) L.length cap) rfl (by kernel_rfl) (by kernel_rfl) (by kernel_rfl) (by kernel_rfl) (fun w' hb' => exec_cell_slice (ad := ⟨w.heap.size, 1, none⟩) rfl (by kernel_rfl) (HZ.out _ (hb.trans (hb'.mono hb.size))).1 Try.isAgg30) ?_
          refine plan.Rest.first 2 _ (.int .i64 (k : Int)) rfl (by kernel_rfl) (by kernel_rfl) (by kernel_rfl) (by kernel_rfl) (fun w' hb' => (by kernel_rfl)) ?_
          refine plan.Rest.first 3 _ (.pointer (some ⟨b, off + k * 5, none⟩)) rfl (by kernel_rfl) (by kernel_rfl) (by kernel_rfl) (by kernel_rfl) (fun w' hb' => (exec_indexF (b := b) (off := off) (len := L.length) (cap := cap) (i := k) rfl (by kernel_rfl) (by kernel_rfl) hlt)) ?_
          refine plan.Rest.first 4 _ (.agg #[.int .i64 p.id, .int .i64 p.kind, .int .i64 p.lo, .int .i64 p.hi, .int .i64 p.most]) rfl (by kernel_rfl) (by kernel_rfl) (by kernel_rfl) (by kernel_rfl) (fun w' hb' => exec_load_at (b := b) (off := off + k * 5) rfl (by kernel_rfl) (HZ.out _ (hb.trans (hb'.mono hb.size))).2.2 Try.underlying26 rfl info_fd.out) ?_
          refine plan.Rest.call 5 _ 58 #[.agg #[.int .i64 p.id, .int .i64 p.kind, .int .i64 p.lo, .int .i64 p.hi, .int .i64 p.most]] rfl (by kernel_rfl) (by kernel_rfl) (by kernel_rfl) ((cr wr.drew).mono ?_)
          rintro e W1 ⟨rfl, hn⟩
          have hb := hb.trans (hn.mono hb.size)
          refine ⟨_, rfl, hn, ?_⟩
          refine plan.Rest.first 6 _ (.bool true) rfl (by kernel_rfl) (by kernel_rfl) (by kernel_rfl) (by kernel_rfl) (fun w' hb' => (by kernel_rfl)) ?_
          refine plan.Rest.first 7 _ (.bool true) rfl (by kernel_rfl) (by kernel_rfl) (by kernel_rfl) (by kernel_rfl) (fun w' hb' => (by kernel_rfl)) ?_
          refine plan.Rest.skip 8 _ rfl (by kernel_rfl) (by kernel_rfl) (by kernel_rfl) (by kernel_rfl) ?_
          refine plan.Rest.skip 9 _ rfl (by kernel_rfl) (by kernel_rfl) (by kernel_rfl) (by kernel_rfl) ?_
          refine plan.Rest.skip 10 _ rfl (by kernel_rfl) (by kernel_rfl) (by kernel_rfl) (by kernel_rfl) ?_
          refine plan.Rest.skip 11 _ rfl (by kernel_rfl) (by kernel_rfl) (by kernel_rfl) (by kernel_rfl) ?_
          refine plan.Rest.skip 12 _ rfl (by kernel_rfl) (by kernel_rfl) (by kernel_rfl) (by kernel_rfl) ?_
          refine plan.Rest.skip 13 _ rfl (by kernel_rfl) (by kernel_rfl) (by kernel_rfl) (by kernel_rfl) ?_
          refine plan.Rest.skip 14 _ rfl (by kernel_rfl) (by kernel_rfl) (by kernel_rfl) (by kernel_rfl) ?_
          refine plan.Rest.skip 15 _ rfl (by kernel_rfl) (by kernel_rfl) (by kernel_rfl) (by kernel_rfl) ?_
          refine plan.Rest.skip 16 _ rfl (by kernel_rfl) (by kernel_rfl) (by kernel_rfl) (by kernel_rfl) ?_
          refine plan.Rest.skip 17 _ rfl (by kernel_rfl) (by kernel_rfl) (by kernel_rfl) (by kernel_rfl) ?_
          refine plan.Rest.first 18 _ (.bool true) rfl (by kernel_rfl) (by kernel_rfl) (by kernel_rfl) (by kernel_rfl) (fun w' hb' => (by kernel_rfl)) ?_
          refine plan.Rest.done (by kernel_rfl) ?_
          walk_nrm
          go_wp2
          go_ret
          exact ⟨rfl, hbo.trans (hb.mono hbo.size)⟩
    · obtain rfl : k = L.length := by omega
      have HOK2 : Hid (FineF L) := hid (by have := HOK.out; rw [List.take_of_length_le (Nat.le_refl _)] at this; exact this)
      have cl := refLong_any i a cap L wr (HF.out.below HB.out) (by omega)
      obtain rfl : decide ((size L : Int) ≤ 64) = r := by rw [← hr.out]; exact decide_eq_decide.2 ⟨fun e => HFI.out.2 ⟨HOK2.out, by omega⟩, fun e => by have := (HFI.out.1 e).2; omega⟩
      go_wp2_with (go_at_call 66; ((with_reducible refine cl.mono ?_); rintro e w2 ⟨rfl, hb2⟩))
      go_ret
      exact ⟨rfl, hbo.trans (hb2.mono hbo.size)⟩
end Go.Proofs.Ytiajpjkkopdmgaa.schema
