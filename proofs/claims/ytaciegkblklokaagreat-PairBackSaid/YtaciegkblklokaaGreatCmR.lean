/- Contracts and lemmas that the claims of this seat share: StepHas, Line, Sym, StepRefZero. Each says its own conditions. -/
import Derived.Test.YtaciegkblklokaaGreatCmN
import Derived.Laws.Strings
import Derived.Test.YtaciegkblklokaaGreatCmG
import Derived.Test.YtaciegkblklokaaGreatCmO
import Derived.Deep.CutRange
set_option linter.unusedVariables false
namespace Go.Proofs.YtaciegkblklokaaGreat.step
open Go.RowKit
open Go.Proofs.YtaciegkblklokaaGreat.field (Gives newB gives_from)
open Go.Proofs.YtaciegkblklokaaGreat.schema (take_succ_at)
def HasC (op : Int) (c : UInt8) : Bool := decide (c ∈ uses op)
theorem usesS_size (op : Int) : (usesS op).size = (uses op).length := texts.strL_size _
theorem usesS_at {op : Int} {k : Nat} {q : UInt8} (h : (uses op)[k]? = some q) (W : World) : (Instr.index 9 (.string (usesS op)) (.int .i64 (k : Int))).run Tryz.prog W = .ok (.int .u8 (q.toNat : Int)) W := by
 have hk := (List.getElem?_eq_some_iff.1 h).1
 have he := (List.getElem?_eq_some_iff.1 h).2
 rw [run_index_string W _ _ _ _ Tryz.underlying9, dif_pos ⟨by omega, by rw [usesS_size]; omega⟩]
 congr 2
 rw [← he]
 simp only [Int.toNat_natCast]
 rfl
theorem byte_ne {p q : UInt8} (h : p ≠ q) : ((p.toNat : Int) == (q.toNat : Int)) = false := by
 rw [beq_eq_false_iff_ne]
 intro e
 exact h (UInt8.toNat_inj.1 (by omega))
theorem has_any (op : Int) (c : UInt8) (w : World) : Calls Tryz.prog 31 #[.int .i64 op, .int .u8 (c.toNat : Int)] w (Gives (.bool (HasC op c)) w) := by
 obtain ⟨v, hv⟩ : ∃ v : Bool, Hid (HasC op c = v) := ⟨_, rfl⟩
 rw [hv.out]
 have cU := uses_any op w
 have hsz := usesS_size op
 have hix := fun (k : Nat) (q : UInt8) (h : (uses op)[k]? = some q) W => usesS_at h W
 have hl5 := uses_len op
 obtain ⟨S, hS⟩ : ∃ S, Hid (usesS op = S) := ⟨_, rfl⟩
 obtain ⟨L, hL⟩ : ∃ L, Hid (uses op = L) := ⟨_, rfl⟩
 have HV : Hid (decide (c ∈ L) = v) := hid (by rw [← hL.out]; exact hv.out)
 rw [hS.out] at cU hsz hix
 rw [hL.out] at hsz hix hl5
 have HIX := hid hix
 unfold Gives at cU ⊢
 clear hix hv
 go_enter Tryz.func31, Tryz.ntmps31
 go_wp2_with (go_at_call 27; ((with_reducible refine cU.mono ?_); rintro e w1 ⟨rfl, hb1⟩; have HB1 := hid hb1))
 clear cU
 go_loopw [6] (fun n wr => ∃ k : Nat, k ≤ L.length ∧ n = .int .i64 (k : Int) ∧ Hid (c ∉ L.take k) ∧ Hid (Below w.heap.size w wr)) (fun n _ => L.length - (intOf n).toNat)
 case atStart => exact ⟨0, Nat.zero_le _, rfl, hid (by simp), HB1⟩
 case round =>
  obtain ⟨k, hk, rfl, HN, HB⟩ := hrel
  by_cases hlt : k < L.length
  ·have hq := List.getElem?_eq_getElem hlt
   generalize L[k] = q at *
   have hx := fun W => HIX.out k q hq W
   have i1 : (k : Int) < S.size := by rw [hsz]; omega
   have i2 : ((k : Int) < (L.length : Int)) := by omega
   have HS1 := hid (take_succ_at hq)
   have HM := hid (List.mem_of_getElem? hq)
   clear hq
   by_cases hc : q = c
   ·subst hc
    obtain rfl : true = v := by rw [← HV.out]; exact (decide_eq_true HM.out).symm
    go_wp2
    go_ret
    exact ⟨rfl, HB.out⟩
   ·have hd := byte_ne hc
    have HC := hid hc
    clear hc
    go_wp2
    exact ⟨⟨k + 1, by omega, by go_num, hid (by rw [HS1.out]; intro hm; rcases List.mem_append.1 hm with h | h; exact HN.out h; exact HC.out (List.mem_singleton.1 h).symm), hid HB.out⟩, by simp [intOf]; omega⟩
  ·obtain rfl : k = L.length := by omega
   obtain rfl : false = v := by rw [← HV.out]; have := HN.out; rw [List.take_of_length_le (Nat.le_refl _)] at this; exact (decide_eq_false this).symm
   have i1 : ¬ ((L.length : Int) < S.size) := by omega
   go_wp2
   go_ret
   exact ⟨rfl, HB.out⟩
end Go.Proofs.YtaciegkblklokaaGreat.step
namespace Go.Proofs.YtaciegkblklokaaGreat.plan
open Go Go.RowKit
structure Line (P : Program) (l : List Oper) (Q : Exit → Act → World → Prop) (i : Nat) (a : Act) (w : World) : Prop where
 out : wpList P l.toArray Q (l.drop i) a w
section
variable {P : Program} {l : List Oper} {Q : Exit → Act → World → Prop} {a : Act} {w : World}
theorem line {id : Nat} (h : Line P l Q 0 a w) : (Code.region id l.toArray false).wp P Q a w := wp_region_lit h.out
theorem line_value {w1 : World} (i : Nat) (o : Oper) (v : Value) (hi : l[i]? = some o) (hw : Region.wanted o (yielded l.toArray a.tmps) = true) (hv : (execOp a.eval o).run P w = .ok (.value v) w1) (h : Line P l Q (i + 1) (a.put o.dst v) w1) : Line P l Q i a w := by
 have hk := (List.getElem?_eq_some_iff.1 hi).1
 have he := (List.getElem?_eq_some_iff.1 hi).2
 replace h := h.out
 refine ⟨?_⟩
 rw [List.drop_eq_getElem_cons hk, he]
 unfold wpList
 rw [if_pos hw]
 refine .inl ?_
 unfold Oper.wp
 rw [hv, Oper.upon_value]
 exact h
theorem line_same (i : Nat) (o : Oper) (v : Value) (hi : l[i]? = some o) (h : Line P l Q (i + 1) (a.put o.dst v) w) (hw : Region.wanted o (yielded l.toArray a.tmps) = true := by kernel_rfl) (hv : (execOp a.eval o).run P w = .ok (.value v) w := by kernel_rfl) : Line P l Q i a w := line_value i o v hi hw hv h
theorem line_skip (i : Nat) (o : Oper) (hi : l[i]? = some o) (h : Line P l Q (i + 1) (a.put o.dst undef) w) (hw : Region.wanted o (yielded l.toArray a.tmps) = false := by kernel_rfl) : Line P l Q i a w := by
 have hk := (List.getElem?_eq_some_iff.1 hi).1
 have he := (List.getElem?_eq_some_iff.1 hi).2
 replace h := h.out
 refine ⟨?_⟩
 rw [List.drop_eq_getElem_cons hk, he]
 unfold wpList
 rw [if_neg (by rw [hw]; simp)]
 exact h
theorem line_call (i : Nat) (o : Oper) (F : FuncId) (args : Array Value) (hi : l[i]? = some o) (hw : Region.wanted o (yielded l.toArray a.tmps) = true) (hv : (execOp a.eval o).run P w = .ok (.enter F args) w) (h : Calls P F args w fun e w' => ∃ v, e = .returned v ∧ Line P l Q (i + 1) (a.put o.dst v) w') : Line P l Q i a w := by
 have hk := (List.getElem?_eq_some_iff.1 hi).1
 have he := (List.getElem?_eq_some_iff.1 hi).2
 refine ⟨?_⟩
 rw [List.drop_eq_getElem_cons hk, he]
 unfold wpList
 rw [if_pos hw]
 refine .inl ?_
 unfold Oper.wp
 rw [hv]
 simp only [Oper.upon]
 refine h.mono ?_
 rintro e w' ⟨v, rfl, hR⟩
 exact hR.out
theorem line_done {n : Nat} (hn : l.length ≤ n) (h : Q .normal a w) : Line P l Q n a w := by
 refine ⟨?_⟩
 rw [List.drop_of_length_le hn]
 exact h
end
end Go.Proofs.YtaciegkblklokaaGreat.plan
namespace Go.Proofs.YtaciegkblklokaaGreat.plan
open Go Go.RowKit
def gate (x : Value) (want : Bool) : Bool := (match x with | .bool b => some b | _ => none : Option Bool) == some want
theorem gate_iff {x : Value} {want : Bool} : gate x want = true ↔ x = .bool want := by
 unfold gate
 cases x <;> simp
theorem wanted_gate {o : Oper} {ops : Array Oper} {tmps : Array Value} {j : Nat} {want : Bool} {x : Value} (hg : o.guard = some (j, want)) (hj : ((ops[j]?).bind (·.dst)).bind (tmps[·]?) = some x) : Region.wanted o (yielded ops tmps) = gate x want := by
 unfold Region.wanted yielded gate
 rw [hg]
 simp only [hj]
 cases x <;> rfl
section
variable {P : Program} {l : List Oper} {Q : Exit → Act → World → Prop} {a : Act} {w : World}
theorem sym_op (i j : Nat) (o : Oper) (want : Bool) (x v : Value) (hi : l[i]? = some o) (hg : o.guard = some (j, want))
  (hv : x = .bool want → (execOp a.eval o).run P w = .ok (.value v) w) (h : ∀ y, (x = .bool want → y = v) → Line P l Q (i + 1) (a.put o.dst y) w) (hj : ((l.toArray[j]?).bind (·.dst)).bind (a.tmps[·]?) = some x := by kernel_rfl) : Line P l Q i a w := by
 by_cases hb : gate x want = true
 ·exact line_same i o v hi (hw := ((wanted_gate hg hj).trans hb)) (hv := (hv (gate_iff.1 hb))) (h v (fun _ => rfl))
 ·exact line_skip i o hi (hw := ((wanted_gate hg hj).trans (by simpa using hb))) (h undef (fun e => absurd (gate_iff.2 e) hb))
theorem sym_call (i j : Nat) (o : Oper) (want : Bool) (x v : Value) (F : FuncId) (args : Array Value) (S : World → Prop) (hi : l[i]? = some o) (hg : o.guard = some (j, want)) (hS : S w)
  (hv : x = .bool want → (execOp a.eval o).run P w = .ok (.enter F args) w) (hC : x = .bool want → Calls P F args w fun e w' => e = .returned v ∧ S w') (h : ∀ y w', S w' → (x = .bool want → y = v) → Line P l Q (i + 1) (a.put o.dst y) w') (hj : ((l.toArray[j]?).bind (·.dst)).bind (a.tmps[·]?) = some x := by kernel_rfl) : Line P l Q i a w := by
 by_cases hb : gate x want = true
 ·refine line_call i o F args hi ((wanted_gate hg hj).trans hb) (hv (gate_iff.1 hb)) ((hC (gate_iff.1 hb)).mono ?_)
  rintro e w' ⟨rfl, hS'⟩
  exact ⟨v, rfl, h v w' hS' (fun _ => rfl)⟩
 ·exact line_skip i o hi (hw := ((wanted_gate hg hj).trans (by simpa using hb))) (h undef w hS (fun e => absurd (gate_iff.2 e) hb))
theorem call_S (i : Nat) (o : Oper) (v : Value) (F : FuncId) (args : Array Value) (S : World → Prop) (hi : l[i]? = some o) (hC : Calls P F args w fun e w' => e = .returned v ∧ S w') (h : ∀ w', S w' → Line P l Q (i + 1) (a.put o.dst v) w') (hw : Region.wanted o (yielded l.toArray a.tmps) = true := by kernel_rfl) (hv : (execOp a.eval o).run P w = .ok (.enter F args) w := by kernel_rfl) : Line P l Q i a w := by
 refine line_call i o F args hi hw hv (hC.mono ?_)
 rintro e w' ⟨rfl, hS'⟩
 exact ⟨v, rfl, h w' hS'⟩
theorem exec_pick_or {o : Oper} {x y : Operand} {c e : Bool} (ho : o.op = .pick x (.const (.bool true)) y) (hy : c = false → a.eval y = .bool e) (hx : a.eval x = .bool c := by kernel_rfl) : (execOp a.eval o).run P w = .ok (.value (.bool (c || e))) w := by
 unfold execOp
 rw [ho]
 cases c
 ·simp only [hx, hy rfl]; go_simp
 ·simp only [hx]; go_simp
theorem exec_pick_and {o : Oper} {x y : Operand} {c e : Bool} (ho : o.op = .pick x y (.const (.bool false))) (hy : c = true → a.eval y = .bool e) (hx : a.eval x = .bool c := by kernel_rfl) : (execOp a.eval o).run P w = .ok (.value (.bool (c && e))) w := by
 unfold execOp
 rw [ho]
 cases c
 ·simp only [hx]; go_simp
 ·simp only [hx, hy rfl]; go_simp
theorem exec_as {o : Oper} {c e : Bool} (h : (execOp a.eval o).run P w = .ok (.value (.bool c)) w) (he : c = e) : (execOp a.eval o).run P w = .ok (.value (.bool e)) w := he ▸ h
theorem exec_assign_b {o : Oper} {x : Operand} {c e : Bool} (ho : o.op = .assign x) (he : c = e) (hx : a.eval x = .bool c := by kernel_rfl) : (execOp a.eval o).run P w = .ok (.value (.bool e)) w := by
 unfold execOp
 rw [ho]
 simp only [hx, he]
 go_simp
end
end Go.Proofs.YtaciegkblklokaaGreat.plan
namespace Go.Proofs.YtaciegkblklokaaGreat.step
open Go.RowKit
open Go.Proofs.YtaciegkblklokaaGreat.field (Gives newB gives_from)
open Go.Proofs.YtaciegkblklokaaGreat.schema (below_out exec_two exec_load_at exec_cell_slice exec_cell_int exec_neq_int exec_gtr_int info_fd)
theorem exec_eql_int {o : Oper} {a : Act} {w : World} {x y : Operand} {t' : TypeId} {n m : Int} (ho : o.op = .binOp .eql 3 x y t') (hx : a.eval x = .int .i64 n := by kernel_rfl) (hy : a.eval y = .int .i64 m := by kernel_rfl) : (execOp a.eval o).run Tryz.prog w = .ok (.value (.bool (n == m))) w :=
 exec_two ho (hx := hx) (hy := hy) (by simp [go_sem]) (by simp [go_sem])
def Sp.zeroB (s : Sp) : Bool :=
 ((((HasC s.op 100 || s.fd == 0) && (HasC s.op 112 || s.pl == 0)) && (HasC s.op 116 || s.tt == 0)) && ((HasC s.op 97 || HasC s.op 98) || s.a == 0) && (HasC s.op 98 || s.b == 0)) &&
  (HasC s.op 70 || decide (s.f = fd0)) && (HasC s.op 86 || decide (s.v = va0)) && (HasC s.op 84 || (s.t.length : Int) == 0) && (HasC s.op 76 || (s.l.length : Int) == 0)
set_option maxRecDepth 20000 in
set_option maxHeartbeats 6400000 in
theorem refZero_any (s : Sp) (ta : Option Addr) (tc : Nat) (la : Option Addr) (lc : Nat) (w : World) (h : Lists w s ta la) : Calls Tryz.prog 28 #[zP s ta tc la lc] w (Gives (.bool s.zeroB) w) := by
 have HZ : Hid (∀ w', Below (w.alloc (.cells (zP s ta tc la lc) 32)).heap.size (w.alloc (.cells (zP s ta tc la lc) 32)) w' → Block w' w.heap.size 32 (zP s ta tc la lc)) := hid (fun w' hb => (Block.new w 32 (zP s ta tc la lc)).later hb)
 have HL := hid (h.below (newB w (.cells (zP s ta tc la lc) 32)))
 have HB0 := hid (newB w (.cells (zP s ta tc la lc) 32))
 obtain ⟨W0, hW0⟩ : ∃ x, (w.alloc (.cells (zP s ta tc la lc) 32)) = x := ⟨_, rfl⟩
 have HW0 := hid hW0
 rw [hW0] at HZ HL HB0
 clear h hW0
 unfold Gives
 go_enter Tryz.func28, Tryz.ntmps28
 go_upto_region 1 with fail
 rw [HW0.out]
 have hS0 : Below W0.heap.size W0 W0 := Below.refl _ _
 refine plan.line ?_
 refine plan.line_same 0 _ (.pointer (some ⟨w.heap.size, 0, none⟩)) rfl ?_
 refine plan.line_same 1 _ (.int .i64 s.op) rfl (hv := (exec_cell_int (ad := ⟨w.heap.size, 0, none⟩) rfl (by kernel_rfl) ((HZ.out _ hS0).cell 0) Tryz.isAgg3)) ?_
 refine plan.call_S 2 _ (.bool (HasC s.op 100)) 31 #[.int .i64 s.op, .int .u8 100] (fun w' => Below W0.heap.size W0 w') rfl (gives_from (has_any s.op 100 W0) hS0) ?_
 intro wa2 hSa2
 refine plan.line_same 3 _ (.bool (HasC s.op 100)) rfl ?_
 refine plan.sym_op 4 3 _ false (.bool (HasC s.op 100)) (.pointer (some ⟨w.heap.size, 2, none⟩)) rfl rfl (fun K => (by kernel_rfl)) ?_
 intro xa4 ha4
 refine plan.sym_op 5 3 _ false (.bool (HasC s.op 100)) (.int .i64 s.fd) rfl rfl (fun K => by have e := ha4 K; subst e; exact (exec_cell_int (ad := ⟨w.heap.size, 2, none⟩) rfl (by kernel_rfl) ((HZ.out _ hSa2).cell 2) Tryz.isAgg3)) ?_
 intro xa5 ha5
 refine plan.sym_op 6 3 _ false (.bool (HasC s.op 100)) (.bool (s.fd == 0)) rfl rfl (fun K => by have e := ha5 K; subst e; exact (exec_eql_int (n := s.fd) (m := 0) rfl)) ?_
 intro xa6 ha6
 refine plan.line_same 7 _ (.bool ((HasC s.op 100) || (s.fd == 0))) rfl (hv := (plan.exec_pick_or (c := (HasC s.op 100)) (e := (s.fd == 0)) rfl (fun q => Eq.trans (b := xa6) (by kernel_rfl) (ha6 (by rw [q]))))) ?_
 refine plan.line_same 8 _ (.bool ((HasC s.op 100) || (s.fd == 0))) rfl ?_
 refine plan.sym_op 9 8 _ true (.bool ((HasC s.op 100) || (s.fd == 0))) (.pointer (some ⟨w.heap.size, 0, none⟩)) rfl rfl (fun K => (by kernel_rfl)) ?_
 intro xa9 ha9
 refine plan.sym_op 10 8 _ true (.bool ((HasC s.op 100) || (s.fd == 0))) (.int .i64 s.op) rfl rfl (fun K => by have e := ha9 K; subst e; exact (exec_cell_int (ad := ⟨w.heap.size, 0, none⟩) rfl (by kernel_rfl) ((HZ.out _ hSa2).cell 0) Tryz.isAgg3)) ?_
 intro xa10 ha10
 refine plan.sym_call 11 8 _ true (.bool ((HasC s.op 100) || (s.fd == 0))) (.bool (HasC s.op 112)) 31 #[.int .i64 s.op, .int .u8 112] (fun w' => Below W0.heap.size W0 w') rfl rfl hSa2 (fun K => by have e := ha10 K; subst e; show _ = _; kernel_rfl) (fun K => gives_from (has_any s.op 112 wa2) hSa2) ?_
 intro xa11 wa11 hSa11 ha11
 refine plan.sym_op 12 8 _ true (.bool ((HasC s.op 100) || (s.fd == 0))) (.bool (HasC s.op 112)) rfl rfl (fun K => by have e := ha11 K; subst e; show _ = _; kernel_rfl) ?_
 intro xa12 ha12
 refine plan.sym_op 13 12 _ false (xa12) (.pointer (some ⟨w.heap.size, 3, none⟩)) rfl rfl (fun K => (by kernel_rfl)) ?_
 intro xa13 ha13
 refine plan.sym_op 14 12 _ false (xa12) (.int .i64 s.pl) rfl rfl (fun K => by have e := ha13 K; subst e; exact (exec_cell_int (ad := ⟨w.heap.size, 3, none⟩) rfl (by kernel_rfl) ((HZ.out _ hSa11).cell 3) Tryz.isAgg3)) ?_
 intro xa14 ha14
 refine plan.sym_op 15 12 _ false (xa12) (.bool (s.pl == 0)) rfl rfl (fun K => by have e := ha14 K; subst e; exact (exec_eql_int (n := s.pl) (m := 0) rfl)) ?_
 intro xa15 ha15
 refine plan.sym_op 16 8 _ true (.bool ((HasC s.op 100) || (s.fd == 0))) (.bool ((HasC s.op 112) || (s.pl == 0))) rfl rfl (fun K => by have e := ha12 K; subst e; exact (plan.exec_pick_or (c := (HasC s.op 112)) (e := (s.pl == 0)) rfl (fun q => Eq.trans (b := xa15) (by kernel_rfl) (ha15 (by rw [q]))))) ?_
 intro xa16 ha16
 refine plan.line_same 17 _ (.bool (((HasC s.op 100) || (s.fd == 0)) && ((HasC s.op 112) || (s.pl == 0)))) rfl (hv := (plan.exec_pick_and (c := ((HasC s.op 100) || (s.fd == 0))) (e := ((HasC s.op 112) || (s.pl == 0))) rfl (fun q => Eq.trans (b := xa16) (by kernel_rfl) (ha16 (by rw [q]))))) ?_
 refine plan.line_same 18 _ (.bool (((HasC s.op 100) || (s.fd == 0)) && ((HasC s.op 112) || (s.pl == 0)))) rfl ?_
 refine plan.sym_op 19 18 _ true (.bool (((HasC s.op 100) || (s.fd == 0)) && ((HasC s.op 112) || (s.pl == 0)))) (.pointer (some ⟨w.heap.size, 0, none⟩)) rfl rfl (fun K => (by kernel_rfl)) ?_
 intro xa19 ha19
 refine plan.sym_op 20 18 _ true (.bool (((HasC s.op 100) || (s.fd == 0)) && ((HasC s.op 112) || (s.pl == 0)))) (.int .i64 s.op) rfl rfl (fun K => by have e := ha19 K; subst e; exact (exec_cell_int (ad := ⟨w.heap.size, 0, none⟩) rfl (by kernel_rfl) ((HZ.out _ hSa11).cell 0) Tryz.isAgg3)) ?_
 intro xa20 ha20
 refine plan.sym_call 21 18 _ true (.bool (((HasC s.op 100) || (s.fd == 0)) && ((HasC s.op 112) || (s.pl == 0)))) (.bool (HasC s.op 116)) 31 #[.int .i64 s.op, .int .u8 116] (fun w' => Below W0.heap.size W0 w') rfl rfl hSa11 (fun K => by have e := ha20 K; subst e; show _ = _; kernel_rfl) (fun K => gives_from (has_any s.op 116 wa11) hSa11) ?_
 intro xa21 wa21 hSa21 ha21
 refine plan.sym_op 22 18 _ true (.bool (((HasC s.op 100) || (s.fd == 0)) && ((HasC s.op 112) || (s.pl == 0)))) (.bool (HasC s.op 116)) rfl rfl (fun K => by have e := ha21 K; subst e; show _ = _; kernel_rfl) ?_
 intro xa22 ha22
 refine plan.sym_op 23 22 _ false (xa22) (.pointer (some ⟨w.heap.size, 4, none⟩)) rfl rfl (fun K => (by kernel_rfl)) ?_
 intro xa23 ha23
 refine plan.sym_op 24 22 _ false (xa22) (.int .i64 s.tt) rfl rfl (fun K => by have e := ha23 K; subst e; exact (exec_cell_int (ad := ⟨w.heap.size, 4, none⟩) rfl (by kernel_rfl) ((HZ.out _ hSa21).cell 4) Tryz.isAgg3)) ?_
 intro xa24 ha24
 refine plan.sym_op 25 22 _ false (xa22) (.bool (s.tt == 0)) rfl rfl (fun K => by have e := ha24 K; subst e; exact (exec_eql_int (n := s.tt) (m := 0) rfl)) ?_
 intro xa25 ha25
 refine plan.sym_op 26 18 _ true (.bool (((HasC s.op 100) || (s.fd == 0)) && ((HasC s.op 112) || (s.pl == 0)))) (.bool ((HasC s.op 116) || (s.tt == 0))) rfl rfl (fun K => by have e := ha22 K; subst e; exact (plan.exec_pick_or (c := (HasC s.op 116)) (e := (s.tt == 0)) rfl (fun q => Eq.trans (b := xa25) (by kernel_rfl) (ha25 (by rw [q]))))) ?_
 intro xa26 ha26
 refine plan.line_same 27 _ (.bool ((((HasC s.op 100) || (s.fd == 0)) && ((HasC s.op 112) || (s.pl == 0))) && ((HasC s.op 116) || (s.tt == 0)))) rfl (hv := (plan.exec_pick_and (c := (((HasC s.op 100) || (s.fd == 0)) && ((HasC s.op 112) || (s.pl == 0)))) (e := ((HasC s.op 116) || (s.tt == 0))) rfl (fun q => Eq.trans (b := xa26) (by kernel_rfl) (ha26 (by rw [q]))))) ?_
 obtain ⟨k1, hk1⟩ : ∃ q, Hid (((((HasC s.op 100) || (s.fd == 0)) && ((HasC s.op 112) || (s.pl == 0))) && ((HasC s.op 116) || (s.tt == 0))) = q) := ⟨_, hid rfl⟩
 refine plan.line_same 28 _ (.bool k1) rfl (hv := (plan.exec_assign_b (c := ((((HasC s.op 100) || (s.fd == 0)) && ((HasC s.op 112) || (s.pl == 0))) && ((HasC s.op 116) || (s.tt == 0)))) rfl hk1.out)) ?_
 refine plan.line_done (by decide) ?_
 walk_nrm
 go_upto_region 2 with fail
 refine plan.line ?_
 refine plan.line_same 0 _ (.bool k1) rfl ?_
 refine plan.line_same 1 _ (.bool k1) rfl ?_
 refine plan.sym_op 2 1 _ true (.bool k1) (.pointer (some ⟨w.heap.size, 0, none⟩)) rfl rfl (fun K => (by kernel_rfl)) ?_
 intro xb2 hb2
 refine plan.sym_op 3 1 _ true (.bool k1) (.int .i64 s.op) rfl rfl (fun K => by have e := hb2 K; subst e; exact (exec_cell_int (ad := ⟨w.heap.size, 0, none⟩) rfl (by kernel_rfl) ((HZ.out _ hSa21).cell 0) Tryz.isAgg3)) ?_
 intro xb3 hb3
 refine plan.sym_call 4 1 _ true (.bool k1) (.bool (HasC s.op 97)) 31 #[.int .i64 s.op, .int .u8 97] (fun w' => Below W0.heap.size W0 w') rfl rfl hSa21 (fun K => by have e := hb3 K; subst e; show _ = _; kernel_rfl) (fun K => gives_from (has_any s.op 97 wa21) hSa21) ?_
 intro xb4 wb4 hSb4 hb4
 refine plan.sym_op 5 1 _ true (.bool k1) (.bool (HasC s.op 97)) rfl rfl (fun K => by have e := hb4 K; subst e; show _ = _; kernel_rfl) ?_
 intro xb5 hb5
 refine plan.sym_op 6 5 _ false (xb5) (.pointer (some ⟨w.heap.size, 0, none⟩)) rfl rfl (fun K => (by kernel_rfl)) ?_
 intro xb6 hb6
 refine plan.sym_op 7 5 _ false (xb5) (.int .i64 s.op) rfl rfl (fun K => by have e := hb6 K; subst e; exact (exec_cell_int (ad := ⟨w.heap.size, 0, none⟩) rfl (by kernel_rfl) ((HZ.out _ hSb4).cell 0) Tryz.isAgg3)) ?_
 intro xb7 hb7
 refine plan.sym_call 8 5 _ false (xb5) (.bool (HasC s.op 98)) 31 #[.int .i64 s.op, .int .u8 98] (fun w' => Below W0.heap.size W0 w') rfl rfl hSb4 (fun K => by have e := hb7 K; subst e; show _ = _; kernel_rfl) (fun K => gives_from (has_any s.op 98 wb4) hSb4) ?_
 intro xb8 wb8 hSb8 hb8
 refine plan.sym_op 9 1 _ true (.bool k1) (.bool ((HasC s.op 97) || (HasC s.op 98))) rfl rfl (fun K => by have e := hb5 K; subst e; exact (plan.exec_pick_or (c := (HasC s.op 97)) (e := (HasC s.op 98)) rfl (fun q => Eq.trans (b := xb8) (by kernel_rfl) (hb8 (by rw [q]))))) ?_
 intro xb9 hb9
 refine plan.sym_op 10 1 _ true (.bool k1) (.bool ((HasC s.op 97) || (HasC s.op 98))) rfl rfl (fun K => by have e := hb9 K; subst e; show _ = _; kernel_rfl) ?_
 intro xb10 hb10
 refine plan.sym_op 11 10 _ false (xb10) (.pointer (some ⟨w.heap.size, 5, none⟩)) rfl rfl (fun K => (by kernel_rfl)) ?_
 intro xb11 hb11
 refine plan.sym_op 12 10 _ false (xb10) (.int .i64 s.a) rfl rfl (fun K => by have e := hb11 K; subst e; exact (exec_cell_int (ad := ⟨w.heap.size, 5, none⟩) rfl (by kernel_rfl) ((HZ.out _ hSb8).cell 5) Tryz.isAgg3)) ?_
 intro xb12 hb12
 refine plan.sym_op 13 10 _ false (xb10) (.bool (s.a == 0)) rfl rfl (fun K => by have e := hb12 K; subst e; exact (exec_eql_int (n := s.a) (m := 0) rfl)) ?_
 intro xb13 hb13
 refine plan.sym_op 14 1 _ true (.bool k1) (.bool (((HasC s.op 97) || (HasC s.op 98)) || (s.a == 0))) rfl rfl (fun K => by have e := hb10 K; subst e; exact (plan.exec_pick_or (c := ((HasC s.op 97) || (HasC s.op 98))) (e := (s.a == 0)) rfl (fun q => Eq.trans (b := xb13) (by kernel_rfl) (hb13 (by rw [q]))))) ?_
 intro xb14 hb14
 refine plan.line_same 15 _ (.bool (k1 && (((HasC s.op 97) || (HasC s.op 98)) || (s.a == 0)))) rfl (hv := (plan.exec_pick_and (c := k1) (e := (((HasC s.op 97) || (HasC s.op 98)) || (s.a == 0))) rfl (fun q => Eq.trans (b := xb14) (by kernel_rfl) (hb14 (by rw [q]))))) ?_
 refine plan.line_same 16 _ (.bool (k1 && (((HasC s.op 97) || (HasC s.op 98)) || (s.a == 0)))) rfl ?_
 refine plan.sym_op 17 16 _ true (.bool (k1 && (((HasC s.op 97) || (HasC s.op 98)) || (s.a == 0)))) (.pointer (some ⟨w.heap.size, 0, none⟩)) rfl rfl (fun K => (by kernel_rfl)) ?_
 intro xb17 hb17
 refine plan.sym_op 18 16 _ true (.bool (k1 && (((HasC s.op 97) || (HasC s.op 98)) || (s.a == 0)))) (.int .i64 s.op) rfl rfl (fun K => by have e := hb17 K; subst e; exact (exec_cell_int (ad := ⟨w.heap.size, 0, none⟩) rfl (by kernel_rfl) ((HZ.out _ hSb8).cell 0) Tryz.isAgg3)) ?_
 intro xb18 hb18
 refine plan.sym_call 19 16 _ true (.bool (k1 && (((HasC s.op 97) || (HasC s.op 98)) || (s.a == 0)))) (.bool (HasC s.op 98)) 31 #[.int .i64 s.op, .int .u8 98] (fun w' => Below W0.heap.size W0 w') rfl rfl hSb8 (fun K => by have e := hb18 K; subst e; show _ = _; kernel_rfl) (fun K => gives_from (has_any s.op 98 wb8) hSb8) ?_
 intro xb19 wb19 hSb19 hb19
 refine plan.sym_op 20 16 _ true (.bool (k1 && (((HasC s.op 97) || (HasC s.op 98)) || (s.a == 0)))) (.bool (HasC s.op 98)) rfl rfl (fun K => by have e := hb19 K; subst e; show _ = _; kernel_rfl) ?_
 intro xb20 hb20
 refine plan.sym_op 21 20 _ false (xb20) (.pointer (some ⟨w.heap.size, 6, none⟩)) rfl rfl (fun K => (by kernel_rfl)) ?_
 intro xb21 hb21
 refine plan.sym_op 22 20 _ false (xb20) (.int .i64 s.b) rfl rfl (fun K => by have e := hb21 K; subst e; exact (exec_cell_int (ad := ⟨w.heap.size, 6, none⟩) rfl (by kernel_rfl) ((HZ.out _ hSb19).cell 6) Tryz.isAgg3)) ?_
 intro xb22 hb22
 refine plan.sym_op 23 20 _ false (xb20) (.bool (s.b == 0)) rfl rfl (fun K => by have e := hb22 K; subst e; exact (exec_eql_int (n := s.b) (m := 0) rfl)) ?_
 intro xb23 hb23
 refine plan.sym_op 24 16 _ true (.bool (k1 && (((HasC s.op 97) || (HasC s.op 98)) || (s.a == 0)))) (.bool ((HasC s.op 98) || (s.b == 0))) rfl rfl (fun K => by have e := hb20 K; subst e; exact (plan.exec_pick_or (c := (HasC s.op 98)) (e := (s.b == 0)) rfl (fun q => Eq.trans (b := xb23) (by kernel_rfl) (hb23 (by rw [q]))))) ?_
 intro xb24 hb24
 refine plan.line_same 25 _ (.bool ((k1 && (((HasC s.op 97) || (HasC s.op 98)) || (s.a == 0))) && ((HasC s.op 98) || (s.b == 0)))) rfl (hv := (plan.exec_pick_and (c := (k1 && (((HasC s.op 97) || (HasC s.op 98)) || (s.a == 0)))) (e := ((HasC s.op 98) || (s.b == 0))) rfl (fun q => Eq.trans (b := xb24) (by kernel_rfl) (hb24 (by rw [q]))))) ?_
 obtain ⟨k2, hk2⟩ : ∃ q, Hid (((k1 && (((HasC s.op 97) || (HasC s.op 98)) || (s.a == 0))) && ((HasC s.op 98) || (s.b == 0))) = q) := ⟨_, hid rfl⟩
 refine plan.line_same 26 _ (.bool k2) rfl (hv := (plan.exec_assign_b (c := ((k1 && (((HasC s.op 97) || (HasC s.op 98)) || (s.a == 0))) && ((HasC s.op 98) || (s.b == 0)))) rfl hk2.out)) ?_
 refine plan.line_done (by decide) ?_
 walk_nrm
 go_upto_region 3 with fail
 refine plan.line ?_
 refine plan.line_same 0 _ (.bool k2) rfl ?_
 refine plan.line_same 1 _ (.bool k2) rfl ?_
 refine plan.sym_op 2 1 _ true (.bool k2) (.pointer (some ⟨w.heap.size, 0, none⟩)) rfl rfl (fun K => (by kernel_rfl)) ?_
 intro xc2 hc2
 refine plan.sym_op 3 1 _ true (.bool k2) (.int .i64 s.op) rfl rfl (fun K => by have e := hc2 K; subst e; exact (exec_cell_int (ad := ⟨w.heap.size, 0, none⟩) rfl (by kernel_rfl) ((HZ.out _ hSb19).cell 0) Tryz.isAgg3)) ?_
 intro xc3 hc3
 refine plan.sym_call 4 1 _ true (.bool k2) (.bool (HasC s.op 70)) 31 #[.int .i64 s.op, .int .u8 70] (fun w' => Below W0.heap.size W0 w') rfl rfl hSb19 (fun K => by have e := hc3 K; subst e; show _ = _; kernel_rfl) (fun K => gives_from (has_any s.op 70 wb19) hSb19) ?_
 intro xc4 wc4 hSc4 hc4
 refine plan.sym_op 5 1 _ true (.bool k2) (.bool (HasC s.op 70)) rfl rfl (fun K => by have e := hc4 K; subst e; show _ = _; kernel_rfl) ?_
 intro xc5 hc5
 refine plan.sym_op 6 5 _ false (xc5) (.pointer (some ⟨w.heap.size, 7, none⟩)) rfl rfl (fun K => (by kernel_rfl)) ?_
 intro xc6 hc6
 refine plan.sym_op 7 5 _ false (xc5) (zF s.f) rfl rfl (fun K => by have e := hc6 K; subst e; exact (exec_load_at (b := w.heap.size) (off := 7) rfl (range_f (HZ.out _ hSc4)) Tryz.underlying26 rfl info_fd.out)) ?_
 intro xc7 hc7
 refine plan.sym_op 8 5 _ false (xc5) (zF fd0) rfl rfl (fun K => (by kernel_rfl)) ?_
 intro xc8 hc8
 refine plan.sym_op 9 5 _ false (xc5) (.bool (decide (s.f = fd0))) rfl rfl (fun K => by have e := hc7 K; subst e; have e := hc8 K; subst e; exact (exec_two rfl (eqg_fd _ _ _ _ _ _) (eq_fd s.f fd0 _))) ?_
 intro xc9 hc9
 refine plan.sym_op 10 1 _ true (.bool k2) (.bool ((HasC s.op 70) || (decide (s.f = fd0)))) rfl rfl (fun K => by have e := hc5 K; subst e; exact (plan.exec_pick_or (c := (HasC s.op 70)) (e := (decide (s.f = fd0))) rfl (fun q => Eq.trans (b := xc9) (by kernel_rfl) (hc9 (by rw [q]))))) ?_
 intro xc10 hc10
 refine plan.line_same 11 _ (.bool (k2 && ((HasC s.op 70) || (decide (s.f = fd0))))) rfl (hv := (plan.exec_pick_and (c := k2) (e := ((HasC s.op 70) || (decide (s.f = fd0)))) rfl (fun q => Eq.trans (b := xc10) (by kernel_rfl) (hc10 (by rw [q]))))) ?_
 refine plan.line_same 12 _ (.bool (k2 && ((HasC s.op 70) || (decide (s.f = fd0))))) rfl ?_
 refine plan.sym_op 13 12 _ true (.bool (k2 && ((HasC s.op 70) || (decide (s.f = fd0))))) (.pointer (some ⟨w.heap.size, 0, none⟩)) rfl rfl (fun K => (by kernel_rfl)) ?_
 intro xc13 hc13
 refine plan.sym_op 14 12 _ true (.bool (k2 && ((HasC s.op 70) || (decide (s.f = fd0))))) (.int .i64 s.op) rfl rfl (fun K => by have e := hc13 K; subst e; exact (exec_cell_int (ad := ⟨w.heap.size, 0, none⟩) rfl (by kernel_rfl) ((HZ.out _ hSc4).cell 0) Tryz.isAgg3)) ?_
 intro xc14 hc14
 refine plan.sym_call 15 12 _ true (.bool (k2 && ((HasC s.op 70) || (decide (s.f = fd0))))) (.bool (HasC s.op 86)) 31 #[.int .i64 s.op, .int .u8 86] (fun w' => Below W0.heap.size W0 w') rfl rfl hSc4 (fun K => by have e := hc14 K; subst e; show _ = _; kernel_rfl) (fun K => gives_from (has_any s.op 86 wc4) hSc4) ?_
 intro xc15 wc15 hSc15 hc15
 refine plan.sym_op 16 12 _ true (.bool (k2 && ((HasC s.op 70) || (decide (s.f = fd0))))) (.bool (HasC s.op 86)) rfl rfl (fun K => by have e := hc15 K; subst e; show _ = _; kernel_rfl) ?_
 intro xc16 hc16
 refine plan.sym_op 17 16 _ false (xc16) (.pointer (some ⟨w.heap.size, 12, none⟩)) rfl rfl (fun K => (by kernel_rfl)) ?_
 intro xc17 hc17
 refine plan.sym_op 18 16 _ false (xc16) (zV s.v) rfl rfl (fun K => by have e := hc17 K; subst e; exact (exec_load_at (b := w.heap.size) (off := 12) rfl (range_v (HZ.out _ hSc15)) Tryz.underlying28 rfl info_va.out)) ?_
 intro xc18 hc18
 refine plan.sym_op 19 16 _ false (xc16) (zV va0) rfl rfl (fun K => (by kernel_rfl)) ?_
 intro xc19 hc19
 refine plan.sym_op 20 16 _ false (xc16) (.bool (decide (s.v = va0))) rfl rfl (fun K => by have e := hc18 K; subst e; have e := hc19 K; subst e; exact (exec_two rfl (eqg_va _ _ _ _ _ _) (eq_va s.v va0 _))) ?_
 intro xc20 hc20
 refine plan.sym_op 21 12 _ true (.bool (k2 && ((HasC s.op 70) || (decide (s.f = fd0))))) (.bool ((HasC s.op 86) || (decide (s.v = va0)))) rfl rfl (fun K => by have e := hc16 K; subst e; exact (plan.exec_pick_or (c := (HasC s.op 86)) (e := (decide (s.v = va0))) rfl (fun q => Eq.trans (b := xc20) (by kernel_rfl) (hc20 (by rw [q]))))) ?_
 intro xc21 hc21
 refine plan.line_same 22 _ (.bool ((k2 && ((HasC s.op 70) || (decide (s.f = fd0)))) && ((HasC s.op 86) || (decide (s.v = va0))))) rfl (hv := (plan.exec_pick_and (c := (k2 && ((HasC s.op 70) || (decide (s.f = fd0))))) (e := ((HasC s.op 86) || (decide (s.v = va0)))) rfl (fun q => Eq.trans (b := xc21) (by kernel_rfl) (hc21 (by rw [q]))))) ?_
 obtain ⟨k3, hk3⟩ : ∃ q, Hid (((k2 && ((HasC s.op 70) || (decide (s.f = fd0)))) && ((HasC s.op 86) || (decide (s.v = va0)))) = q) := ⟨_, hid rfl⟩
 refine plan.line_same 23 _ (.bool k3) rfl (hv := (plan.exec_assign_b (c := ((k2 && ((HasC s.op 70) || (decide (s.f = fd0)))) && ((HasC s.op 86) || (decide (s.v = va0))))) rfl hk3.out)) ?_
 refine plan.line_done (by decide) ?_
 walk_nrm
 go_upto_region 4 with fail
 refine plan.line ?_
 refine plan.line_same 0 _ (.bool k3) rfl ?_
 refine plan.line_same 1 _ (.bool k3) rfl ?_
 refine plan.sym_op 2 1 _ true (.bool k3) (.pointer (some ⟨w.heap.size, 0, none⟩)) rfl rfl (fun K => (by kernel_rfl)) ?_
 intro xd2 hd2
 refine plan.sym_op 3 1 _ true (.bool k3) (.int .i64 s.op) rfl rfl (fun K => by have e := hd2 K; subst e; exact (exec_cell_int (ad := ⟨w.heap.size, 0, none⟩) rfl (by kernel_rfl) ((HZ.out _ hSc15).cell 0) Tryz.isAgg3)) ?_
 intro xd3 hd3
 refine plan.sym_call 4 1 _ true (.bool k3) (.bool (HasC s.op 84)) 31 #[.int .i64 s.op, .int .u8 84] (fun w' => Below W0.heap.size W0 w') rfl rfl hSc15 (fun K => by have e := hd3 K; subst e; show _ = _; kernel_rfl) (fun K => gives_from (has_any s.op 84 wc15) hSc15) ?_
 intro xd4 wd4 hSd4 hd4
 refine plan.sym_op 5 1 _ true (.bool k3) (.bool (HasC s.op 84)) rfl rfl (fun K => by have e := hd4 K; subst e; show _ = _; kernel_rfl) ?_
 intro xd5 hd5
 refine plan.sym_op 6 5 _ false (xd5) (.pointer (some ⟨w.heap.size, 14, none⟩)) rfl rfl (fun K => (by kernel_rfl)) ?_
 intro xd6 hd6
 refine plan.sym_op 7 5 _ false (xd5) (.slice ta s.t.length tc) rfl rfl (fun K => by have e := hd6 K; subst e; exact (exec_cell_slice (ad := ⟨w.heap.size, 14, none⟩) rfl ((HZ.out _ hSd4).cell 14) Tryz.isAgg29)) ?_
 intro xd7 hd7
 refine plan.sym_op 8 5 _ false (xd5) (.int .i64 (s.t.length : Int)) rfl rfl (fun K => by have e := hd7 K; subst e; show _ = _; kernel_rfl) ?_
 intro xd8 hd8
 refine plan.sym_op 9 5 _ false (xd5) (.bool ((s.t.length : Int) == 0)) rfl rfl (fun K => by have e := hd8 K; subst e; exact (exec_eql_int (n := (s.t.length : Int)) (m := 0) rfl)) ?_
 intro xd9 hd9
 refine plan.sym_op 10 1 _ true (.bool k3) (.bool ((HasC s.op 84) || ((s.t.length : Int) == 0))) rfl rfl (fun K => by have e := hd5 K; subst e; exact (plan.exec_pick_or (c := (HasC s.op 84)) (e := ((s.t.length : Int) == 0)) rfl (fun q => Eq.trans (b := xd9) (by kernel_rfl) (hd9 (by rw [q]))))) ?_
 intro xd10 hd10
 refine plan.line_same 11 _ (.bool (k3 && ((HasC s.op 84) || ((s.t.length : Int) == 0)))) rfl (hv := (plan.exec_pick_and (c := k3) (e := ((HasC s.op 84) || ((s.t.length : Int) == 0))) rfl (fun q => Eq.trans (b := xd10) (by kernel_rfl) (hd10 (by rw [q]))))) ?_
 refine plan.line_same 12 _ (.bool (k3 && ((HasC s.op 84) || ((s.t.length : Int) == 0)))) rfl ?_
 refine plan.sym_op 13 12 _ true (.bool (k3 && ((HasC s.op 84) || ((s.t.length : Int) == 0)))) (.pointer (some ⟨w.heap.size, 0, none⟩)) rfl rfl (fun K => (by kernel_rfl)) ?_
 intro xd13 hd13
 refine plan.sym_op 14 12 _ true (.bool (k3 && ((HasC s.op 84) || ((s.t.length : Int) == 0)))) (.int .i64 s.op) rfl rfl (fun K => by have e := hd13 K; subst e; exact (exec_cell_int (ad := ⟨w.heap.size, 0, none⟩) rfl (by kernel_rfl) ((HZ.out _ hSd4).cell 0) Tryz.isAgg3)) ?_
 intro xd14 hd14
 refine plan.sym_call 15 12 _ true (.bool (k3 && ((HasC s.op 84) || ((s.t.length : Int) == 0)))) (.bool (HasC s.op 76)) 31 #[.int .i64 s.op, .int .u8 76] (fun w' => Below W0.heap.size W0 w') rfl rfl hSd4 (fun K => by have e := hd14 K; subst e; show _ = _; kernel_rfl) (fun K => gives_from (has_any s.op 76 wd4) hSd4) ?_
 intro xd15 wd15 hSd15 hd15
 refine plan.sym_op 16 12 _ true (.bool (k3 && ((HasC s.op 84) || ((s.t.length : Int) == 0)))) (.bool (HasC s.op 76)) rfl rfl (fun K => by have e := hd15 K; subst e; show _ = _; kernel_rfl) ?_
 intro xd16 hd16
 refine plan.sym_op 17 16 _ false (xd16) (.pointer (some ⟨w.heap.size, 15, none⟩)) rfl rfl (fun K => (by kernel_rfl)) ?_
 intro xd17 hd17
 refine plan.sym_op 18 16 _ false (xd16) (.slice la s.l.length lc) rfl rfl (fun K => by have e := hd17 K; subst e; exact (exec_cell_slice (ad := ⟨w.heap.size, 15, none⟩) rfl ((HZ.out _ hSd15).cell 15) Tryz.isAgg30)) ?_
 intro xd18 hd18
 refine plan.sym_op 19 16 _ false (xd16) (.int .i64 (s.l.length : Int)) rfl rfl (fun K => by have e := hd18 K; subst e; show _ = _; kernel_rfl) ?_
 intro xd19 hd19
 refine plan.sym_op 20 16 _ false (xd16) (.bool ((s.l.length : Int) == 0)) rfl rfl (fun K => by have e := hd19 K; subst e; exact (exec_eql_int (n := (s.l.length : Int)) (m := 0) rfl)) ?_
 intro xd20 hd20
 refine plan.sym_op 21 12 _ true (.bool (k3 && ((HasC s.op 84) || ((s.t.length : Int) == 0)))) (.bool ((HasC s.op 76) || ((s.l.length : Int) == 0))) rfl rfl (fun K => by have e := hd16 K; subst e; exact (plan.exec_pick_or (c := (HasC s.op 76)) (e := ((s.l.length : Int) == 0)) rfl (fun q => Eq.trans (b := xd20) (by kernel_rfl) (hd20 (by rw [q]))))) ?_
 intro xd21 hd21
 refine plan.line_same 22 _ (.bool ((k3 && ((HasC s.op 84) || ((s.t.length : Int) == 0))) && ((HasC s.op 76) || ((s.l.length : Int) == 0)))) rfl (hv := (plan.exec_pick_and (c := (k3 && ((HasC s.op 84) || ((s.t.length : Int) == 0)))) (e := ((HasC s.op 76) || ((s.l.length : Int) == 0))) rfl (fun q => Eq.trans (b := xd21) (by kernel_rfl) (hd21 (by rw [q]))))) ?_
 obtain ⟨k4, hk4⟩ : ∃ q, Hid (((k3 && ((HasC s.op 84) || ((s.t.length : Int) == 0))) && ((HasC s.op 76) || ((s.l.length : Int) == 0))) = q) := ⟨_, hid rfl⟩
 refine plan.line_same 23 _ (.bool k4) rfl (hv := (plan.exec_assign_b (c := ((k3 && ((HasC s.op 84) || ((s.t.length : Int) == 0))) && ((HasC s.op 76) || ((s.l.length : Int) == 0)))) rfl hk4.out)) ?_
 refine plan.line_done (by decide) ?_
 walk_nrm
 go_wp2
 go_ret
 refine ⟨?_, HB0.out.trans (hSd15.mono HB0.out.size)⟩
 rw [← hk4.out, ← hk3.out, ← hk2.out, ← hk1.out]
 rfl
end Go.Proofs.YtaciegkblklokaaGreat.step
