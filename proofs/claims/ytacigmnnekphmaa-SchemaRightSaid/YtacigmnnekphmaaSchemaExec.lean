/- Single operations of layer 13's references, run by themselves. No condition. -/
import Derived.Test.YtacigmnnekphmaaSchemaRefAt
import Derived.Test.YtacigmnnekphmaaPlanMore
namespace Go.Proofs.Ytacigmnnekphmaa.schema
open Go.RowKit
set_option linter.unusedVariables false
section
variable {o : Oper} {a : Act} {w : World}
theorem exec_two {op : BinOp} {t t' : TypeId} {x y : Operand} {vx vy u : Value} (ho : o.op = .binOp op t x y t') (hx : a.eval x = vx) (hy : a.eval y = vy)
    (hg : (eqGuard op t x y vx vy).run Try.prog w = .ok () w) (hr : (binOp op t vx vy).run Try.prog w = .ok u w) : (execOp a.eval o).run Try.prog w = .ok (.value u) w := by
  unfold execOp
  simp [ho, hx, hy, Sem.run_bind, hg, hr]
theorem exec_neq_int {x y : Operand} {t' : TypeId} {n m : Int} {r : Bool} (ho : o.op = .binOp .neq 3 x y t') (hx : a.eval x = .int .i64 n) (hy : a.eval y = .int .i64 m) (h : Hid ((n != m) = r)) : (execOp a.eval o).run Try.prog w = .ok (.value (.bool r)) w :=
  exec_two ho hx hy (by simp [go_sem]) (by rw [← h.out]; simp [go_sem])
theorem exec_gtr_int {x y : Operand} {t' : TypeId} {n m : Int} {r : Bool} (ho : o.op = .binOp .gtr 3 x y t') (hx : a.eval x = .int .i64 n) (hy : a.eval y = .int .i64 m) (h : Hid (decide (n > m) = r)) : (execOp a.eval o).run Try.prog w = .ok (.value (.bool r)) w :=
  exec_two ho hx hy (by simp [go_sem]) (by rw [← h.out]; simp [go_sem])
theorem exec_geq_int {x y : Operand} {t' : TypeId} {n m : Int} {r : Bool} (ho : o.op = .binOp .geq 3 x y t') (hx : a.eval x = .int .i64 n) (hy : a.eval y = .int .i64 m) (h : Hid (decide (n ≥ m) = r)) : (execOp a.eval o).run Try.prog w = .ok (.value (.bool r)) w :=
  exec_two ho hx hy (by simp [go_sem]) (by rw [← h.out]; simp [go_sem])
theorem exec_pred {x y : Operand} {t' : TypeId} {k : Nat} (ho : o.op = .binOp .sub 3 x y t') (hx : a.eval x = .int .i64 ((k + 1 : Nat) : Int)) (hy : a.eval y = .int .i64 1) (h : k < 1000000) : (execOp a.eval o).run Try.prog w = .ok (.value (.int .i64 (k : Int))) w :=
  exec_two ho hx hy (by simp [go_sem]) (by
    have : IntKind.i64.wrap (((k + 1 : Nat) : Int) - 1) = (k : Int) := by rw [show ((k + 1 : Nat) : Int) - 1 = (k : Int) by omega]; exact IntWalk.i64_in _ (by omega)
    simp only [go_sem]
    rw [this]
    simp [go_sem])
theorem exec_indexF {x y : Operand} {b off len cap i : Nat} (ho : o.op = .indexAddr 27 x y) (hx : a.eval x = .slice (some ⟨b, off, none⟩) len cap) (hy : a.eval y = .int .i64 (i : Int)) (hi : i < len) :
    (execOp a.eval o).run Try.prog w = .ok (.value (.pointer (some ⟨b, off + i * 5, none⟩))) w := by
  unfold execOp
  rw [ho]
  simp only [hx, hy]
  go_simp
theorem exec_indexM {x y : Operand} {b off len cap i : Nat} (ho : o.op = .indexAddr 22 x y) (hx : a.eval x = .slice (some ⟨b, off, none⟩) len cap) (hy : a.eval y = .int .i64 (i : Int)) (hi : i < len) :
    (execOp a.eval o).run Try.prog w = .ok (.value (.pointer (some ⟨b, off + i * 2, none⟩))) w := by
  unfold execOp
  rw [ho]
  simp only [hx, hy]
  go_simp
theorem exec_cell_int {ty : TypeId} {x : Operand} {ad : Addr} {k : IntKind} {n : Int} (ho : o.op = .load ty x) (hx : a.eval x = .pointer (some ad)) (hc : w.cell? ad = some (.int k n)) (hu : ∀ w', (isAgg ty).run Try.prog w' = .ok false w') :
    (execOp a.eval o).run Try.prog w = .ok (.value (.int k n)) w := by
  unfold execOp
  rw [ho]
  simp only [hx]
  go_simp
theorem exec_cell_slice {ty : TypeId} {x : Operand} {ad : Addr} {q : Option Addr} {n c : Nat} (ho : o.op = .load ty x) (hx : a.eval x = .pointer (some ad)) (hc : w.cell? ad = some (.slice q n c)) (hu : ∀ w', (isAgg ty).run Try.prog w' = .ok false w') :
    (execOp a.eval o).run Try.prog w = .ok (.value (.slice q n c)) w := by
  unfold execOp
  rw [ho]
  simp only [hx]
  go_simp
theorem exec_load_at {ty : TypeId} {x : Operand} {b off : Nat} {cs : List Value} {d : TypeDesc} (ho : o.op = .load ty x) (hx : a.eval x = .pointer (some ⟨b, off, none⟩)) (hc : w.rangeAt b off cs)
    (hu : Try.prog.underlying ty = some d) (hd : d.isRow = true) (hi : (Try.prog.info? ty).map (·.size) = some cs.length) : (execOp a.eval o).run Try.prog w = .ok (.value (.agg cs.toArray)) w := by
  unfold execOp
  simp [ho, hx, run_loadAt_mid w b off ty cs d hc hu hd hi]
end
theorem info_fd : Hid ((Try.prog.info? 50).map (·.size) = some 5) := by show _ = _; kernel_rfl
theorem info_fm : Hid ((Try.prog.info? 29).map (·.size) = some 2) := by show _ = _; kernel_rfl
theorem range_later {w w' : World} {b o : Nat} {cs : List Value} (h : w.rangeAt b o cs) (hb : Below w.heap.size w w') (hlt : b < w.heap.size) : w'.rangeAt b o cs := fun j v hj => (hb.cell (p := ⟨b, o + j, none⟩) hlt).trans (h j v hj)
theorem range5 {w : World} {b o : Nat} {v0 v1 v2 v3 v4 : Value} (h0 : w.cell? ⟨b, o, none⟩ = some v0) (h1 : w.cell? ⟨b, o + 1, none⟩ = some v1) (h2 : w.cell? ⟨b, o + 2, none⟩ = some v2) (h3 : w.cell? ⟨b, o + 3, none⟩ = some v3) (h4 : w.cell? ⟨b, o + 4, none⟩ = some v4) : w.rangeAt b o [v0, v1, v2, v3, v4]
  | 0, v, hj => by cases hj; exact h0
  | 1, v, hj => by cases hj; exact h1
  | 2, v, hj => by cases hj; exact h2
  | 3, v, hj => by cases hj; exact h3
  | 4, v, hj => by cases hj; exact h4
  | n + 5, v, hj => by simp at hj
theorem range2 {w : World} {b o : Nat} {v0 v1 : Value} (h0 : w.cell? ⟨b, o, none⟩ = some v0) (h1 : w.cell? ⟨b, o + 1, none⟩ = some v1) : w.rangeAt b o [v0, v1]
  | 0, v, hj => by cases hj; exact h0
  | 1, v, hj => by cases hj; exact h1
  | n + 2, v, hj => by simp at hj
theorem idxOf_lt_of_take : ∀ (l : List Int) (k : Nat) (x : Int), x ∈ l.take k → l.idxOf x < k
  | l, 0, x, h => by simp at h
  | [], k + 1, x, h => by simp at h
  | y :: l, k + 1, x, h => by
    by_cases hy : y = x
    · subst hy; simp
    · have hb : (y == x) = false := beq_eq_false_iff_ne.2 hy
      rw [List.take_succ_cons, List.mem_cons] at h
      have := idxOf_lt_of_take l k x (h.resolve_left (Ne.symm hy))
      rw [List.idxOf_cons, hb]
      show l.idxOf x + 1 < k + 1
      omega
/-- the first place of what stands at k is k where it does not stand ahead -/
theorem at_iff {l : List Int} {k : Nat} {x : Int} (h : l[k]? = some x) : firstAt l x = k ↔ x ∉ l.take k := by
  constructor
  · intro he hm
    have := idxOf_lt_of_take l k x hm
    unfold firstAt at he
    rw [if_pos (List.mem_of_getElem? h)] at he
    omega
  · intro hn; exact first_hit hn h
theorem ids_take (L : List field.Fd) (k : Nat) : ids (L.take k) = (ids L).take k := by unfold ids; rw [List.map_take]
end Go.Proofs.Ytacigmnnekphmaa.schema
