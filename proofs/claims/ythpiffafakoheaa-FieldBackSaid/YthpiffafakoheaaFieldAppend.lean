/- Two rows of bytes appended to nothing, then read by Take, beside a new variable, in whatever order. No condition. -/
import Derived.Test.YthpiffafakoheaaFieldEq
import Derived.Test.YthpiffafakoheaaPlanMore
import Derived.Test.YthpiffafakoheaaDrift
import Derived.Test.YthpiffafakoheaaExecAppend
namespace Go.Proofs.Ythpiffafakoheaa.field
open Go Go.RowKit Go.Proofs.Ythpiffafakoheaa.cut
set_option linter.unusedVariables false

/-- a row of the call's own, not below B, that reads as the bytes xs -/
def OwnB (B : Nat) (xs : List Nat) (z : Value) (w : World) : Prop := w.ownsRow B 5 1 z xs.length (u8v xs) ∧ ∀ k, z.ownBlock = some k → B ≤ k ∧ k < w.heap.size
theorem OwnB.of {B n : Nat} {xs : List Nat} {z : Value} {w : World} (h : w.ownsRow B 5 1 z n (u8v xs)) (hn : xs.length = n) : OwnB B xs z w := by
  subst hn
  exact ⟨h, World.ownsRow.lt h⟩
theorem OwnB.later {B : Nat} {xs : List Nat} {z : Value} {w w' : World} (h : OwnB B xs z w) (hb : Below w.heap.size w w') : OwnB B xs z w' := .of (ownsRow_later h.1 hb) rfl
/-- the first append: onto nothing -/
theorem first_append {o : Oper} {act : Act} {w0 w : World} {x y : Operand} {ap : Option Addr} {m c : Nat} {xs : List Nat} (ho : o.op = .call { callee := .builtin .append, args := #[x, y], argTypes := #[33, 33] })
    (hx : act.eval x = .slice none 0 0) (hy : act.eval y = .slice ap m c) (hr : Reads .u8 w0 ap m xs) (hm : m ≤ 64) (hb : Below w0.heap.size w0 w) :
    ∃ z w', (execOp act.eval o).run Try.prog w = .ok (.value z) w' ∧ Below w.heap.size w w' ∧ OwnB w0.heap.size xs z w' ∧ ∀ g, g < w.heap.size → z.ownBlock ≠ some g := by
  obtain ⟨z, w', h1, h2, h3, h4⟩ := exec_append_u8 (base := w.heap.size) (n := 0) (ys := []) ho hx hy (World.ownsRow_nil _ _ _ _) (hr.below hb) (Nat.le_refl _) (by omega)
  rw [Nat.zero_add, List.nil_append] at h2
  refine ⟨z, w', h1, (Below.refl _ _).grown h3 (Nat.le_refl _) (fun k hk => by cases hk), .of (own_base h2 hb.size) hr.1, fun g hg hk => ?_⟩
  rcases h4 with h4 | h4
  · rw [h4] at hk; cases hk
  · rw [h4] at hk; cases hk; omega
/-- the second append: more bytes behind them -/
theorem next_append {o : Oper} {act : Act} {w0 w : World} {x y : Operand} {z : Value} {ap : Option Addr} {m c : Nat} {xs news : List Nat} {t : TypeId} {cs : List Value} (ho : o.op = .call { callee := .builtin .append, args := #[x, y], argTypes := #[33, 33] })
    (hx : act.eval x = z) (hy : act.eval y = .slice ap m c) (hr : Reads .u8 w0 ap m news) (hl : xs.length + m ≤ 140737488355328) (h : OwnB w0.heap.size xs z w) (hb : Below w0.heap.size w0 w) :
    ∃ z2 w', (execOp act.eval o).run Try.prog w = .ok (.value z2) w' ∧ Below w0.heap.size w0 w' ∧ OwnB w0.heap.size (xs ++ news) z2 w' ∧ ∀ g, z.ownBlock ≠ some g → Block w g t cs → Block w' g t cs := by
  obtain ⟨z2, w', h1, h2, h3, h4⟩ := exec_append_u8 (base := w0.heap.size) (n := xs.length) (ys := xs) ho hx hy h.1 (hr.below hb) hb.size hl
  have hb' : Below w0.heap.size w0 w' := hb.grown h3 hb.size (fun k hk => (h.2 k hk).1)
  refine ⟨z2, w', h1, hb', .of h2 (by rw [List.length_append, hr.1]), fun g hg hB => (h3.block g hB.lt (fun e => hg e.symm)).trans hB⟩
theorem own_form {w : World} {base e n : Nat} {v : Value} {xs : List Value} (h : w.ownsRow base e 1 v n xs) : ∃ a cap, v = .slice a n cap ∧ n ≤ cap ∧ cap ≤ 9223372036854775807 := by
  rcases h.2 with ⟨hv, h0⟩ | ⟨g, cap, cur, hv, hb, hg, h1, h2, _⟩
  · exact ⟨none, 0, by rw [hv, h0], by omega, by omega⟩
  · exact ⟨_, cap, hv, h1, h2⟩
/-- an operation of two operands, run by itself -/
theorem exec_two {P : Program} {o : Oper} {a : Act} {w : World} {op : BinOp} {t t' : TypeId} {x y : Operand} {vx vy u : Value} (ho : o.op = .binOp op t x y t') (hx : a.eval x = vx) (hy : a.eval y = vy)
    (hg : (eqGuard op t x y vx vy).run P w = .ok () w) (hr : (binOp op t vx vy).run P w = .ok u w) : (execOp a.eval o).run P w = .ok (.value u) w := by
  unfold execOp
  simp [ho, hx, hy, Sem.run_bind, hg, hr]
theorem exec_lss_no {o : Oper} {a : Act} {w : World} {t' : TypeId} {x y : Operand} {n m : Int} (ho : o.op = .binOp .lss 3 x y t') (hx : a.eval x = .int .i64 n) (hy : a.eval y = .int .i64 m) (h : ¬ n < m) : (execOp a.eval o).run Try.prog w = .ok (.value (.bool false)) w :=
  exec_two ho hx hy (by simp [go_sem]) (by simp [go_sem, h])
theorem exec_gtr_no {o : Oper} {a : Act} {w : World} {t' : TypeId} {x y : Operand} {n m : Int} (ho : o.op = .binOp .gtr 3 x y t') (hx : a.eval x = .int .i64 n) (hy : a.eval y = .int .i64 m) (h : ¬ n > m) : (execOp a.eval o).run Try.prog w = .ok (.value (.bool false)) w :=
  exec_two ho hx hy (by simp [go_sem]) (by simp [go_sem]; omega)
theorem exec_neq_str {o : Oper} {a : Act} {w : World} {t' : TypeId} {x y : Operand} {s : ByteArray} (ho : o.op = .binOp .neq 9 x y t') (hx : a.eval x = .string s) (hy : a.eval y = .string s) : (execOp a.eval o).run Try.prog w = .ok (.value (.bool false)) w :=
  exec_two ho hx hy (by simp [go_sem]) (by simp [go_sem])
theorem exec_slice_to {o : Oper} {act : Act} {w : World} {x y : Operand} {a : Option Addr} {len cap k : Nat} (ho : o.op = .slice 33 x none (some y) none) (hx : act.eval x = .slice a len cap) (hy : act.eval y = .int .i64 (k : Int)) (hk : k ≤ cap) :
    (execOp act.eval o).run Try.prog w = .ok (.value (.slice (shift a 0 cap) k cap)) w := by
  unfold execOp
  rw [ho]
  have hc := cut_to w a len cap k hk
  simp only [hx, hy, Option.map_some, Option.map_none]
  go_simp
end Go.Proofs.Ythpiffafakoheaa.field
