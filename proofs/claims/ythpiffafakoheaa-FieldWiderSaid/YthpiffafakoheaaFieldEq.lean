/- Two values of fields held against each other. No condition. -/
import Derived.Test.YthpiffafakoheaaFieldAwake
import Derived.Laws.StructEq
namespace Go.Proofs.Ythpiffafakoheaa.field
open Go.RowKit
set_option linter.unusedVariables false

theorem eq_val (n m : Int) (s t : ByteArray) (w : World) : (binOp .eql 25 (.agg #[.int .i64 n, .string s]) (.agg #[.int .i64 m, .string t])).run Try.prog w = .ok (.bool (n == m && s.toList == t.toList)) w := by
  rw [run_eql_struct, show (10000 : Nat) = 9999 + 1 from rfl, run_equalIn_struct w 9999 25 _ _ (by kernel_rfl) Try.stoodInHeld25]
  go_simp
  by_cases h1 : n = m
  · subst h1
    by_cases h2 : s.toList = t.toList
    · simp [h2]
    · simp [h2]
  · simp [h1]
theorem eq_val_same (n : Int) (s : ByteArray) (w : World) : (binOp .eql 25 (.agg #[.int .i64 n, .string s]) (.agg #[.int .i64 n, .string s])).run Try.prog w = .ok (.bool true) w := by rw [eq_val]; simp
theorem eqg_val (x y : Operand) (n m : Int) (s t : ByteArray) (w : World) : (eqGuard .eql 25 x y (.agg #[.int .i64 n, .string s]) (.agg #[.int .i64 m, .string t])).run Try.prog w = .ok () w :=
  run_eqGuard_agg w .eql 25 x y _ _ Try.eqGuardType25
theorem eqs_int (x : Int) (w : World) : (binOp .eql 3 (.int .i64 x) (.int .i64 x)).run Try.prog w = .ok (.bool true) w := by simp [go_sem]
theorem eqs_bool (x : Bool) (w : World) : (binOp .eql 4 (.bool x) (.bool x)).run Try.prog w = .ok (.bool true) w := by simp [go_sem]
theorem eqg_bool (x y : Operand) (a b : Bool) (w : World) : (eqGuard .eql 4 x y (.bool a) (.bool b)).run Try.prog w = .ok () w := by simp [go_sem]
theorem info_val : Hid ((Try.prog.info? 25).map (·.size) = some 2) := by show _ = _; kernel_rfl
theorem yes_gives {F : FuncId} {args : Array Value} {w : World} (h : Calls Try.prog F args w (Yes w)) : Calls Try.prog F args w (Gives (.bool true) w) := h
end Go.Proofs.Ythpiffafakoheaa.field
