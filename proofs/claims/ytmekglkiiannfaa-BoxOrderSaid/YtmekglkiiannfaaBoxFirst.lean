/- Contracts of First on boxes of ints, and of First and All on boxes that are none. No condition. -/
import Derived.Test.YtmekglkiiannfaaBoxAll
namespace Go.Proofs.Ytmekglkiiannfaa.box
open Go.Conc Go.RowKit
set_option linter.unusedVariables false

theorem first_a (a ca capa : Nat) (p : Value) (x : Int) (xs : List Int) (w : World) (h : BoxAt 51 3 a ca capa ((x :: xs).map (Value.int .i64)) w) :
    Calls Try.prog 13 #[.pointer (some ⟨a, 0, none⟩), p] w fun e w' => e = .returned (.tuple #[.int .i64 x, .int .i64 1]) ∧ BoxAt 51 3 a ca capa (xs.map (Value.int .i64)) w' ∧ But w.heap.size ca w w' := by
  have cT := take_any a ca capa (x :: xs) w h
  clear h
  go_enter Try.func13, Try.ntmps13
  go_wp2_with (go_at_call 11; (with_reducible refine cT.mono ?_); clear cT; rintro e w1 ⟨rfl, hB1, hb1⟩; simp only [List.isEmpty_cons, Bool.not_false, List.head?_cons, Option.getD_some, List.tail_cons] at *)
  go_ret2
  exact ⟨rfl, hB1, hb1⟩
theorem first_b (a ca capa b cb capb : Nat) (y : Int) (ys : List Int) (w : World) (h : BoxAt 51 3 a ca capa [] w) (h2 : BoxAt 51 3 b cb capb ((y :: ys).map (Value.int .i64)) w) :
    Calls Try.prog 13 #[.pointer (some ⟨a, 0, none⟩), .pointer (some ⟨b, 0, none⟩)] w fun e w' => e = .returned (.tuple #[.int .i64 y, .int .i64 2]) ∧ BoxAt 51 3 b cb capb (ys.map (Value.int .i64)) w' ∧ But w.heap.size cb w w' := by
  have cT := take_empty a ca capa w h
  have cU := take_any b cb capb (y :: ys) w h2
  clear h h2
  go_enter Try.func13, Try.ntmps13
  go_wp2_with (first
    | (go_at_call 11; (with_reducible refine cT.mono ?_); clear cT; rintro e w1 ⟨rfl, rfl⟩)
    | (go_at_call 11; (with_reducible refine cU.mono ?_); clear cU; rintro e w1 ⟨rfl, hB1, hb1⟩; simp only [List.isEmpty_cons, Bool.not_false, List.head?_cons, Option.getD_some, List.tail_cons] at *))
  go_ret2
  exact ⟨rfl, hB1, hb1⟩
theorem first_none (a b : Nat) (w : World) (p q : Value)
    (cT : Calls Try.prog 11 #[p] w fun e w' => e = .returned (.tuple #[.int .i64 0, .bool false]) ∧ w' = w)
    (cU : Calls Try.prog 11 #[q] w fun e w' => e = .returned (.tuple #[.int .i64 0, .bool false]) ∧ w' = w) :
    Calls Try.prog 13 #[p, q] w fun e w' => e = .returned (.tuple #[.int .i64 0, .int .i64 0]) ∧ w' = w := by
  go_enter Try.func13, Try.ntmps13
  go_wp2_with (first
    | (go_at_call 11; (with_reducible refine cT.mono ?_); rintro e w1 ⟨rfl, rfl⟩)
    | (go_at_call 11; (with_reducible refine cU.mono ?_); rintro e w2 ⟨rfl, rfl⟩))
  go_ret2
  exact ⟨rfl, rfl⟩
theorem first_nil (w : World) : Calls Try.prog 13 #[.pointer none, .pointer none] w fun e w' => e = .returned (.tuple #[.int .i64 0, .int .i64 0]) ∧ w' = w :=
  first_none 0 0 w _ _ (take_nil w) (take_nil w)
theorem all_nil (w : World) : Calls Try.prog 14 #[.pointer none] w fun e w' => e = .returned (.slice none 0 0) ∧ w' = w := by
  go_enter Try.func14, Try.ntmps14
  go_wp2_with (go_at_call 11; (with_reducible refine (take_nil _).mono ?_); rintro e w1 ⟨rfl, hw⟩; have hw' := hw.symm; clear hw; subst hw')
  go_loopw [3, 4, 5] (fun u v o wr => u = .slice none 0 0 ∧ o = .bool false ∧ wr = w) (fun _ _ _ _ => 0)
  case atStart => exact ⟨rfl, rfl, rfl⟩
  case round =>
    obtain ⟨rfl, rfl, rfl⟩ := hrel
    go_wp2
    go_ret
    exact ⟨rfl, rfl⟩
end Go.Proofs.Ytmekglkiiannfaa.box
