/- One append of bytes onto a row of the call's own, run by itself. No condition. -/
import Derived.Test.YthpiffafakoheaaAppend
import Derived.Maps.AppendAt
namespace Go.Proofs.Ythpiffafakoheaa
open Go Go.RowKit
set_option linter.unusedVariables false

theorem exec_append_u8 {o : Oper} {act : Act} {w : World} {x y : Operand} {v : Value} {base n m c : Nat} {ap : Option Addr} {ys news : List Nat}
    (ho : o.op = .call { callee := .builtin .append, args := #[x, y], argTypes := #[33, 33] }) (hx : act.eval x = v) (hy : act.eval y = .slice ap m c)
    (hown : w.ownsRow base 5 1 v n (ys.map fun x : Nat => Value.int .u8 (x : Int))) (hr : Reads .u8 w ap m news) (hbase : base ≤ w.heap.size) (hlen : n + m ≤ 140737488355328) :
    ∃ z w', (execOp act.eval o).run Try.prog w = .ok (.value z) w' ∧ w'.ownsRow base 5 1 z (n + m) ((ys ++ news).map fun x : Nat => Value.int .u8 (x : Int)) ∧ w.grownBy w' v.ownBlock ∧ (z.ownBlock = v.ownBlock ∨ z.ownBlock = some w.heap.size) := by
  have hinfo : (Try.prog.info? 5).map (fun i => (i.zero, i.size, i.bytes)) = some (some (.int .u8 0), 1, 1) := by kernel_rfl
  obtain ⟨i0, hi, hz0, hz1, hz2⟩ := info_parts hinfo
  by_cases hm : m = 0
  · subst hm
    obtain rfl : news = [] := List.eq_nil_of_length_eq_zero hr.1
    obtain ⟨bp, cp, rfl, hcp⟩ := ownsRow_slice hown
    have hsrc : Src Try.prog i0.size 33 (.slice ap 0 c) 0 [] w := by
      cases ap with
      | none => exact Src.ofNil w Try.underlying33 c
      | some ad => exact Src.ofSlice w Try.underlying33 ad 0 c [] (by simp) (by simp) (by simp)
    have hrun := run_append_nothing w 33 33 o.type 5 i0 Try.underlying33 hi bp n cp hcp _ hsrc
    refine ⟨.slice bp n cp, w, ?_, by simpa using hown, grown_refl _ _, .inl rfl⟩
    unfold execOp
    simp [ho, resolve, invoke, builtin, hx, hy, hrun, Result.andThen]
  · obtain ⟨b, off, rfl, hb, hc⟩ := hr.at (i := 0) (by omega)
    obtain ⟨z, w', h1, h2, h3, _, h4⟩ := run_append_own_at w base 33 o.type 5 i0 (.int .u8 0) 1 1 Try.underlying33 hi hz0 hz1 hz2 rfl (by decide) v n _ hown ⟨b, off, none⟩ m c (news.map fun x : Nat => Value.int .u8 (x : Int)) (by simp [hr.1])
      (fun j u hj => by
        have hl : j < news.length := by have := (List.getElem?_eq_some_iff.1 hj).1; simpa using this
        rw [Addr.add_lit, hc j (by have := hr.1; omega)]
        rw [List.getElem?_map, List.getElem?_eq_getElem hl] at hj
        rw [← hj, List.getD_eq_getElem?_getD, List.getElem?_eq_getElem hl]; rfl)
      (fun u hu => by obtain ⟨x, _, rfl⟩ := List.mem_map.1 hu; rfl) (by unfold maxLen; omega) (by omega) hbase
    refine ⟨z, w', ?_, by rw [List.map_append]; exact h2, h3, h4⟩
    unfold execOp
    simp [ho, resolve, invoke, builtin, hx, hy, h1, Result.andThen]
end Go.Proofs.Ythpiffafakoheaa
