/- What an array of three ints that came in reads as. No condition. -/
import Derived.Test.YtccaibdklgkgeaaOpen
import Derived.Deep.Slices
import Derived.Deep.Strs
import Derived.Lib.SmallJoins
namespace Go.Proofs.Ytccaibdklgkgeaa
open Go.ChangeShapes Go.WideShapes Go.ChangeAt Go.RowKit Go.Deep
set_option linter.unusedVariables false

section
variable {H : Type} {enc : TypeId × Value → H} {P : Program} {W : World}
theorem open_three_ints {r : Reach} {b0 : Nat} {t e : TypeId} {v : Value} {d : DataW H} {pl : List MemPlace} (ht : P.underlying t = some (.array 3 e)) (he : P.underlying e = some (.int .i64)) (hC : P.cellsOf e = 1) (hT : P.cellsOf t = 3)
    (hwf : ∀ n, (Lit.int .i64 n).wf = true → -9223372036854775808 ≤ n ∧ n ≤ 9223372036854775807) (hv : Value.okWide P W r b0 t v) (h : DataW.Trod enc P W 0 (fun _ => true) true t v d pl) :
    ∃ x y z : Int, (-9223372036854775808 ≤ x ∧ x ≤ 9223372036854775807) ∧ (-9223372036854775808 ≤ y ∧ y ≤ 9223372036854775807) ∧ (-9223372036854775808 ≤ z ∧ z ≤ 9223372036854775807) ∧ v = .agg #[.int .i64 x, .int .i64 y, .int .i64 z] := by
  simp only [Value.okWide, ht] at hv
  obtain ⟨cs, rfl, hsz, _⟩ := hv
  obtain ⟨fuel, hf⟩ := h
  obtain ⟨xs, m, _, _, hl, hlen, hx⟩ := DataW.trod_array ht hf
  rw [hT] at hl
  match cs, hl with
  | ⟨[c0, c1, c2]⟩, _ =>
    match xs, hlen with
    | [y0, y1, y2], _ =>
      have h0 := hx 0 (by omega)
      have h1 := hx 1 (by omega)
      have h2 := hx 2 (by omega)
      simp [Value.cells, hC] at h0 h1 h2
      obtain ⟨k, e0, _, w0⟩ := DataW.trod_int he h0
      obtain ⟨n, e1, _, w1⟩ := DataW.trod_int he h1
      obtain ⟨o, e2, _, w2⟩ := DataW.trod_int he h2
      simp at e0 e1 e2
      subst e0; subst e1; subst e2
      exact ⟨k, n, o, hwf _ w0, hwf _ w1, hwf _ w2, rfl⟩
end
end Go.Proofs.Ytccaibdklgkgeaa
