/- A slice of fields inside another value that came in. No condition. -/
import Derived.Test.YtacigmnnekphmaaFieldOpen
namespace Go.Proofs.Ytacigmnnekphmaa.field
open Go.ChangeShapes Go.WideShapes Go.ChangeAt Go.RowKit Go.Deep
set_option linter.unusedVariables false

/-- all that is asked of the type of a slice of such structs -/
def FdRow (P : Program) (t : TypeId) : Prop := ∃ (e : TypeId) (f0 f1 f2 f3 f4 : Field), P.underlying t = some (.slice e) ∧ P.underlying e = some (.struct #[f0, f1, f2, f3, f4]) ∧ oneCellFields P #[f0, f1, f2, f3, f4] = true ∧ P.cellsOf e = 5 ∧ P.underlying f0.type = some (.int .i64) ∧ P.underlying f1.type = some (.int .i64) ∧ P.underlying f2.type = some (.int .i64) ∧ P.underlying f3.type = some (.int .i64) ∧ P.underlying f4.type = some (.int .i64)
theorem open_FdRow {H : Type} {enc : TypeId × Value → H} {P : Program} {W : World} {t : TypeId} {v : Value} {n : Nat} {y : DataW H × List MemPlace} (hR : FdRow P t) (h : DataW.trod enc P W 0 (fun _ => true) true n t [v] = some y) : ∃ a cap L, v = .slice a (List.length L) cap ∧ Fds W a L ∧ (∀ p ∈ L, p.Good W) ∧ L.length ≤ cap ∧ cap ≤ maxLen := by
  obtain ⟨e, f0, f1, f2, f3, f4, ht, he, hone, hC, u0, u1, u2, u3, u4⟩ := hR
  have hv : ∃ a len cap, v = .slice a len cap := by
    rcases open_slice ht h with ⟨hcs, _⟩ | ⟨A, len, cap, m, n1, D, Pl, hcs, _⟩
    · exact ⟨none, 0, 0, by simpa using hcs⟩
    · exact ⟨_, _, _, by simpa using hcs⟩
  obtain ⟨a, len, cap, rfl⟩ := hv
  obtain ⟨L, rfl, h1, h2, h3, h4⟩ := open_Fds ht he hone hC u0 u1 u2 u3 u4 (W := W) (enc := enc) (d := y.1) (pl := y.2) ⟨n, by simpa [Value.cells] using h⟩
  exact ⟨a, cap, L, rfl, h1, h2, h3, h4⟩
theorem fdRow : FdRow Try.prog 27 := ⟨_, _, _, _, _, _, Try.underlying27, Try.underlying50, by kernel_rfl, by kernel_rfl, by kernel_rfl, by kernel_rfl, by kernel_rfl, by kernel_rfl, by kernel_rfl⟩
end Go.Proofs.Ytacigmnnekphmaa.field
