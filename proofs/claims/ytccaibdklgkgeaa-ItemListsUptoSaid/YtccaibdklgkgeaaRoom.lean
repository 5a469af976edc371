/- The room of any slice that came in. No condition. -/
import Derived.Test.YtccaibdklgkgeaaOpen
import Derived.Deep.Slices
namespace Go.Proofs.Ytccaibdklgkgeaa
open Go.RowKit Go.Deep
set_option linter.unusedVariables false

/-- a slice's reading holds as many values as it has places -/
theorem room_any {H : Type} {enc : TypeId × Value → H} {P : Program} {W : World} {t e : TypeId} {a : Option Addr} {len cap : Nat} {d : DataW H} {p : List MemPlace} (ht : P.underlying t = some (.slice e))
    (h0 : DataW.Trod enc P W 0 (fun _ => true) true t (.slice a len cap) d p) : cap = 0 ∨ ∃ es sp, d = .slice es sp ∧ es.length + sp.length = cap := by
  obtain ⟨fuel, hf⟩ := h0
  have hf2 : DataW.trod enc P W 0 (fun _ => true) true fuel t [.slice a len cap] = some (d, p) := by simpa [Value.cells] using hf
  rcases open_slice ht hf2 with ⟨hcs, _⟩ | ⟨A, len', cap', m, n, D, Pl, hcs, _, hlc, _, hm, hx, _⟩
  · simp at hcs
    exact .inl hcs.2.2
  · simp at hcs
    obtain ⟨rfl, rfl, rfl⟩ := hcs
    simp only [if_true] at hm
    exact .inr ⟨_, _, congrArg Prod.fst hx, by simp; omega⟩
end Go.Proofs.Ytccaibdklgkgeaa
