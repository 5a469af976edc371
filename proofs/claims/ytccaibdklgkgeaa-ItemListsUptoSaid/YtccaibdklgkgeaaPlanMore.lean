/- A region walked by a schedule that the prover names: an operation whose guard does not hold is passed by; comparisons of ints. No condition. -/
import Derived.Test.YtccaibdklgkgeaaPlan
namespace Go.Proofs.Ytccaibdklgkgeaa.plan
open Go Go.RowKit

section
variable {P : Program} {md : Region.Mode} {Q : Exit → Act → World → Prop} {l : List Oper}
theorem Rest.skip {f : Nat} {listed : Array Bool} {a : Act} {w : World} (i : Nat) (o : Oper) (hi : l[i]? = some o) (hs : Region.noSelect l.toArray = true) (hf : Region.free md l.toArray listed i = true)
    (hr : (Region.ready md l.toArray listed).contains i = true) (hw : Region.wanted o (yielded l.toArray a.tmps) = false)
    (h : Rest P md l Q f (listed.setIfInBounds i true) (a.put o.dst undef) w) : Rest P md l Q (f + 1) listed a w :=
  wpAnyH_take (by simpa using hi) hs hf hr (fun c a' w' h => h) (.inr ⟨hw, rfl⟩) (Below.refl _ _) h
end
theorem eqg (t : TypeId) (x y : Operand) (k : IntKind) (n m : Int) (w : World) (P : Program) : (eqGuard .eql t x y (.int k n) (.int k m)).run P w = .ok () w := by simp [go_sem]
end Go.Proofs.Ytccaibdklgkgeaa.plan
