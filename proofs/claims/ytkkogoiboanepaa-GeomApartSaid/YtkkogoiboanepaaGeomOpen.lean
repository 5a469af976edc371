/- What a geometry that came in reads as. No condition. -/
import Derived.Test.YtkkogoiboanepaaGeomMath
import Derived.Test.YtkkogoiboanepaaOpen
import Derived.Deep.Slices
import Derived.Deep.Strs
import Derived.Lib.SmallJoins
namespace Go.Proofs.Ytkkogoiboanepaa.geom
open Go.ChangeShapes Go.WideShapes Go.ChangeAt Go.RowKit Go.Deep
set_option linter.unusedVariables false

section
variable {H : Type} {enc : TypeId × Value → H} {P : Program} {W : World}
/-- each field fits its kind -/
structure Geo.Fits (g : Geo) : Prop where
  sector : -9223372036854775808 ≤ g.sector ∧ g.sector ≤ 9223372036854775807
  slot : -9223372036854775808 ≤ g.slot ∧ g.slot ≤ 9223372036854775807
  data : -9223372036854775808 ≤ g.data ∧ g.data ≤ 9223372036854775807
  quota : -9223372036854775808 ≤ g.quota ∧ g.quota ≤ 9223372036854775807
  tries : -9223372036854775808 ≤ g.tries ∧ g.tries ≤ 9223372036854775807
  life : -9223372036854775808 ≤ g.life ∧ g.life ≤ 9223372036854775807
theorem open_geo_arg {r : Reach} {b0 : Nat} {t : TypeId} {f0 f1 f2 f3 f4 f5 : Field} {v : Value} {d : DataW H} {pl : List MemPlace} (hs : P.underlying t = some (.struct #[f0, f1, f2, f3, f4, f5])) (hone : oneCellFields P #[f0, f1, f2, f3, f4, f5] = true) (hC : P.cellsOf t = 6)
    (hu : ∀ f ∈ [f0, f1, f2, f3, f4, f5], P.underlying f.type = some (.int .i64)) (hv : Value.okWide P W r b0 t v) (h : DataW.Trod enc P W 0 (fun _ => true) true t v d pl) : ∃ g : Geo, g.Fits ∧ v = .agg #[.int .i64 g.sector, .int .i64 g.slot, .int .i64 g.data, .int .i64 g.quota, .int .i64 g.tries, .int .i64 g.life] := by
  obtain ⟨cs, rfl, hsz⟩ := okWide_struct hs hv
  obtain ⟨fuel, hf⟩ := h
  rw [hC] at hsz
  obtain ⟨l⟩ := cs
  match l, hsz with
  | [c0, c1, c2, c3, c4, c5], _ =>
    obtain ⟨ys, n, _, _, hl, hlen, hx⟩ := DataW.trod_struct hs hf
    have each : ∀ (i : Nat) (f : Field) (c : Value), #[f0, f1, f2, f3, f4, f5][i]? = some f → [c0, c1, c2, c3, c4, c5][i]? = some c → ∃ x : Int, c = .int .i64 x ∧ -9223372036854775808 ≤ x ∧ x ≤ 9223372036854775807 := by
      intro i f c hi hc
      obtain ⟨o, k⟩ := hone_of hone i f hi
      have hi6 : i < 6 := by have := (Array.getElem?_eq_some_iff.1 hi).1; simpa using this
      have h1 := hx i f hi
      rw [o, k] at h1
      have e : (((Value.agg ⟨[c0, c1, c2, c3, c4, c5]⟩).cells.toList.drop i).take 1) = [c] := by
        rw [List.take_one]
        have : ((Value.agg ⟨[c0, c1, c2, c3, c4, c5]⟩).cells.toList.drop i).head? = some c := by
          rw [List.head?_drop]; simpa [Value.cells] using hc
        rw [this]; rfl
      rw [e] at h1
      have hy : ys[i]? = some (ys[i]'(by rw [hlen]; exact hi6)) := List.getElem?_eq_getElem _
      rw [hy] at h1
      obtain ⟨x, hx1, _, hw⟩ := DataW.trod_int (hu f (by have := Array.mem_of_getElem? hi; simpa using this)) h1
      exact ⟨x, by simpa using hx1, wf_i64 _ hw⟩
    obtain ⟨x0, rfl, b0⟩ := each 0 f0 c0 rfl rfl
    obtain ⟨x1, rfl, b1⟩ := each 1 f1 c1 rfl rfl
    obtain ⟨x2, rfl, b2⟩ := each 2 f2 c2 rfl rfl
    obtain ⟨x3, rfl, b3⟩ := each 3 f3 c3 rfl rfl
    obtain ⟨x4, rfl, b4⟩ := each 4 f4 c4 rfl rfl
    obtain ⟨x5, rfl, b5⟩ := each 5 f5 c5 rfl rfl
    exact ⟨⟨x0, x1, x2, x3, x4, x5⟩, ⟨b0, b1, b2, b3, b4, b5⟩, rfl⟩
end
end Go.Proofs.Ytkkogoiboanepaa.geom
