/- What a list of slices of bytes that came in reads as. No condition. -/
import Derived.Test.YtlpbfkfamanaiaaDoorShaLawParts
import Derived.Deep.Matrix
namespace Go.Proofs.YtlpbfkfamanaiaaDoor.shaParts
open Go.ChangeShapes Go.WideShapes Go.ChangeAt Go.RowKit Go.Deep
set_option linter.unusedVariables false

theorem open_byte_rows {H : Type} {enc : TypeId × Value → H} {P : Program} {W : World} {t e q : TypeId} {a : Option Addr} {len cap : Nat} {d : DataW H} {p : List MemPlace}
    (ht : P.underlying t = some (.slice e)) (he : P.underlying e = some (.slice q)) (hq : P.underlying q = some (.int .u8)) (ce : P.cellsOf e = 1) (cq : P.cellsOf q = 1)
    (h0 : DataW.Trod enc P W 0 (fun _ => true) true t (.slice a len cap) d p) : ∃ X, Parts W a len X := by
  obtain ⟨fuel, hf⟩ := h0
  rcases open_int_rows ht he hq ce cq hf with ⟨hcs, _⟩ | ⟨A0, len', cap', A, L, C, Z, hcs, _, hlc, _, _, hrow⟩
  · simp [Value.cells] at hcs
    obtain ⟨rfl, rfl, rfl⟩ := hcs
    exact ⟨fun _ => [], .inl rfl⟩
  · simp [Value.cells] at hcs
    obtain ⟨rfl, rfl, rfl⟩ := hcs
    refine ⟨fun i => ((Z i).take (L i)).map Int.toNat, ?_⟩
    by_cases h0 : len = 0
    · exact .inl h0
    · right
      obtain ⟨b, off, spot⟩ := A0
      have hc0 := (hrow 0 (by omega)).1
      have hspot : spot = none := by simpa [Addr.add] using World.cell?_spot hc0
      subst hspot
      have hb : b < W.heap.size := by
        have := World.block_lt_of_cell? W _ hc0
        simpa [Addr.add] using this
      refine ⟨b, off, rfl, hb, fun i hi => ?_⟩
      obtain ⟨hc, hLC, _, hZ, hwf, hnone, hcells⟩ := hrow i (by omega)
      rw [Addr.add_lit] at hc
      refine ⟨A i, L i, C i, hc, ⟨by simp [hZ]; omega, ?_⟩, hLC, ?_⟩
      · by_cases hL : L i = 0
        · exact .inl hL
        · right
          cases hA : A i with
          | none => have := hnone hA; omega
          | some x =>
            obtain ⟨_, hcl⟩ := hcells x hA
            obtain ⟨b', off', spot'⟩ := x
            have hspot' : spot' = none := by simpa [Addr.add] using World.cell?_spot (hcl 0 (by omega))
            subst hspot'
            have hb' : b' < W.heap.size := by
              have := World.block_lt_of_cell? W _ (hcl 0 (by omega))
              simpa [Addr.add] using this
            refine ⟨b', off', rfl, hb', fun c hcL => ?_⟩
            have h1 := hcl c (by omega)
            rw [Addr.add_lit] at h1
            rw [h1]
            have hcz : c < (Z i).length := by omega
            have hn : 0 ≤ (Z i)[c] := (wf_u8 _ (hwf _ (List.getElem_mem hcz))).1
            simp [List.getD, hcL, hcz]
            omega
      · intro y hy
        obtain ⟨z, hz, rfl⟩ := List.mem_map.1 hy
        have := wf_u8 z (hwf z (List.mem_of_mem_take hz))
        omega
end Go.Proofs.YtlpbfkfamanaiaaDoor.shaParts
