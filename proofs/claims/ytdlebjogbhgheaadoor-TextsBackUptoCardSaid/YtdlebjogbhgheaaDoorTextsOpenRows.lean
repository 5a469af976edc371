/- What a list of lists of strings that came in reads as. No condition. -/
import Derived.Test.YtdlebjogbhgheaaDoorTextsBounds
import Derived.Test.YtdlebjogbhgheaaDoorTextsTied
import Derived.Deep.Strs
namespace Go.Proofs.YtdlebjogbhgheaaDoor.texts
open Go.ChangeShapes Go.WideShapes Go.ChangeAt Go.RowKit Go.Deep
set_option linter.unusedVariables false

theorem bulk_strs {H : Type} : ∀ l : List (List UInt8), Rows.uptoBulkAll (l.map fun x => (DataW.lit (.string x) : DataW H)) = rowBulk l
  | [] => rfl
  | x :: l => by
    have := bulk_strs (H := H) l
    unfold rowBulk at *
    simp only [List.map_cons, Rows.uptoBulkAll, Rows.uptoBulk, List.sum_cons, this]
theorem bulk_rows {H : Type} (D : Nat → DataW H) (f : Nat → List (List UInt8)) : ∀ l : List Nat, (∀ i ∈ l, rowBulk (f i) + 1 ≤ Rows.uptoBulk (D i)) → rowsBulk (l.map f) ≤ Rows.uptoBulkAll (l.map D)
  | [], _ => Nat.zero_le _
  | i :: l, h => by
    have h1 := bulk_rows D f l (fun j hj => h j (by simp [hj]))
    have h2 := h i (by simp)
    unfold rowsBulk at *
    simp only [List.map_cons, Rows.uptoBulkAll, List.sum_cons]
    omega
theorem range_getD {α : Type} (f : Nat → α) (d : α) {n i : Nat} (h : i < n) : ((List.range n).map f).getD i d = f i := by
  rw [List.getD_eq_getElem?_getD, List.getElem?_map, List.getElem?_range h]; rfl
theorem open_str_rows {H : Type} {enc : TypeId × Value → H} {P : Program} {W : World} {t e q : TypeId} {a : Option Addr} {len cap : Nat} {d : DataW H} {p : List MemPlace}
    (ht : P.underlying t = some (.slice e)) (he : P.underlying e = some (.slice q)) (hq : P.underlying q = some .string) (ce : P.cellsOf e = 1) (cq : P.cellsOf q = 1)
    (h0 : DataW.Trod enc P W 0 (fun _ => true) true t (.slice a len cap) d p) : ∃ X, len = X.length ∧ StrRows W a X ∧ rowsBulk X ≤ Rows.uptoBulk d := by
  obtain ⟨fuel, hf⟩ := h0
  have hf2 : DataW.trod enc P W 0 (fun _ => true) true fuel t [.slice a len cap] = some (d, p) := by simpa [Value.cells] using hf
  rcases open_slice1 ht ce hf2 with ⟨hcs, _⟩ | ⟨A, len', cap', m, n, V, D, Pl, hcs, _, hlc, _, hm, hx, hrow⟩
  · simp at hcs
    obtain ⟨rfl, rfl, rfl⟩ := hcs
    exact ⟨[], rfl, .inl rfl, Nat.zero_le _⟩
  · simp at hcs
    obtain ⟨rfl, rfl, rfl⟩ := hcs
    simp only [if_true] at hm
    have each : ∀ r, r < len → ∃ y : Option Addr × Nat × List (List UInt8), V r = .slice y.1 y.2.2.length y.2.1 ∧ y.2.2.length ≤ y.2.1 ∧ Strs W y.1 y.2.2 ∧ rowBulk y.2.2 + 1 ≤ Rows.uptoBulk (D r) := by
      intro r hr
      rcases open_strs he hq cq (hrow r (by omega)).2 with ⟨hcs, hy⟩ | ⟨b, l, c, k, Sx, hcs, _, hl, _, hk, hy, hcell⟩
      · simp only [Prod.mk.injEq] at hy
        refine ⟨(none, 0, []), by simpa using hcs, Nat.le_refl _, .inl rfl, ?_⟩
        rw [hy.1]; exact Nat.le_refl _
      · simp only [Prod.mk.injEq] at hy
        simp only [if_true] at hk
        refine ⟨(some b, c, (List.range l).map fun i => (Sx i).data.toList), by simpa using hcs, by simpa using hl, ?_, ?_⟩
        · by_cases h0 : l = 0
          · subst h0; exact .inl rfl
          · right
            obtain ⟨g, off, spot⟩ := b
            have hc0 := (hcell 0 (by omega)).1
            have hspot : spot = none := by simpa [Addr.add] using World.cell?_spot hc0
            subst hspot
            have hg : g < W.heap.size := by
              have := World.block_lt_of_cell? W _ hc0
              simpa [Addr.add] using this
            refine ⟨g, off, rfl, hg, fun i hi => ?_⟩
            have hi' : i < l := by simpa using hi
            have h1 := (hcell i (by omega)).1
            rw [Addr.add_lit] at h1
            rw [h1, range_getD _ _ hi', strL_of]
        · rw [hy.1]
          simp only [Rows.uptoBulk]
          have := bulk_strs (H := H) ((List.range l).map fun i => (Sx i).data.toList)
          rw [List.map_map] at this
          have e : Rows.uptoBulkAll ((List.range l).map fun i => (DataW.lit (.string (Sx i).data.toList) : DataW H)) = rowBulk ((List.range l).map fun i => (Sx i).data.toList) := this
          rw [e]; omega
    obtain ⟨y, hy⟩ := choose_lt each
    refine ⟨(List.range len).map fun r => (y r).2.2, by simp, ?_, ?_⟩
    · by_cases h0 : len = 0
      · subst h0; exact .inl rfl
      · right
        obtain ⟨b, off, spot⟩ := A
        have hc0 := (hrow 0 (by omega)).1
        have hspot : spot = none := by simpa [Addr.add] using World.cell?_spot hc0
        subst hspot
        have hb : b < W.heap.size := by
          have := World.block_lt_of_cell? W _ hc0
          simpa [Addr.add] using this
        refine ⟨b, off, rfl, hb, fun i hi => ?_⟩
        have hi' : i < len := by simpa using hi
        obtain ⟨e1, e2, e3, _⟩ := hy i hi'
        have h1 := (hrow i (by omega)).1
        rw [Addr.add_lit] at h1
        rw [range_getD (fun r => (y r).2.2) [] hi']
        exact ⟨_, _, by rw [h1, e1], e2, e3⟩
    · have hd : d = .slice ((List.range len).map D) ((List.range (m - len)).map fun j => D (len + j)) := by
        have := congrArg Prod.fst hx
        simpa using this
      rw [hd]
      simp only [Rows.uptoBulk]
      have := bulk_rows D (fun r => (y r).2.2) (List.range len) (fun i hi => (hy i (List.mem_range.1 hi)).2.2.2)
      omega
/-- the bound on what came in bounds the rows -/
theorem small_rows {H : Type} {ds : List (DataW H)} {d : DataW H} {X : List (List (List UInt8))} {j : Nat} (hk : Rows.uptoSmall H ds = true) (hd : ds[j]? = some d) (hX : rowsBulk X ≤ Rows.uptoBulk d) : Fine 1048576 X := by
  have h : Rows.uptoBulkAll ds ≤ 1048576 := of_decide_eq_true hk
  have h1 := bulk_at hd
  exact fine_of X (by omega)
end Go.Proofs.YtdlebjogbhgheaaDoor.texts
