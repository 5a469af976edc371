/- What a struct of 2 fields, and a list of such structs, that came in read as. No condition. -/
import Derived.Test.YtccaibdklgkgeaaOpen
import Derived.Deep.Slices
import Derived.Deep.Strs
import Derived.Lib.SmallJoins
namespace Go.Proofs.Ytccaibdklgkgeaa.item
open Go.ChangeShapes Go.WideShapes Go.ChangeAt Go.RowKit Go.Deep
set_option linter.unusedVariables false

structure It where
  (key : Nat) (data : ByteArray)
instance : Inhabited It := ⟨⟨0, ⟨#[]⟩⟩⟩
def It.val (p : It) : Value := .agg #[.int .u32 (p.key : Nat), .string p.data]
structure It.Good (W : World) (p : It) : Prop where
  unit : True
  bkey : p.key < 4294967296
theorem It.Good.below {W W' : World} {p : It} (h : p.Good W) (hb : Below W.heap.size W W') : p.Good W' := ⟨h.unit, h.bkey⟩
section
variable {H : Type} {enc : TypeId × Value → H} {P : Program} {W : World}
theorem It_cells {t0 t1 : TypeId} {n : Nat} {v0 v1 : Value} {y0 y1 : DataW H × List MemPlace} (u0 : P.underlying t0 = some (.int .u32)) (u1 : P.underlying t1 = some .string)
    (h0 : DataW.trod enc P W 0 (fun _ => true) true n t0 [v0] = some y0) (h1 : DataW.trod enc P W 0 (fun _ => true) true n t1 [v1] = some y1) :
    ∃ p : It, p.Good W ∧ v0 = .int .u32 (p.key : Nat) ∧ v1 = .string p.data := by
  obtain ⟨z0, e0, _, w0⟩ := DataW.trod_int u0 h0
  have a0 := wf_u32 _ w0
  obtain ⟨x0, rfl⟩ := Int.eq_ofNat_of_zero_le a0.1
  obtain ⟨x1, e1, _⟩ := DataW.trod_string u1 h1
  exact ⟨⟨x0, x1⟩, ⟨trivial, by show x0 < _; omega⟩, by simpa using e0, by simpa using e1⟩
theorem open_It_arg {r : Reach} {b0 : Nat} {t : TypeId} {f0 f1 : Field} {v : Value} {d : DataW H} {pl : List MemPlace} (hs : P.underlying t = some (.struct #[f0, f1])) (hone : oneCellFields P #[f0, f1] = true) (hC : P.cellsOf t = 2)
    (u0 : P.underlying f0.type = some (.int .u32)) (u1 : P.underlying f1.type = some .string)
    (hv : Value.okWide P W r b0 t v) (h : DataW.Trod enc P W 0 (fun _ => true) true t v d pl) : ∃ p : It, p.Good W ∧ v = p.val := by
  obtain ⟨cs, rfl, hsz⟩ := okWide_struct hs hv
  obtain ⟨fuel, hf⟩ := h
  rw [hC] at hsz
  obtain ⟨l⟩ := cs
  match l, hsz with
  | [c0, c1], _ =>
    obtain ⟨ys, m, _, _, hl, hlen, hx⟩ := DataW.trod_struct hs hf
    have each : ∀ (i : Nat) (f : Field) (c : Value), #[f0, f1][i]? = some f → [c0, c1][i]? = some c → ∃ y, DataW.trod enc P W 0 (fun _ => true) true m f.type [c] = some y := by
      intro i f c hi hc
      obtain ⟨o, k⟩ := hone_of hone i f hi
      have hi6 : i < 2 := by have := (Array.getElem?_eq_some_iff.1 hi).1; simpa using this
      have h1 := hx i f hi
      rw [o, k] at h1
      have e : (((Value.agg ⟨[c0, c1]⟩).cells.toList.drop i).take 1) = [c] := by
        rw [List.take_one]
        have : ((Value.agg ⟨[c0, c1]⟩).cells.toList.drop i).head? = some c := by
          rw [List.head?_drop]; simpa [Value.cells] using hc
        rw [this]; rfl
      rw [e] at h1
      have hy : ys[i]? = some (ys[i]'(by rw [hlen]; exact hi6)) := List.getElem?_eq_getElem _
      exact ⟨_, h1.trans hy⟩
    obtain ⟨y0, g0⟩ := each 0 f0 c0 rfl rfl
    obtain ⟨y1, g1⟩ := each 1 f1 c1 rfl rfl
    obtain ⟨p, hp, rfl, rfl⟩ := It_cells u0 u1 g0 g1
    exact ⟨p, hp, rfl⟩
/-- the slice at a reads as the list l -/
def Its (w : World) (a : Option Addr) (l : List It) : Prop :=
  l = [] ∨ ∃ b off, a = some ⟨b, off, none⟩ ∧ b < w.heap.size ∧ ∀ i p, l[i]? = some p → w.cell? ⟨b, off + i * 2, none⟩ = some (.int .u32 (p.key : Nat)) ∧ w.cell? ⟨b, off + i * 2 + 1, none⟩ = some (.string p.data)
theorem open_Its {t e : TypeId} {f0 f1 : Field} {a : Option Addr} {len cap : Nat} {d : DataW H} {pl : List MemPlace} (ht : P.underlying t = some (.slice e)) (he : P.underlying e = some (.struct #[f0, f1])) (hone : oneCellFields P #[f0, f1] = true) (hC : P.cellsOf e = 2)
    (u0 : P.underlying f0.type = some (.int .u32)) (u1 : P.underlying f1.type = some .string)
    (h0 : DataW.Trod enc P W 0 (fun _ => true) true t (.slice a len cap) d pl) : ∃ l : List It, len = l.length ∧ Its W a l ∧ (∀ p ∈ l, p.Good W) ∧ len ≤ cap ∧ cap ≤ maxLen := by
  obtain ⟨fuel, hf⟩ := h0
  have hf2 : DataW.trod enc P W 0 (fun _ => true) true fuel t [.slice a len cap] = some (d, pl) := by simpa [Value.cells] using hf
  rcases open_slice ht hf2 with ⟨hcs, _⟩ | ⟨A, len', cap', q, n, D, Pl, hcs, _, hlc, hcm, hm, hx0, hrow⟩
  · simp at hcs
    obtain ⟨rfl, rfl, rfl⟩ := hcs
    exact ⟨[], rfl, .inl rfl, by simp, Nat.le_refl _, by unfold maxLen; omega⟩
  · simp at hcs
    obtain ⟨rfl, rfl, rfl⟩ := hcs
    simp only [if_true] at hm
    have each : ∀ r, r < len → ∃ p : It, p.Good W ∧ W.cell? (A.add (r * 2)) = some (.int .u32 (p.key : Nat)) ∧ W.cell? (A.add (r * 2 + 1)) = some (.string p.data) := by
      intro r hr
      obtain ⟨cs', h1, h2⟩ := hrow r (by omega)
      rw [hC] at h1
      obtain ⟨_, hlen0, hcell⟩ := World.cells?_some h1
      obtain ⟨ys, m, _, _, hl, hlen, hx⟩ := DataW.trod_struct he h2
      rw [hC] at hl
      match cs', hl with
      | [c0, c1], _ =>
        have each : ∀ (i : Nat) (f : Field) (c : Value), #[f0, f1][i]? = some f → [c0, c1][i]? = some c → ∃ y, DataW.trod enc P W 0 (fun _ => true) true m f.type [c] = some y := by
          intro i f c hi hc
          obtain ⟨o, k⟩ := hone_of hone i f hi
          have hi6 : i < 2 := by have := (Array.getElem?_eq_some_iff.1 hi).1; simpa using this
          have h1 := hx i f hi
          rw [o, k] at h1
          have e : (([c0, c1].drop i).take 1) = [c] := by
            rw [List.take_one]
            have : ([c0, c1].drop i).head? = some c := by
              rw [List.head?_drop]; simpa using hc
            rw [this]; rfl
          rw [e] at h1
          have hy : ys[i]? = some (ys[i]'(by rw [hlen]; exact hi6)) := List.getElem?_eq_getElem _
          exact ⟨_, h1.trans hy⟩
        obtain ⟨y0, g0⟩ := each 0 f0 c0 rfl rfl
        obtain ⟨y1, g1⟩ := each 1 f1 c1 rfl rfl
        obtain ⟨p, hp, rfl, rfl⟩ := It_cells u0 u1 g0 g1
        have k0 := hcell 0 (by omega)
        have k1 := hcell 1 (by omega)
        rw [add_add] at k0 k1
        exact ⟨p, hp, by simpa using k0, by simpa using k1⟩
    obtain ⟨y, hy⟩ := choose_lt each
    refine ⟨(List.range len).map y, by simp, ?_, ?_, by omega, hcm⟩
    · by_cases hz : len = 0
      · subst hz; exact .inl rfl
      · right
        obtain ⟨b, off, spot⟩ := A
        have hc0 := (hy 0 (by omega)).2.1
        have hspot : spot = none := by simpa [Addr.add] using World.cell?_spot hc0
        subst hspot
        have hb : b < W.heap.size := by
          have := World.block_lt_of_cell? W _ hc0
          simpa [Addr.add] using this
        refine ⟨b, off, rfl, hb, fun i p hp => ?_⟩
        have hi : i < len := by have := (List.getElem?_eq_some_iff.1 hp).1; simpa using this
        simp [hi] at hp
        subst hp
        obtain ⟨_, e50, e51⟩ := hy i hi
        rw [Addr.add_lit] at e50 e51
        exact ⟨e50, by rw [Nat.add_assoc]; exact e51⟩
    · intro p hp
      obtain ⟨i, hi, rfl⟩ := List.mem_map.1 hp
      exact (hy i (List.mem_range.1 hi)).1
end
theorem Its.below {w w' : World} {a : Option Addr} {l : List It} (h : Its w a l) (hb : Below w.heap.size w w') : Its w' a l := by
  rcases h with h | ⟨b, off, ha, hlt, hc⟩
  · exact .inl h
  · refine .inr ⟨b, off, ha, Nat.lt_of_lt_of_le hlt hb.size, fun i p hp => ?_⟩
    rw [hb.cell (p := ⟨b, off + i * 2, none⟩) hlt, hb.cell (p := ⟨b, off + i * 2 + 1, none⟩) hlt]
    exact hc i p hp
theorem Its.at {w : World} {a : Option Addr} {l : List It} (h : Its w a l) {i : Nat} (hi : i < l.length) :
    ∃ b off p, a = some ⟨b, off, none⟩ ∧ b < w.heap.size ∧ l[i]? = some p ∧ w.cell? ⟨b, off + i * 2, none⟩ = some (.int .u32 (p.key : Nat)) ∧ w.cell? ⟨b, off + i * 2 + 1, none⟩ = some (.string p.data) := by
  rcases h with rfl | ⟨b, off, ha, hlt, hc⟩
  · simp at hi
  · have hp := List.getElem?_eq_getElem hi
    exact ⟨b, off, _, ha, hlt, hp, hc i _ hp⟩
/-- all that is asked of the type of a slice of such structs -/
def ItRow (P : Program) (t : TypeId) : Prop := ∃ (e : TypeId) (f0 f1 : Field), P.underlying t = some (.slice e) ∧ P.underlying e = some (.struct #[f0, f1]) ∧ oneCellFields P #[f0, f1] = true ∧ P.cellsOf e = 2 ∧ P.underlying f0.type = some (.int .u32) ∧ P.underlying f1.type = some .string
theorem open_ItRow {H : Type} {enc : TypeId × Value → H} {P : Program} {W : World} {t : TypeId} {v : Value} {n : Nat} {y : DataW H × List MemPlace} (hR : ItRow P t) (h : DataW.trod enc P W 0 (fun _ => true) true n t [v] = some y) : ∃ a cap L, v = .slice a (List.length L) cap ∧ Its W a L ∧ (∀ p ∈ L, p.Good W) ∧ L.length ≤ cap ∧ cap ≤ maxLen := by
  obtain ⟨e, f0, f1, ht, he, hone, hC, u0, u1⟩ := hR
  have hv : ∃ a len cap, v = .slice a len cap := by
    rcases open_slice ht h with ⟨hcs, _⟩ | ⟨A, len, cap, m, n1, D, Pl, hcs, _⟩
    · exact ⟨none, 0, 0, by simpa using hcs⟩
    · exact ⟨_, _, _, by simpa using hcs⟩
  obtain ⟨a, len, cap, rfl⟩ := hv
  obtain ⟨L, rfl, h1, h2, h3, h4⟩ := open_Its ht he hone hC u0 u1 (W := W) (enc := enc) (d := y.1) (pl := y.2) ⟨n, by simpa [Value.cells] using h⟩
  exact ⟨a, cap, L, rfl, h1, h2, h3, h4⟩
end Go.Proofs.Ytccaibdklgkgeaa.item
