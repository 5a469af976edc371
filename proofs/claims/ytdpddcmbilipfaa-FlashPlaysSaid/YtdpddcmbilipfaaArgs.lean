/- What a list of strings, an array of two ints and a list of pairs of ints that came in read as. No condition. -/
import Derived.Test.YtdpddcmbilipfaaVals
import Derived.Deep.Slices
import Derived.Deep.Strs
import Derived.Lib.SmallJoins
namespace Go.Proofs.Ytdpddcmbilipfaa
open Go.ChangeShapes Go.WideShapes Go.ChangeAt Go.RowKit Go.Deep
set_option linter.unusedVariables false

section
variable {H : Type} {enc : TypeId × Value → H} {P : Program} {W : World}

theorem open_strs_arg {t e : TypeId} {a : Option Addr} {len cap : Nat} {d : DataW H} {pl : List MemPlace} (ht : P.underlying t = some (.slice e)) (he : P.underlying e = some .string) (hC : P.cellsOf e = 1)
    (h0 : DataW.Trod enc P W 0 (fun _ => true) true t (.slice a len cap) d pl) : ∃ ss : List ByteArray, len = ss.length ∧ Vals W a ss.length (ss.map Value.string) ∧ len ≤ cap ∧ cap ≤ maxLen := by
  obtain ⟨fuel, hf⟩ := h0
  have hf2 : DataW.trod enc P W 0 (fun _ => true) true fuel t [.slice a len cap] = some (d, pl) := by simpa [Value.cells] using hf
  rcases open_strs ht he hC hf2 with ⟨hcs, _⟩ | ⟨A, len', cap', m, Sx, hcs, _, hlc, hcm, hm, _, hcell⟩
  · simp at hcs
    obtain ⟨rfl, rfl, rfl⟩ := hcs
    exact ⟨[], rfl, Vals.nil, Nat.le_refl _, by omega⟩
  · simp at hcs
    obtain ⟨rfl, rfl, rfl⟩ := hcs
    simp only [if_true] at hm
    refine ⟨(List.range len).map Sx, by simp, ⟨by simp, ?_⟩, hlc, hcm⟩
    by_cases hz : len = 0
    · exact .inl (by simpa using hz)
    · right
      obtain ⟨b, off, spot⟩ := A
      have hc0 := (hcell 0 (by omega)).1
      have hspot : spot = none := by simpa [Addr.add] using World.cell?_spot hc0
      subst hspot
      have hb : b < W.heap.size := by
        have := World.block_lt_of_cell? W _ hc0
        simpa [Addr.add] using this
      refine ⟨b, off, rfl, hb, fun i v hv => ?_⟩
      have hi : i < len := by have := (List.getElem?_eq_some_iff.1 hv).1; simpa using this
      simp [hi] at hv
      subst hv
      have := (hcell i (by omega)).1
      rwa [Addr.add_lit] at this

theorem open_two {r : Reach} {b0 : Nat} {t e : TypeId} {v : Value} {d : DataW H} {pl : List MemPlace} (ht : P.underlying t = some (.array 2 e)) (he : P.underlying e = some (.int .i64)) (hC : P.cellsOf e = 1) (hT : P.cellsOf t = 2)
    (hwf : ∀ n, (Lit.int .i64 n).wf = true → -9223372036854775808 ≤ n ∧ n ≤ 9223372036854775807) (hv : Value.okWide P W r b0 t v) (h : DataW.Trod enc P W 0 (fun _ => true) true t v d pl) :
    ∃ x y : Int, (-9223372036854775808 ≤ x ∧ x ≤ 9223372036854775807) ∧ (-9223372036854775808 ≤ y ∧ y ≤ 9223372036854775807) ∧ v = .agg #[.int .i64 x, .int .i64 y] := by
  simp only [Value.okWide, ht] at hv
  obtain ⟨cs, rfl, hsz, _⟩ := hv
  obtain ⟨fuel, hf⟩ := h
  obtain ⟨xs, m, _, _, hl, hlen, hx⟩ := DataW.trod_array ht hf
  rw [hT] at hl
  match cs, hl with
  | ⟨[c0, c1]⟩, _ =>
    match xs, hlen with
    | [y0, y1], _ =>
      have h0 := hx 0 (by omega)
      have h1 := hx 1 (by omega)
      simp [Value.cells, hC] at h0 h1
      obtain ⟨k, e0, _, w0⟩ := DataW.trod_int he h0
      obtain ⟨n, e1, _, w1⟩ := DataW.trod_int he h1
      simp at e0 e1
      subst e0; subst e1
      exact ⟨k, n, hwf _ w0, hwf _ w1, rfl⟩

/-- the slice at a reads as the pairs l -/
def Pairs (w : World) (a : Option Addr) (l : List (Int × Int)) : Prop :=
  l = [] ∨ ∃ b off, a = some ⟨b, off, none⟩ ∧ b < w.heap.size ∧ ∀ i p, l[i]? = some p → w.cell? ⟨b, off + i * 2, none⟩ = some (.int .i64 p.1) ∧ w.cell? ⟨b, off + i * 2 + 1, none⟩ = some (.int .i64 p.2)
theorem open_pairs {t e : TypeId} {f0 f1 : Field} {a : Option Addr} {len cap : Nat} {d : DataW H} {pl : List MemPlace} (ht : P.underlying t = some (.slice e)) (he : P.underlying e = some (.struct #[f0, f1])) (hone : oneCellFields P #[f0, f1] = true) (hC : P.cellsOf e = 2)
    (u0 : P.underlying f0.type = some (.int .i64)) (u1 : P.underlying f1.type = some (.int .i64)) (h0 : DataW.Trod enc P W 0 (fun _ => true) true t (.slice a len cap) d pl) : ∃ l : List (Int × Int), len = l.length ∧ Pairs W a l ∧ len ≤ cap ∧ cap ≤ maxLen := by
  obtain ⟨fuel, hf⟩ := h0
  have hf2 : DataW.trod enc P W 0 (fun _ => true) true fuel t [.slice a len cap] = some (d, pl) := by simpa [Value.cells] using hf
  rcases open_slice ht hf2 with ⟨hcs, _⟩ | ⟨A, len', cap', m, n, D, Pl, hcs, _, hlc, hcm, hm, hx, hrow⟩
  · simp at hcs
    obtain ⟨rfl, rfl, rfl⟩ := hcs
    exact ⟨[], rfl, .inl rfl, Nat.le_refl _, by omega⟩
  · simp at hcs
    obtain ⟨rfl, rfl, rfl⟩ := hcs
    simp only [if_true] at hm
    have each : ∀ r, r < len → ∃ p : Int × Int, W.cell? (A.add (r * 2)) = some (.int .i64 p.1) ∧ W.cell? (A.add (r * 2 + 1)) = some (.int .i64 p.2) := by
      intro r hr
      obtain ⟨cs', h1, h2⟩ := hrow r (by omega)
      rw [hC] at h1
      obtain ⟨_, hlen, hcell⟩ := World.cells?_some h1
      obtain ⟨y0, y1, n', _, hl, g0, g1⟩ := trod_struct2 he h2
      obtain ⟨o0, k0⟩ := hone_of hone 0 f0 rfl
      obtain ⟨o1, k1⟩ := hone_of hone 1 f1 rfl
      rw [hC] at hl
      match cs', hl with
      | [c0, c1], _ =>
        obtain ⟨k, e0, _, _⟩ := DataW.trod_int u0 (by simpa [o0, k0] using g0)
        obtain ⟨j, e1, _, _⟩ := DataW.trod_int u1 (by simpa [o1, k1] using g1)
        have q0 := hcell 0 (by omega)
        have q1 := hcell 1 (by omega)
        rw [add_add] at q0 q1
        refine ⟨(k, j), ?_, ?_⟩
        · have : c0 = .int .i64 k := by simpa using e0
          simpa [this] using q0
        · have : c1 = .int .i64 j := by simpa using e1
          simpa [this] using q1
    obtain ⟨y, hy⟩ := choose_lt each
    refine ⟨(List.range len).map y, by simp, ?_, hlc, hcm⟩
    by_cases hz : len = 0
    · subst hz; exact .inl rfl
    · right
      obtain ⟨b, off, spot⟩ := A
      have hc0 := (hy 0 (by omega)).1
      have hspot : spot = none := by simpa [Addr.add] using World.cell?_spot hc0
      subst hspot
      have hb : b < W.heap.size := by
        have := World.block_lt_of_cell? W _ hc0
        simpa [Addr.add] using this
      refine ⟨b, off, rfl, hb, fun i p hp => ?_⟩
      have hi : i < len := by have := (List.getElem?_eq_some_iff.1 hp).1; simpa using this
      simp [hi] at hp
      subst hp
      have e0 := (hy i hi).1
      have e1 := (hy i hi).2
      rw [Addr.add_lit] at e0 e1
      exact ⟨e0, by rw [Nat.add_assoc]; exact e1⟩
theorem Pairs.below {w w' : World} {a : Option Addr} {l : List (Int × Int)} (h : Pairs w a l) (hb : Below w.heap.size w w') : Pairs w' a l := by
  rcases h with h | ⟨b, off, ha, hlt, hc⟩
  · exact .inl h
  · exact .inr ⟨b, off, ha, Nat.lt_of_lt_of_le hlt hb.size, fun i p hp => by rw [hb.cell (p := ⟨b, off + i * 2, none⟩) hlt, hb.cell (p := ⟨b, off + i * 2 + 1, none⟩) hlt]; exact hc i p hp⟩
theorem Pairs.at {w : World} {a : Option Addr} {l : List (Int × Int)} (h : Pairs w a l) {i : Nat} (hi : i < l.length) :
    ∃ b off p, a = some ⟨b, off, none⟩ ∧ b < w.heap.size ∧ l[i]? = some p ∧ w.cell? ⟨b, off + i * 2, none⟩ = some (.int .i64 p.1) ∧ w.cell? ⟨b, off + i * 2 + 1, none⟩ = some (.int .i64 p.2) := by
  rcases h with rfl | ⟨b, off, ha, hlt, hc⟩
  · simp at hi
  · have hp := List.getElem?_eq_getElem hi
    exact ⟨b, off, _, ha, hlt, hp, hc i _ hp⟩
end
end Go.Proofs.Ytdpddcmbilipfaa
