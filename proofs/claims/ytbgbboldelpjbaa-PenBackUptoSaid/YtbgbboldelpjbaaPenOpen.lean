/- What a piece and a list of pieces that came in read as. No condition. -/
import Derived.Test.YtbgbboldelpjbaaPenAct
import Derived.Deep.Slices
import Derived.Deep.Strs
import Derived.Lib.SmallJoins
namespace Go.Proofs.Ytbgbboldelpjbaa.pen
open Go.ChangeShapes Go.WideShapes Go.ChangeAt Go.RowKit Go.Deep Go.Proofs.Ytbgbboldelpjbaa.texts
set_option linter.unusedVariables false

section
variable {H : Type} {enc : TypeId × Value → H} {P : Program} {w : World} {base : Nat} {spare : Nat → Bool} {held : Bool}

/-- the three cells of a piece -/
theorem piece_cells {t0 t1 t2 : TypeId} {n : Nat} {v0 v1 v2 : Value} {y0 y1 y2 : DataW H × List MemPlace} (u0 : P.underlying t0 = some (.int .i64)) (u1 : P.underlying t1 = some (.int .i64)) (u2 : P.underlying t2 = some .string)
    (h0 : DataW.trod enc P w base spare held n t0 [v0] = some y0) (h1 : DataW.trod enc P w base spare held n t1 [v1] = some y1) (h2 : DataW.trod enc P w base spare held n t2 [v2] = some y2) :
    ∃ p : Piece, Fit p ∧ v0 = .int .i64 p.1 ∧ v1 = .int .i64 p.2.1 ∧ v2 = .string (strL p.2.2) ∧ Rows.uptoBulk y0.1 + Rows.uptoBulk y1.1 + Rows.uptoBulk y2.1 = p.2.2.length + 3 := by
  obtain ⟨k, e0, rfl, w0⟩ := DataW.trod_int u0 h0
  obtain ⟨m, e1, rfl, w1⟩ := DataW.trod_int u1 h1
  obtain ⟨s, e2, rfl, hs⟩ := DataW.trod_string u2 h2
  have a0 := wf_i64 _ w0
  have a1 := wf_i64 _ w1
  refine ⟨(k, m, s.data.toList), ⟨a0.1, a0.2, a1.1, a1.2, ?_⟩, by simpa using e0, by simpa using e1, by rw [strL_of]; simpa using e2, ?_⟩
  · unfold maxLen at hs
    show s.data.toList.length ≤ _
    have : s.data.toList.length = s.size := rfl
    omega
  · simp only [Rows.uptoBulk]; omega
theorem open_piece {e : TypeId} {f0 f1 f2 : Field} {fuel : Nat} {cs : List Value} {x : DataW H × List MemPlace} (he : P.underlying e = some (.struct #[f0, f1, f2])) (hone : oneCellFields P #[f0, f1, f2] = true) (hC : P.cellsOf e = 3)
    (u0 : P.underlying f0.type = some (.int .i64)) (u1 : P.underlying f1.type = some (.int .i64)) (u2 : P.underlying f2.type = some .string) (h : DataW.trod enc P w base spare held fuel e cs = some x) :
    ∃ p : Piece, Fit p ∧ cs = [.int .i64 p.1, .int .i64 p.2.1, .string (strL p.2.2)] ∧ Rows.uptoBulk x.1 = p.2.2.length + 4 := by
  obtain ⟨y0, y1, y2, n, rfl, hl, h0, h1, h2⟩ := trod_struct3 he h
  obtain ⟨o0, k0⟩ := hone_of hone 0 f0 rfl
  obtain ⟨o1, k1⟩ := hone_of hone 1 f1 rfl
  obtain ⟨o2, k2⟩ := hone_of hone 2 f2 rfl
  rw [hC] at hl
  match cs, hl with
  | [c0, c1, c2], _ =>
    obtain ⟨p, hp, e0, e1, e2, hb⟩ := piece_cells u0 u1 u2 (by simpa [o0, k0] using h0) (by simpa [o1, k1] using h1) (by simpa [o2, k2] using h2)
    refine ⟨p, hp, by rw [e0, e1, e2], ?_⟩
    simp only [Rows.uptoBulk, Rows.uptoBulkAll]; omega

theorem open_piece_arg {r : Reach} {b0 : Nat} {t : TypeId} {f0 f1 f2 : Field} {v : Value} {d : DataW H} {pl : List MemPlace} (hs : P.underlying t = some (.struct #[f0, f1, f2])) (hone : oneCellFields P #[f0, f1, f2] = true) (hC : P.cellsOf t = 3)
    (u0 : P.underlying f0.type = some (.int .i64)) (u1 : P.underlying f1.type = some (.int .i64)) (u2 : P.underlying f2.type = some .string) (hv : Value.okWide P w r b0 t v) (h : DataW.Trod enc P w base spare held t v d pl) : ∃ p : Piece, Fit p ∧ v = actV p := by
  obtain ⟨v0, v1, v2, y0, y1, y2, n, rfl, _, _, h0, h1, h2⟩ := Go.Joins.open_agg3 hs hone hC hv h
  obtain ⟨p, hp, rfl, rfl, rfl, _⟩ := piece_cells u0 u1 u2 h0 h1 h2
  exact ⟨p, hp, rfl⟩
/-- the slice at a reads as the pieces l -/
def Acts (w : World) (a : Option Addr) (l : List Piece) : Prop :=
  l = [] ∨ ∃ b off, a = some ⟨b, off, none⟩ ∧ b < w.heap.size ∧ ∀ i, i < l.length → ∃ p, l[i]? = some p ∧ w.cell? ⟨b, off + i * 3, none⟩ = some (.int .i64 p.1) ∧ w.cell? ⟨b, off + i * 3 + 1, none⟩ = some (.int .i64 p.2.1) ∧ w.cell? ⟨b, off + i * 3 + 2, none⟩ = some (.string (strL p.2.2))
def actsBulk (l : List Piece) : Nat := (l.map fun p => p.2.2.length + 4).sum
theorem bulk_pieces (D : Nat → DataW H) (f : Nat → Piece) : ∀ l : List Nat, (∀ i ∈ l, Rows.uptoBulk (D i) = (f i).2.2.length + 4) → actsBulk (l.map f) = Rows.uptoBulkAll (l.map D)
  | [], _ => rfl
  | i :: l, h => by
    have h1 := bulk_pieces D f l (fun j hj => h j (by simp [hj]))
    have h2 := h i (by simp)
    unfold actsBulk at *
    simp only [List.map_cons, Rows.uptoBulkAll, List.sum_cons]
    omega
instance : Inhabited Piece := ⟨(0, 0, [])⟩
theorem open_acts {t e : TypeId} {f0 f1 f2 : Field} {W : World} {a : Option Addr} {len cap : Nat} {d : DataW H} {pl : List MemPlace} (ht : P.underlying t = some (.slice e)) (he : P.underlying e = some (.struct #[f0, f1, f2])) (hone : oneCellFields P #[f0, f1, f2] = true) (hC : P.cellsOf e = 3)
    (u0 : P.underlying f0.type = some (.int .i64)) (u1 : P.underlying f1.type = some (.int .i64)) (u2 : P.underlying f2.type = some .string)
    (h0 : DataW.Trod enc P W 0 (fun _ => true) true t (.slice a len cap) d pl) : ∃ l : List Piece, len = l.length ∧ Acts W a l ∧ (∀ p ∈ l, Fit p) ∧ len ≤ cap ∧ cap ≤ maxLen ∧ actsBulk l ≤ Rows.uptoBulk d := by
  obtain ⟨fuel, hf⟩ := h0
  have hf2 : DataW.trod enc P W 0 (fun _ => true) true fuel t [.slice a len cap] = some (d, pl) := by simpa [Value.cells] using hf
  rcases open_slice ht hf2 with ⟨hcs, _⟩ | ⟨A, len', cap', m, n, D, Pl, hcs, _, hlc, hcm, hm, hx, hrow⟩
  · simp at hcs
    obtain ⟨rfl, rfl, rfl⟩ := hcs
    exact ⟨[], rfl, .inl rfl, by simp, Nat.le_refl _, by omega, Nat.zero_le _⟩
  · simp at hcs
    obtain ⟨rfl, rfl, rfl⟩ := hcs
    simp only [if_true] at hm
    have each : ∀ r, r < len → ∃ p : Piece, Fit p ∧ W.cell? (A.add (r * 3)) = some (.int .i64 p.1) ∧ W.cell? (A.add (r * 3 + 1)) = some (.int .i64 p.2.1) ∧ W.cell? (A.add (r * 3 + 2)) = some (.string (strL p.2.2)) ∧ Rows.uptoBulk (D r) = p.2.2.length + 4 := by
      intro r hr
      obtain ⟨cs', h1, h2⟩ := hrow r (by omega)
      rw [hC] at h1
      obtain ⟨_, hlen, hcell⟩ := World.cells?_some h1
      obtain ⟨p, hp, rfl, hb⟩ := open_piece he hone hC u0 u1 u2 h2
      have e0 := hcell 0 (by omega)
      have e1 := hcell 1 (by omega)
      have e2 := hcell 2 (by omega)
      rw [add_add] at e0 e1 e2
      exact ⟨p, hp, by simpa using e0, by simpa using e1, by simpa using e2, hb⟩
    obtain ⟨y, hy⟩ := choose_lt each
    refine ⟨(List.range len).map y, by simp, ?_, ?_, by omega, hcm, ?_⟩
    · by_cases hz : len = 0
      · subst hz; exact .inl rfl
      · right
        obtain ⟨b, off, spot⟩ := A
        have hc0 := (hy 0 (by omega)).2.1
        have hspot : spot = none := by simpa [Addr.add] using World.cell?_spot hc0
        subst hspot
        have hb : b < W.heap.size := by
          have := World.block_lt_of_cell? W _ hc0
          simpa [Addr.add] using this
        refine ⟨b, off, rfl, hb, fun i hi => ?_⟩
        have hi' : i < len := by simpa using hi
        obtain ⟨_, e0, e1, e2, _⟩ := hy i hi'
        rw [Addr.add_lit] at e0 e1 e2
        refine ⟨y i, by rw [List.getElem?_map, List.getElem?_range hi']; rfl, ?_, ?_, ?_⟩
        · exact e0
        · rw [Nat.add_assoc]; exact e1
        · rw [Nat.add_assoc]; exact e2
    · intro p hp
      obtain ⟨i, hi, rfl⟩ := List.mem_map.1 hp
      exact (hy i (List.mem_range.1 hi)).1
    · have hd : d = .slice ((List.range len).map D) ((List.range (m - len)).map fun j => D (len + j)) := by
        have := congrArg Prod.fst hx
        simpa using this
      rw [hd]
      simp only [Rows.uptoBulk]
      have := bulk_pieces D y (List.range len) (fun i hi => (hy i (List.mem_range.1 hi)).2.2.2.2)
      omega
end
theorem Acts.below {w w' : World} {a : Option Addr} {l : List Piece} (h : Acts w a l) (hb : Below w.heap.size w w') : Acts w' a l := by
  rcases h with h | ⟨b, off, ha, hlt, hc⟩
  · exact .inl h
  · refine .inr ⟨b, off, ha, Nat.lt_of_lt_of_le hlt hb.size, fun i hi => ?_⟩
    obtain ⟨p, h0, h1, h2, h3⟩ := hc i hi
    exact ⟨p, h0, (hb.cell (p := ⟨b, off + i * 3, none⟩) hlt).trans h1, (hb.cell (p := ⟨b, off + i * 3 + 1, none⟩) hlt).trans h2, (hb.cell (p := ⟨b, off + i * 3 + 2, none⟩) hlt).trans h3⟩
theorem Acts.at {w : World} {a : Option Addr} {l : List Piece} (h : Acts w a l) {i : Nat} (hi : i < l.length) :
    ∃ b off p, a = some ⟨b, off, none⟩ ∧ b < w.heap.size ∧ l[i]? = some p ∧ w.cell? ⟨b, off + i * 3, none⟩ = some (.int .i64 p.1) ∧ w.cell? ⟨b, off + i * 3 + 1, none⟩ = some (.int .i64 p.2.1) ∧ w.cell? ⟨b, off + i * 3 + 2, none⟩ = some (.string (strL p.2.2)) := by
  rcases h with h | ⟨b, off, ha, hlt, hc⟩
  · rw [h] at hi; simp at hi
  · obtain ⟨p, h0, h1, h2, h3⟩ := hc i hi
    exact ⟨b, off, p, ha, hlt, h0, h1, h2, h3⟩
/-- the bound on what came in bounds the pieces -/
theorem small_acts {H : Type} {ds : List (DataW H)} {d : DataW H} {l : List Piece} {j : Nat} (hk : Rows.uptoSmall H ds = true) (hd : ds[j]? = some d) (hl : actsBulk l ≤ Rows.uptoBulk d) : actsBulk l ≤ 1048576 := by
  have h : Rows.uptoBulkAll ds ≤ 1048576 := of_decide_eq_true hk
  have h1 := bulk_at hd
  omega
end Go.Proofs.Ytbgbboldelpjbaa.pen
