/- Lists of words that lie in the memory: one reading form for those that came in, those that Lines gathered, and the reference's. No condition. -/
import Derived.Test.YtdlebjogbhgheaaDoorTextsRefLines
namespace Go.Proofs.YtdlebjogbhgheaaDoor.texts
open Go.RowKit Go.Lib
set_option linter.unusedVariables false

theorem StrRows.below {w w' : World} {a : Option Addr} {wss : List (List (List UInt8))} (h : StrRows w a wss) (hb : Below w.heap.size w w') : StrRows w' a wss := by
  rcases h with h | ⟨b, off, ha, hlt, hc⟩
  · exact .inl h
  · refine .inr ⟨b, off, ha, Nat.lt_of_lt_of_le hlt hb.size, fun i hi => ?_⟩
    obtain ⟨ai, ci, h1, h2, h3⟩ := hc i hi
    exact ⟨ai, ci, (hb.cell (p := ⟨b, off + i, none⟩) hlt).trans h1, h2, h3.below hb⟩
theorem strs_block {w : World} {g : Nat} {cur : Array Value} {n : Nat} {ws : List (List UInt8)} (hg : w.heap[g]? = some (.cells cur 9 (0, 0))) (hn : n = ws.length) (ht : cur.toList.take n = cellsOfStrs ws) : Strs w (some ⟨g, 0, none⟩) ws := by
  refine .inr ⟨g, 0, rfl, (Array.getElem?_eq_some_iff.1 hg).1, fun i hi => ?_⟩
  rw [Nat.zero_add, cell_of_row w g i cur 9 (0, 0) hg]
  have h2 : (cur.toList.take n)[i]? = (cellsOfStrs ws)[i]? := by rw [ht]
  rw [List.getElem?_take, if_pos (by omega), Array.getElem?_toList] at h2
  rw [h2, cellsOfStrs, List.getElem?_map, List.getElem?_eq_getElem hi, List.getD_eq_getElem?_getD, List.getElem?_eq_getElem hi]
  rfl
theorem strs_own {w : World} {B : Nat} {u : Value} {ws : List (List UInt8)} (h : w.ownsRow B 9 1 u ws.length (cellsOfStrs ws)) : ∃ a c, u = .slice a ws.length c ∧ ws.length ≤ c ∧ Strs w a ws := by
  rcases h.2 with ⟨hv, h0⟩ | ⟨g, cap, cur, hv, _, hg, h1, _, _, ht⟩
  · exact ⟨none, 0, by rw [hv, h0], by omega, .inl (List.eq_nil_of_length_eq_zero h0)⟩
  · exact ⟨_, cap, hv, h1, strs_block hg (by omega) ht⟩
/-- a row of slices of the call's own, each of which reads as words -/
theorem rows_own {w : World} {B n : Nat} {a : Option Addr} {c : Nat} {vs : List Value} {wss : List (List (List UInt8))} (h : w.ownsRow B 51 1 (.slice a n c) n vs) (hn : n = wss.length)
    (hr : ∀ j, j < wss.length → ∃ aj cj, vs[j]? = some (.slice aj (wss.getD j []).length cj) ∧ (wss.getD j []).length ≤ cj ∧ Strs w aj (wss.getD j [])) : StrRows w a wss := by
  rcases h.2 with ⟨hv, h0⟩ | ⟨g, cap, cur, hv, _, hg, h1, _, _, ht⟩
  · exact .inl (List.eq_nil_of_length_eq_zero (by omega))
  · cases hv
    refine .inr ⟨g, 0, rfl, (Array.getElem?_eq_some_iff.1 hg).1, fun i hi => ?_⟩
    obtain ⟨aj, cj, h2, h3, h4⟩ := hr i hi
    refine ⟨aj, cj, ?_, h3, h4⟩
    rw [Nat.zero_add, cell_of_row w g i cur 51 (0, 0) hg]
    have h5 : (cur.toList.take (n * 1))[i]? = vs[i]? := by rw [ht]
    rw [List.getElem?_take, if_pos (by omega), Array.getElem?_toList] at h5
    rw [h5, h2]
theorem refRows_read {B : Nat} {w : World} {v : Value} {wss : List (List (List UInt8))} (h : RefRows B w v wss) : ∃ a c, v = .slice a wss.length c ∧ StrRows w a wss := by
  obtain ⟨vs, hown, hr⟩ := h
  obtain ⟨a, c, rfl, hc⟩ := ownsRow_slice hown
  refine ⟨a, c, rfl, rows_own hown rfl fun j hj => ?_⟩
  obtain ⟨u, e1, e2⟩ := hr j hj
  obtain ⟨aj, cj, rfl, h3, h4⟩ := strs_own e2
  exact ⟨aj, cj, e1, h3, h4⟩
theorem map_at (L : List (List UInt8)) (j : Nat) (hj : j < L.length) : (L.map wordsOf).getD j [] = wordsOf (L.getD j []) := by
  rw [List.getD_eq_getElem?_getD, List.getElem?_map, List.getElem?_eq_getElem hj, List.getD_eq_getElem?_getD, List.getElem?_eq_getElem hj]; rfl
theorem gathered_read {B : Nat} {w : World} {v : Value} {L : List (List UInt8)} (h : Gathered B w v L L.length) : ∃ a c, v = .slice a (L.map wordsOf).length c ∧ StrRows w a (L.map wordsOf) := by
  obtain ⟨vs, hown, hr⟩ := h
  obtain ⟨a, c, rfl, hc⟩ := ownsRow_slice hown
  refine ⟨a, c, by rw [List.length_map], rows_own hown (by rw [List.length_map]) fun j hj => ?_⟩
  rw [List.length_map] at hj
  obtain ⟨_, u, e1, b, hb, rfl, hg⟩ := hr j hj
  rw [map_at L j hj]
  exact ⟨some ⟨b, 0, none⟩, (wordsOf (L.getD j [])).length, e1, Nat.le_refl _, strs_block hg rfl (by rw [List.take_of_length_le (by simp [cellsOfStrs])])⟩

/-- the words of the lines of a text; none, where it is none -/
def linesOf (s : List UInt8) : List (List (List UInt8)) := if (linesAux [] s).all goodLine then (linesAux [] s).map wordsOf else []
/-- the number of the first line that is none; 0: there is none such -/
def lineNo (s : List UInt8) : Int := if (linesAux [] s).all goodLine then 0 else ((linesAux [] s).findIdx fun x => !goodLine x : Nat) + 1
def lineErr (s : List UInt8) : Int := if (linesAux [] s).all goodLine then 0 else 4
/-- how Lines ends, in one form -/
def LinesRead (s : List UInt8) (e : Ending) (w' : World) : Prop :=
  ∃ a c, e = .returned (.tuple #[.slice a (linesOf s).length c, .int .i64 (lineNo s), .int .i64 (lineErr s)]) ∧ StrRows w' a (linesOf s)
theorem all_at (L : List (List UInt8)) (h : ∀ j, j < L.length → goodLine (L.getD j []) = true) : L.all goodLine = true := by
  rw [List.all_eq_true]
  intro x hx
  obtain ⟨j, hj, rfl⟩ := List.getElem_of_mem hx
  have := h j hj
  rwa [List.getD_eq_getElem?_getD, List.getElem?_eq_getElem hj] at this
theorem first_bad (D E : List (List UInt8)) (x : List UInt8) (hD : ∀ y ∈ D, goodLine y = true) (hx : goodLine x = false) : (D ++ x :: E).all goodLine = false ∧ ((D ++ x :: E).findIdx fun x => !goodLine x) = D.length := by
  constructor
  · simp [hx]
  · rw [List.findIdx_append]
    have : (D.findIdx fun x => !goodLine x) = D.length := List.findIdx_eq_length.2 fun y hy => by simp [hD y hy]
    rw [this, if_neg (by omega), List.findIdx_cons]
    simp [hx]
theorem linesEnd_read {s : List UInt8} {e : Ending} {w' : World} (h : LinesEnd s e w') : LinesRead s e w' := by
  rcases h with ⟨hg, v, B, rfl, hG⟩ | ⟨k, hk, hg, hb, rfl⟩
  · have ha := all_at _ hg
    obtain ⟨a, c, rfl, hr⟩ := gathered_read hG
    unfold LinesRead linesOf lineNo lineErr
    simp only [ha, if_true]
    exact ⟨a, c, rfl, hr⟩
  · have hsplit : linesAux [] s = (linesAux [] s).take k ++ (linesAux [] s).getD k [] :: (linesAux [] s).drop (k + 1) := by
      conv => lhs; rw [← List.take_append_drop k (linesAux [] s), List.drop_eq_getElem_cons hk]
      rw [List.getD_eq_getElem?_getD, List.getElem?_eq_getElem hk]; rfl
    have hD : ∀ y ∈ (linesAux [] s).take k, goodLine y = true := by
      intro y hy
      obtain ⟨j, hj, rfl⟩ := List.getElem_of_mem hy
      rw [List.length_take] at hj
      have := hg j (by omega)
      rw [List.getD_eq_getElem?_getD, List.getElem?_eq_getElem (by omega)] at this
      rw [List.getElem_take]; exact this
    obtain ⟨h1, h2⟩ := first_bad _ ((linesAux [] s).drop (k + 1)) _ hD hb
    rw [← hsplit] at h1 h2
    rw [List.length_take, Nat.min_eq_left (by omega)] at h2
    unfold LinesRead linesOf lineNo lineErr
    simp only [h1, h2, Bool.false_eq_true, if_false]
    exact ⟨none, 0, rfl, .inl rfl⟩
theorem refLinesEnd_read {B : Nat} {s : List UInt8} {e : Ending} {w' : World} (h : RefLinesEnd B s e w') : LinesRead s e w' := by
  rcases h with ⟨hg, v, rfl, hG⟩ | ⟨D, x, E, hL, hD, hx, rfl⟩
  · have ha : (linesAux [] s).all goodLine = true := List.all_eq_true.2 hg
    obtain ⟨a, c, rfl, hr⟩ := refRows_read hG
    unfold LinesRead linesOf lineNo lineErr
    simp only [ha, if_true]
    exact ⟨a, c, rfl, hr⟩
  · obtain ⟨h1, h2⟩ := first_bad D E x hD hx
    rw [← hL] at h1 h2
    unfold LinesRead linesOf lineNo lineErr
    simp only [h1, h2, Bool.false_eq_true, if_false]
    exact ⟨none, 0, rfl, .inl rfl⟩
theorem linesRead_any (s : List UInt8) (hlen : s.length ≤ 4294967280) (w : World) (hr : Ready w) :
    Calls Tryd.prog 16 #[.string (strL s)] w fun e w' => LinesRead s e w' ∧ Below w.heap.size w w' :=
  (lines_any s hlen w hr).mono fun _ _ ⟨h, hb⟩ => ⟨linesEnd_read h, hb⟩
theorem refLinesRead_any (s : List UInt8) (hlen : s.length ≤ 4294967280) (w : World) :
    Calls Tryd.prog 17 #[.string (strL s)] w fun e w' => LinesRead s e w' ∧ Below w.heap.size w w' :=
  (refLines_any s hlen w).mono fun _ _ ⟨h, hb⟩ => ⟨refLinesEnd_read h, hb⟩
end Go.Proofs.YtdlebjogbhgheaaDoor.texts
