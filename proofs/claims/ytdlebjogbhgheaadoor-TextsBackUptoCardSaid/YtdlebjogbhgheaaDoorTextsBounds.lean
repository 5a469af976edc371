/- What the laws on lines need of lists of words: lengths; there and back. No condition. -/
import Derived.Test.YtdlebjogbhgheaaDoorTextsProgJoin
namespace Go.Proofs.YtdlebjogbhgheaaDoor.texts
open Go.RowKit Go.Lib
set_option linter.unusedVariables false

theorem mem_sum {α : Type} (f : α → Nat) : ∀ (l : List α) (x : α), x ∈ l → f x ≤ (l.map f).sum
  | [], x, h => by cases h
  | y :: l, x, h => by
    rcases List.mem_cons.1 h with rfl | h
    · simp
    · have := mem_sum f l x h
      simp; omega
theorem len_sum {α : Type} (f : α → Nat) (hf : ∀ x, 1 ≤ f x) : ∀ l : List α, l.length ≤ (l.map f).sum
  | [] => Nat.zero_le _
  | y :: l => by have := len_sum f hf l; have := hf y; simp; omega
theorem getD_mem {α : Type} (l : List α) (d : α) (i : Nat) (h : i < l.length) : l.getD i d ∈ l := by
  rw [List.getD_eq_getElem?_getD, List.getElem?_eq_getElem h]; exact List.getElem_mem h
/-- rows of at most N bytes in all -/
structure Fine (N : Nat) (wss : List (List (List UInt8))) : Prop where
  rows : wss.length ≤ N
  words : ∀ i, i < wss.length → (wss.getD i []).length ≤ N
  bytes : ∀ i, i < wss.length → ∀ j, j < (wss.getD i []).length → ((wss.getD i []).getD j []).length ≤ N
  text : (joinText wss).length ≤ N
theorem fine_of (wss : List (List (List UInt8))) {N : Nat} (h : rowsBulk wss ≤ N) : Fine N wss := by
  have hrow : ∀ i, i < wss.length → rowBulk (wss.getD i []) ≤ N := fun i hi => by
    have := mem_sum (fun ws => rowBulk ws + 1) wss _ (getD_mem wss [] i hi)
    unfold rowsBulk at h
    omega
  refine ⟨Nat.le_trans (len_sum _ (fun x => by omega) wss) h, fun i hi => Nat.le_trans (len_sum _ (fun x => by omega) _) (hrow i hi), fun i hi j hj => ?_, Nat.le_trans (joinText_len wss) h⟩
  have := mem_sum (fun x : List UInt8 => x.length + 1) (wss.getD i []) _ (getD_mem _ [] j hj)
  have := hrow i hi
  unfold rowBulk at this
  omega
theorem segs_count (c : UInt8) : ∀ (l acc : List UInt8), (segs c acc l).length ≤ l.length + 1
  | [], acc => by simp [segs]
  | b :: l, acc => by
    unfold segs
    split
    · have := segs_count c l []; simp; omega
    · have := segs_count c l (acc ++ [b]); simp; omega
theorem segs_long (c : UInt8) : ∀ (l acc : List UInt8), ∀ x ∈ segs c acc l, x.length ≤ acc.length + l.length
  | [], acc, x, h => by
    simp [segs] at h; subst h; simp
  | b :: l, acc, x, h => by
    unfold segs at h
    split at h
    · rcases List.mem_cons.1 h with rfl | h
      · omega
      · have := segs_long c l [] x h
        simp at this ⊢; omega
    · have := segs_long c l (acc ++ [b]) x h
      simp at this ⊢; omega
theorem lines_long : ∀ (s acc : List UInt8), ∀ x ∈ linesAux acc s, x.length ≤ acc.length + s.length
  | [], acc, x, h => by
    unfold linesAux at h
    split at h
    · cases h
    · rw [List.mem_singleton] at h; subst h; simp
  | b :: l, acc, x, h => by
    unfold linesAux at h
    split at h
    · rcases List.mem_cons.1 h with rfl | h
      · simp
      · have := lines_long l [] x h
        simp at this ⊢; omega
    · have := lines_long l (acc ++ [b]) x h
      simp at this ⊢; omega
theorem linesOf_good {s : List UInt8} (h : (linesAux [] s).all goodLine = true) : linesOf s = (linesAux [] s).map wordsOf ∧ lineNo s = 0 ∧ lineErr s = 0 ∧ joinText (linesOf s) = s ∧ (∀ ws ∈ linesOf s, badRow ws = false) := by
  have e : linesOf s = (linesAux [] s).map wordsOf := by unfold linesOf; rw [if_pos h]
  have hg := List.all_eq_true.1 h
  refine ⟨e, by unfold lineNo; rw [if_pos h], by unfold lineErr; rw [if_pos h], by rw [e]; exact join_lines hg, ?_⟩
  rw [e]
  intro ws hw
  obtain ⟨x, hx, rfl⟩ := List.mem_map.1 hw
  exact good_row (hg x hx)
theorem lines_fine (s : List UInt8) : Fine (s.length + 1) (linesOf s) := by
  by_cases h : (linesAux [] s).all goodLine = true
  · obtain ⟨e, _, _, ht, _⟩ := linesOf_good h
    have hrow : ∀ ws ∈ linesOf s, ws.length ≤ s.length + 1 ∧ ∀ x ∈ ws, x.length ≤ s.length := by
      rw [e]
      intro ws hw
      obtain ⟨x, hx, rfl⟩ := List.mem_map.1 hw
      have h1 := lines_long s [] x hx
      have h2 := trimSuffix_le x [10]
      have h3 := segs_count 32 (trimSuffix x [10]) []
      have h4 := segs_long 32 (trimSuffix x [10]) []
      unfold wordsOf
      simp at h1 h4
      exact ⟨by omega, fun y hy => Nat.le_trans (h4 y hy) (Nat.le_trans h2 h1)⟩
    refine ⟨?_, fun i hi => (hrow _ (getD_mem _ [] i hi)).1, fun i hi j hj => Nat.le_trans ((hrow _ (getD_mem _ [] i hi)).2 _ (getD_mem _ [] j hj)) (Nat.le_succ _), by rw [ht]; omega⟩
    rw [e, List.length_map]
    have := lines_count s []
    simp at this; omega
  · have e : linesOf s = [] := by unfold linesOf; rw [if_neg h]
    rw [e]
    exact ⟨Nat.zero_le _, fun i hi => by simp at hi, fun i hi => by simp at hi, Nat.zero_le _⟩
theorem back_text (s : List UInt8) : (lineErr s = 0 ∧ joinOut (linesOf s) = s ∧ joinErr (linesOf s) = 0) ∨ lineErr s = 4 := by
  by_cases h : (linesAux [] s).all goodLine = true
  · obtain ⟨e, _, h2, ht, hb⟩ := linesOf_good h
    obtain ⟨h3, h4⟩ := join_good fun j hj => hb _ (getD_mem _ [] j hj)
    exact .inl ⟨h2, h3.trans ht, h4⟩
  · right; unfold lineErr; rw [if_neg h]
theorem back_rows (wss : List (List (List UInt8))) : (joinErr wss = 0 ∧ joinOut wss = joinText wss ∧ linesOf (joinText wss) = wss ∧ lineNo (joinText wss) = 0 ∧ lineErr (joinText wss) = 0) ∨ joinErr wss = 4 := by
  by_cases h : wss.any badRow = true
  · right; unfold joinErr; rw [if_pos h]
  · have hb : ∀ ws ∈ wss, badRow ws = false := fun ws hw => by
      have := List.any_eq_false.1 (by simpa using h) ws hw
      simpa using this
    obtain ⟨h3, h4⟩ := join_good fun j hj => hb _ (getD_mem wss [] j hj)
    obtain ⟨h5, h6⟩ := rows_join hb
    obtain ⟨e, h7, h8, _, _⟩ := linesOf_good (List.all_eq_true.2 h6)
    exact .inl ⟨h4, h3, e.trans h5, h7, h8⟩
end Go.Proofs.YtdlebjogbhgheaaDoor.texts
