/- Lines and words of a text as lists of bytes. No condition. -/
import Derived.Test.YtdlebjogbhgheaaDoorTextsWord
import Derived.Lib.IndexLaws
namespace Go.Proofs.YtdlebjogbhgheaaDoor.texts
open Go.Lib
set_option linter.unusedVariables false

/-- the pieces between the bytes c; acc: what has been read of the first -/
def segs (c : UInt8) (acc : List UInt8) : List UInt8 → List (List UInt8)
  | [] => [acc]
  | b :: l => if b = c then acc :: segs c [] l else segs c (acc ++ [b]) l
/-- the lines with their ends; acc: what has been read of the first -/
def linesAux (acc : List UInt8) : List UInt8 → List (List UInt8)
  | [] => if acc = [] then [] else [acc]
  | b :: l => if b = 10 then (acc ++ [b]) :: linesAux [] l else linesAux (acc ++ [b]) l

theorem index_cons_ne {b c : UInt8} (l : List UInt8) (h : b ≠ c) : indexByte (b :: l) c = if indexByte l c = -1 then -1 else indexByte l c + 1 := by
  simp [indexByte, h]
theorem index_cons_eq (c : UInt8) (l : List UInt8) : indexByte (c :: l) c = 0 := by simp [indexByte]
theorem segs_none (c : UInt8) : ∀ (l acc : List UInt8), indexByte l c = -1 → segs c acc l = [acc ++ l]
  | [], acc, _ => by simp [segs]
  | b :: l, acc, h => by
    by_cases hb : b = c
    · subst hb; rw [index_cons_eq] at h; omega
    · rw [index_cons_ne l hb] at h
      have h1 : indexByte l c = -1 := by have := indexByte_ge l c; split at h <;> omega
      rw [segs, if_neg hb, segs_none c l _ h1]; simp
theorem segs_some (c : UInt8) : ∀ (l acc : List UInt8) (i : Nat), indexByte l c = i → segs c acc l = (acc ++ l.take i) :: segs c [] (l.drop (i + 1))
  | [], acc, i, h => by simp [indexByte] at h
  | b :: l, acc, i, h => by
    by_cases hb : b = c
    · subst hb; rw [index_cons_eq] at h
      obtain rfl : i = 0 := by omega
      simp [segs]
    · rw [index_cons_ne l hb] at h
      have h1 := indexByte_ge l c
      split at h
      · omega
      · obtain ⟨j, rfl⟩ : ∃ j, i = j + 1 := ⟨i - 1, by omega⟩
        rw [segs, if_neg hb, segs_some c l _ j (by omega)]; simp
theorem lines_none : ∀ (l acc : List UInt8), indexByte l 10 = -1 → linesAux acc l = if acc ++ l = [] then [] else [acc ++ l]
  | [], acc, _ => by simp [linesAux]
  | b :: l, acc, h => by
    by_cases hb : b = 10
    · subst hb; rw [index_cons_eq] at h; omega
    · rw [index_cons_ne l hb] at h
      have h1 : indexByte l 10 = -1 := by have := indexByte_ge l 10; split at h <;> omega
      rw [linesAux, if_neg hb, lines_none l _ h1]; simp
theorem lines_some : ∀ (l acc : List UInt8) (i : Nat), indexByte l 10 = i → linesAux acc l = (acc ++ l.take (i + 1)) :: linesAux [] (l.drop (i + 1))
  | [], acc, i, h => by simp [indexByte] at h
  | b :: l, acc, i, h => by
    by_cases hb : b = 10
    · subst hb; rw [index_cons_eq] at h
      obtain rfl : i = 0 := by omega
      simp [linesAux]
    · rw [index_cons_ne l hb] at h
      have h1 := indexByte_ge l 10
      split at h
      · omega
      · obtain ⟨j, rfl⟩ : ∃ j, i = j + 1 := ⟨i - 1, by omega⟩
        rw [linesAux, if_neg hb, lines_some l _ j (by omega)]; simp
theorem index_lt : ∀ (l : List UInt8) (c : UInt8) (i : Nat), indexByte l c = i → i < l.length
  | [], c, i, h => by simp [indexByte] at h
  | b :: l, c, i, h => by
    by_cases hb : b = c
    · subst hb; rw [index_cons_eq] at h; simp; omega
    · rw [index_cons_ne l hb] at h
      have h1 := indexByte_ge l c
      split at h
      · omega
      · have := index_lt l c (i - 1) (by omega)
        simp; omega
end Go.Proofs.YtdlebjogbhgheaaDoor.texts
