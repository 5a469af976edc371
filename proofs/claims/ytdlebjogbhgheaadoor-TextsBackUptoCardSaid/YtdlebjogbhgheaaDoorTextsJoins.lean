/- The text of lists of words, and the words of a text's lines: there and back. No condition. -/
import Derived.Test.YtdlebjogbhgheaaDoorTextsSplit
namespace Go.Proofs.YtdlebjogbhgheaaDoor.texts
open Go.Lib
set_option linter.unusedVariables false

/-- the first n words, parted by spaces -/
def wordsTo (ws : List (List UInt8)) : Nat → List UInt8
  | 0 => []
  | k + 1 => wordsTo ws k ++ (if k = 0 then [] else [32]) ++ ws.getD k []
/-- a line's text -/
def rowText (ws : List (List UInt8)) : List UInt8 := wordsTo ws ws.length ++ [10]
/-- the text of the first n lines -/
def joinTo (wss : List (List (List UInt8))) : Nat → List UInt8
  | 0 => []
  | k + 1 => joinTo wss k ++ rowText (wss.getD k [])
def joinText (wss : List (List (List UInt8))) : List UInt8 := joinTo wss wss.length
/-- words that are no line's -/
def badRow (ws : List (List UInt8)) : Bool := ws.isEmpty || ws.any noWord

theorem wordsTo_cons (w : List UInt8) (ws : List (List UInt8)) : ∀ n, wordsTo (w :: ws) (n + 1) = w ++ (if n = 0 then [] else 32 :: wordsTo ws n)
  | 0 => by simp [wordsTo]
  | n + 1 => by
    rw [wordsTo, wordsTo_cons w ws n]
    simp only [Nat.succ_ne_zero, if_false, List.getD_cons_succ]
    rw [wordsTo]
    by_cases h : n = 0 <;> simp [h, wordsTo]
theorem joinTo_cons (ws : List (List UInt8)) (wss : List (List (List UInt8))) : ∀ n, joinTo (ws :: wss) (n + 1) = rowText ws ++ joinTo wss n
  | 0 => by simp [joinTo]
  | n + 1 => by
    rw [joinTo, joinTo_cons ws wss n]
    simp only [List.getD_cons_succ]
    rw [joinTo, List.append_assoc]
theorem joinText_cons (ws : List (List UInt8)) (wss : List (List (List UInt8))) : joinText (ws :: wss) = rowText ws ++ joinText wss := joinTo_cons ws wss _
theorem segs_app (c : UInt8) (m : List UInt8) : ∀ (l acc : List UInt8), segs c acc (l ++ c :: m) = segs c acc l ++ segs c [] m
  | [], acc => by simp [segs]
  | b :: l, acc => by
    by_cases h : b = c
    · simp only [List.cons_append, segs, h, if_true, segs_app c m l [], List.cons_append]
    · simp only [List.cons_append, segs, h, if_false, segs_app c m l (acc ++ [b])]
theorem segs_ne (c : UInt8) : ∀ (l acc : List UInt8), segs c acc l ≠ []
  | [], acc => by simp [segs]
  | b :: l, acc => by
    unfold segs
    split
    · simp
    · exact segs_ne c l _
theorem segs_free (c : UInt8) : ∀ (l acc : List UInt8), (∀ b ∈ l, b ≠ c) → segs c acc l = [acc ++ l]
  | [], acc, _ => by simp [segs]
  | b :: l, acc, h => by
    rw [segs, if_neg (h b (by simp)), segs_free c l _ (fun x hx => h x (by simp [hx]))]; simp
theorem word_byte {x : List UInt8} (h : noWord x = false) : ∀ b ∈ x, b ≠ 32 ∧ b ≠ 10 := by
  intro b hb
  have h1 : x.any oddByte = false := by unfold noWord at h; rw [Bool.or_eq_false_iff] at h; exact h.2
  have h2 := List.any_eq_false.1 h1 b hb
  constructor <;> (rintro rfl; exact h2 (by decide))
theorem good_at {ws : List (List UInt8)} (h : ws.any noWord = false) {k : Nat} (hk : k < ws.length) : noWord (ws.getD k []) = false := by
  have := List.any_eq_false.1 h ws[k] (List.getElem_mem hk)
  rw [List.getD_eq_getElem?_getD, List.getElem?_eq_getElem hk]
  simpa using this
theorem wordsTo_byte {ws : List (List UInt8)} (h : ws.any noWord = false) : ∀ n, n ≤ ws.length → ∀ b ∈ wordsTo ws n, b ≠ 10
  | 0, _, b, hb => by simp [wordsTo] at hb
  | n + 1, hn, b, hb => by
    rw [wordsTo] at hb
    rcases List.mem_append.1 hb with hb | hb
    · rcases List.mem_append.1 hb with hb | hb
      · exact wordsTo_byte h n (by omega) b hb
      · split at hb
        · simp at hb
        · obtain rfl : b = 32 := by simpa using hb
          decide
    · exact (word_byte (good_at h (by omega)) b hb).2
theorem segs_words {ws : List (List UInt8)} (h : ws.any noWord = false) : ∀ n, n < ws.length → segs 32 [] (wordsTo ws (n + 1)) = ws.take (n + 1)
  | 0, hn => by
    have h0 := fun b hb => (word_byte (good_at h hn) b hb).1
    cases ws with
    | nil => simp at hn
    | cons w ws =>
      simp only [List.getD_cons_zero] at h0
      rw [wordsTo_cons]
      simp [segs_free 32 w [] h0]
  | n + 1, hn => by
    have h0 := fun b hb => (word_byte (good_at h hn) b hb).1
    rw [wordsTo, if_neg (by omega), List.append_assoc, List.singleton_append, segs_app, segs_words h n (by omega), segs_free 32 _ [] h0, List.take_add_one (i := n + 1), List.getD_eq_getElem?_getD, List.getElem?_eq_getElem hn]
    rfl
theorem words_segs : ∀ (l acc : List UInt8), wordsTo (segs 32 acc l) (segs 32 acc l).length = acc ++ l
  | [], acc => by simp [segs, wordsTo]
  | b :: l, acc => by
    by_cases h : b = 32
    · subst h
      rw [segs, if_pos rfl, List.length_cons, wordsTo_cons, words_segs l [], if_neg (by have := List.length_pos_iff.2 (segs_ne 32 l []); omega)]
      rfl
    · rw [segs, if_neg h, words_segs l (acc ++ [b])]; simp
theorem ends_ten {line : List UInt8} (h : hasSuffix line [10] = true) : line = trimSuffix line [10] ++ [10] := by
  obtain ⟨t, ht⟩ : [10] <:+ line := List.isSuffixOf_iff_suffix.1 h
  subst ht
  unfold trimSuffix
  rw [if_pos h]; simp
theorem trim_ten (t : List UInt8) : hasSuffix (t ++ [10]) [10] = true ∧ trimSuffix (t ++ [10]) [10] = t := by
  have h : hasSuffix (t ++ [10]) [10] = true := List.isSuffixOf_iff_suffix.2 ⟨t, rfl⟩
  refine ⟨h, ?_⟩
  unfold trimSuffix
  rw [if_pos h]; simp
theorem row_words {line : List UInt8} (h : goodLine line = true) : rowText (wordsOf line) = line := by
  have h1 : hasSuffix line [10] = true := by unfold goodLine at h; rw [Bool.and_eq_true] at h; exact h.1
  unfold rowText wordsOf
  rw [words_segs, List.nil_append]
  exact (ends_ten h1).symm
theorem words_row {ws : List (List UInt8)} (h : badRow ws = false) : wordsOf (rowText ws) = ws ∧ goodLine (rowText ws) = true := by
  unfold badRow at h
  rw [Bool.or_eq_false_iff] at h
  obtain ⟨h1, h2⟩ := h
  have hpos : 0 < ws.length := by cases ws with | nil => simp at h1 | cons _ _ => simp
  have e : wordsOf (rowText ws) = ws := by
    unfold wordsOf rowText
    rw [(trim_ten _).2]
    have := segs_words h2 (ws.length - 1) (by omega)
    rw [show ws.length - 1 + 1 = ws.length from by omega, List.take_length] at this
    exact this
  refine ⟨e, ?_⟩
  unfold goodLine
  rw [e, h2]
  unfold rowText
  rw [(trim_ten _).1]; rfl
theorem good_row {line : List UInt8} (h : goodLine line = true) : badRow (wordsOf line) = false := by
  unfold goodLine at h
  rw [Bool.and_eq_true] at h
  unfold badRow
  rw [Bool.or_eq_false_iff]
  refine ⟨?_, by simpa using h.2⟩
  have := segs_ne 32 (trimSuffix line [10]) []
  unfold wordsOf
  cases hs : segs 32 [] (trimSuffix line [10]) with
  | nil => exact absurd hs this
  | cons _ _ => rfl
theorem lines_cut (m : List UInt8) : ∀ (l acc : List UInt8), (∀ b ∈ l, b ≠ 10) → linesAux acc (l ++ 10 :: m) = (acc ++ l ++ [10]) :: linesAux [] m
  | [], acc, _ => by simp [linesAux]
  | b :: l, acc, h => by
    rw [List.cons_append, linesAux, if_neg (h b (by simp)), lines_cut m l _ (fun x hx => h x (by simp [hx]))]; simp
theorem lines_flat : ∀ (s acc : List UInt8), (linesAux acc s).flatten = acc ++ s
  | [], acc => by unfold linesAux; split <;> simp [*]
  | b :: l, acc => by
    unfold linesAux
    split
    · rw [List.flatten_cons, lines_flat l []]; simp
    · rw [lines_flat l (acc ++ [b])]; simp
theorem join_flat : ∀ L : List (List UInt8), (∀ x ∈ L, goodLine x = true) → joinText (L.map wordsOf) = L.flatten
  | [], _ => rfl
  | x :: L, h => by
    rw [List.map_cons, joinText_cons, row_words (h x (by simp)), join_flat L (fun y hy => h y (by simp [hy])), List.flatten_cons]
/-- the text of a text's words is the text -/
theorem join_lines {s : List UInt8} (h : ∀ x ∈ linesAux [] s, goodLine x = true) : joinText ((linesAux [] s).map wordsOf) = s := by
  rw [join_flat _ h, lines_flat]; rfl
/-- the lines of the text of rows that are lines -/
theorem lines_join : ∀ wss : List (List (List UInt8)), (∀ ws ∈ wss, badRow ws = false) → linesAux [] (joinText wss) = wss.map rowText
  | [], _ => by simp [joinText, joinTo, linesAux]
  | ws :: wss, h => by
    have h0 := h ws (by simp)
    unfold badRow at h0
    rw [Bool.or_eq_false_iff] at h0
    rw [joinText_cons, show rowText ws ++ joinText wss = wordsTo ws ws.length ++ 10 :: joinText wss from by unfold rowText; simp,
      lines_cut _ _ _ (wordsTo_byte h0.2 _ (Nat.le_refl _)), lines_join wss (fun x hx => h x (by simp [hx])), List.map_cons]
    rfl
theorem rows_join {wss : List (List (List UInt8))} (h : ∀ ws ∈ wss, badRow ws = false) : (linesAux [] (joinText wss)).map wordsOf = wss ∧ ∀ x ∈ linesAux [] (joinText wss), goodLine x = true := by
  rw [lines_join wss h]
  constructor
  · rw [List.map_map]
    conv => rhs; rw [← List.map_id wss]
    exact List.map_congr_left fun ws hw => (words_row (h ws hw)).1
  · intro x hx
    obtain ⟨ws, hw, rfl⟩ := List.mem_map.1 hx
    exact (words_row (h ws hw)).2

/-- how much text rows make -/
def rowBulk (ws : List (List UInt8)) : Nat := (ws.map fun x => x.length + 1).sum
def rowsBulk (wss : List (List (List UInt8))) : Nat := (wss.map fun ws => rowBulk ws + 1).sum
theorem wordsTo_len : ∀ ws : List (List UInt8), (wordsTo ws ws.length).length ≤ rowBulk ws
  | [] => Nat.le_refl _
  | w :: ws => by
    have := wordsTo_len ws
    rw [List.length_cons, wordsTo_cons]
    unfold rowBulk at *
    simp only [List.map_cons, List.sum_cons, List.length_append]
    split
    · simp; omega
    · simp only [List.length_cons]; omega
theorem joinText_len : ∀ wss : List (List (List UInt8)), (joinText wss).length ≤ rowsBulk wss
  | [] => Nat.le_refl _
  | ws :: wss => by
    have h1 := joinText_len wss
    have h2 := wordsTo_len ws
    rw [joinText_cons]
    unfold rowsBulk rowText at *
    simp only [List.map_cons, List.sum_cons, List.length_append, List.length_cons, List.length_nil]
    omega
theorem wordsTo_mono (ws : List (List UInt8)) : ∀ {a b : Nat}, a ≤ b → (wordsTo ws a).length ≤ (wordsTo ws b).length := by
  intro a b h
  induction b with
  | zero => obtain rfl : a = 0 := by omega
            exact Nat.le_refl _
  | succ b ih =>
    by_cases e : a = b + 1
    · subst e; exact Nat.le_refl _
    · have := ih (by omega)
      rw [wordsTo]; simp only [List.length_append]; omega
theorem joinTo_mono (wss : List (List (List UInt8))) : ∀ {a b : Nat}, a ≤ b → (joinTo wss a).length ≤ (joinTo wss b).length := by
  intro a b h
  induction b with
  | zero => obtain rfl : a = 0 := by omega
            exact Nat.le_refl _
  | succ b ih =>
    by_cases e : a = b + 1
    · subst e; exact Nat.le_refl _
    · have := ih (by omega)
      rw [joinTo]; simp only [List.length_append]; omega
end Go.Proofs.YtdlebjogbhgheaaDoor.texts
