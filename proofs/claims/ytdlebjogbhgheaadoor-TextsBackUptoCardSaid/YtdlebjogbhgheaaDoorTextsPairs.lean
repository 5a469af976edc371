/- The bytes whose text a string is, as lists. No condition. -/
import Derived.Test.YtdlebjogbhgheaaDoorTextsHex
import Derived.Lib.Bytealg
import Derived.Lib.IndexLaws
namespace Go.Proofs.YtdlebjogbhgheaaDoor.texts
open Go.Lib
set_option linter.unusedVariables false

/-- which digit c is; -1: none -/
def figVal (c : UInt8) : Int := indexByte figs c
theorem figVal_ge (c : UInt8) : -1 ≤ figVal c := indexByte_ge figs c
theorem figVal_lt (c : UInt8) : figVal c < 16 := by
  have h : ∀ (l : List UInt8), indexByte l c < l.length ∨ l = [] := by
    intro l
    induction l with
    | nil => exact .inr rfl
    | cons b l ih =>
      refine .inl ?_
      have hb := indexByte_ge l c
      unfold indexByte
      split
      · simp
      · split
        · simp; omega
        · rcases ih with ih | rfl
          · simp; omega
          · simp [indexByte] at *
  rcases h figs with h | h
  · exact h
  · cases h
theorem figVal_fig : ∀ k : Fin 16, figVal (fig k) = ((k : Nat) : Int) := by decide
/-- the byte of two digits -/
def pairOf (x y : UInt8) : UInt8 := UInt8.ofNat (16 * (figVal x).toNat + (figVal y).toNat)
def badPair (x y : UInt8) : Bool := decide (figVal x < 0) || decide (figVal y < 0)
/-- the bytes of a row of digits -/
def pairs : List UInt8 → Option (List UInt8)
  | [] => some []
  | [_] => none
  | x :: y :: l => if badPair x y then none else (pairs l).map (pairOf x y :: ·)
/-- the bytes whose text s is, and 0; or none, and 4 -/
def pairText (s : List UInt8) : List UInt8 × Int := match pairs s with | some b => (b, 0) | none => ([], 4)
def unhexText (s : List UInt8) : List UInt8 × Int := if s = [45] then ([], 0) else if s = [] then ([], 4) else pairText s
theorem pairText_some {s b : List UInt8} (h : pairs s = some b) : pairText s = (b, 0) := by rw [pairText, h]
theorem pairText_none {s : List UInt8} (h : pairs s = none) : pairText s = ([], 4) := by rw [pairText, h]

theorem pairs_app : ∀ (a r b : List UInt8), pairs a = some b → pairs (a ++ r) = (pairs r).map (b ++ ·)
  | [], r, b, h => by simp [pairs] at h; subst h; simp
  | [x], r, b, h => by simp [pairs] at h
  | x :: y :: a, r, b, h => by
    unfold pairs at h
    split at h
    · cases h
    · rename_i hb
      cases hp : pairs a with
      | none => rw [hp] at h; simp at h
      | some b' =>
        rw [hp] at h
        simp at h
        subst h
        simp only [List.cons_append, pairs, hb, if_false, Bool.false_eq_true]
        rw [pairs_app a r b' hp]
        cases pairs r <;> simp
theorem pairs_odd : ∀ (l : List UInt8), l.length % 2 = 1 → pairs l = none
  | [], h => by simp at h
  | [x], h => rfl
  | x :: y :: l, h => by
    unfold pairs
    rw [pairs_odd l (by simp at h; omega)]
    split <;> rfl
theorem pairs_hex : ∀ l : List UInt8, pairs (hexOf l) = some l
  | [] => rfl
  | b :: l => by
    have hb := b.toNat_lt
    have h1 := figVal_fig ⟨b.toNat / 16, by omega⟩
    have h2 := figVal_fig ⟨b.toNat % 16, by omega⟩
    simp only at h1 h2
    have h3 : badPair (fig (b.toNat / 16)) (fig (b.toNat % 16)) = false := by
      unfold badPair; rw [h1, h2]; simp; omega
    have h4 : pairOf (fig (b.toNat / 16)) (fig (b.toNat % 16)) = b := by
      unfold pairOf
      rw [h1, h2, Int.toNat_natCast, Int.toNat_natCast, show 16 * (b.toNat / 16) + b.toNat % 16 = b.toNat from by omega]
      simp
    simp only [hexOf, pairs, h3, Bool.false_eq_true, if_false, pairs_hex l, h4]
    rfl
theorem unhex_hex (l : List UInt8) : unhexText (hexText l) = (l, 0) := by
  unfold hexText unhexText
  by_cases h : l = []
  · subst h; rfl
  · rw [if_neg h]
    have hl := hexOf_length l
    have h0 : 0 < l.length := List.length_pos_iff.2 h
    rw [if_neg (by intro e; rw [e] at hl; simp at hl; omega), if_neg (by intro e; rw [e] at hl; simp at hl; omega), pairText_some (pairs_hex l)]
/-- two bytes more -/
theorem pairs_next (s : List UInt8) (k : Nat) (h : 2 * k + 1 < s.length) {b : List UInt8} (hb : pairs (s.take (2 * k)) = some b) :
    (badPair (s.getD (2 * k) 0) (s.getD (2 * k + 1) 0) = true → pairs s = none) ∧
    (badPair (s.getD (2 * k) 0) (s.getD (2 * k + 1) 0) = false → pairs (s.take (2 * (k + 1))) = some (b ++ [pairOf (s.getD (2 * k) 0) (s.getD (2 * k + 1) 0)])) := by
  have e1 : s.drop (2 * k) = s.getD (2 * k) 0 :: s.getD (2 * k + 1) 0 :: s.drop (2 * k + 1 + 1) := by
    rw [List.drop_eq_getElem_cons (by omega), List.drop_eq_getElem_cons (by omega)]
    simp [List.getD_eq_getElem?_getD, List.getElem?_eq_getElem (show 2 * k < s.length by omega), List.getElem?_eq_getElem h]
  refine ⟨fun hbad => ?_, fun hgood => ?_⟩
  · have := pairs_app (s.take (2 * k)) (s.drop (2 * k)) b hb
    rw [List.take_append_drop, e1] at this
    rw [this]
    generalize s.getD (2 * k) 0 = x at *
    generalize s.getD (2 * k + 1) 0 = y at *
    simp [pairs, hbad]
  · rw [show 2 * (k + 1) = 2 * k + 1 + 1 from by omega, take_next s (2 * k + 1) h, take_next s (2 * k) (by omega), List.append_assoc, pairs_app _ _ b hb]
    generalize s.getD (2 * k) 0 = x at *
    generalize s.getD (2 * k + 1) 0 = y at *
    simp [pairs, hgood]
end Go.Proofs.YtdlebjogbhgheaaDoor.texts
