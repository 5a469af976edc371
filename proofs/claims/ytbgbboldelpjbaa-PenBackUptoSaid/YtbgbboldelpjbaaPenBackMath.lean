/- What was written is read: pure facts; an eye and a piece beside it. No condition. -/
import Derived.Test.YtbgbboldelpjbaaPenBoth
namespace Go.Proofs.Ytbgbboldelpjbaa.pen
open Go.RowKit Go.Proofs.Ytbgbboldelpjbaa.texts
set_option linter.unusedVariables false

theorem see_one (x : Nat) (r : List Nat) : eNum 1 ([x] ++ r, 0) = (x, (r, 0)) := by
  unfold eNum; rw [eNext_enc 1 [x] r rfl]; simp [folded_one]
theorem see_word (x : Nat) (h : x < 4294967296) (r : List Nat) : eNum 4 (wb x ++ r, 0) = (x, (r, 0)) := by
  unfold eNum; rw [eNext_enc 4 (wb x) r rfl]; simp [folded_wb x h]
theorem see_count (n : Int) (h0 : 0 ≤ n) (h2 : n ≤ 9223372036854775807) (r : List Nat) : eCount n (vb n.toNat ++ r, 0) = (n.toNat, (r, 0)) := by
  unfold eCount
  exact eVar_vb _ _ _ _ (by omega) (by omega) (by omega)
theorem see_int (n : Int) (h1 : -9223372036854775808 ≤ n) (h2 : n ≤ 9223372036854775807) (r : List Nat) : eInt (vb (zig n) ++ r, 0) = (n, (r, 0)) := by
  have hz := zig_lt n h1 h2
  unfold eInt
  rw [eVar_vb _ _ _ _ hz (by omega) (by omega), unzig_zig]
theorem see_text (s : List UInt8) (hs : s.length ≤ 9223372036854775807) (r : List Nat) : eText (s.length : Int) (vb s.length ++ nums s ++ r, 0) = (nums s, (r, 0)) := by
  have h := see_count (s.length : Int) (by omega) (by omega) (nums s ++ r)
  rw [Int.toNat_natCast] at h
  unfold eText
  rw [List.append_assoc, h]
  simp only []
  rw [eNext_enc s.length (nums s) r (nums_len s)]
  simp
theorem strOf_nums (s : List UInt8) : strOf (nums s) = strL s := by
  unfold strOf strOfNums nums strL
  rw [List.map_map, List.map_map]
  congr 2
  conv => rhs; rw [← List.map_id s]
  apply List.map_congr_left
  intro b _
  simp
theorem encs_drop {l : List Piece} {k : Nat} {p : Piece} (h : l[k]? = some p) : encs (l.drop k) = enc p ++ encs (l.drop (k + 1)) := by
  have hlt := (List.getElem?_eq_some_iff.1 h).1
  have he := (List.getElem?_eq_some_iff.1 h).2
  rw [List.drop_eq_getElem_cons hlt, encs_cons, he]

/-- an eye at x that stands at s, and the piece's cells in a block h beside it -/
def At (w : World) (x h : Nat) (s : Sight) (cs : List Value) (w1 : World) : Prop :=
  EyeAt 62 x s w1 ∧ w.heap.size ≤ x ∧ Below w.heap.size w w1 ∧ Block w1 h 28 cs ∧ h ≠ x
theorem At.saw {w w1 w2 : World} {x h : Nat} {s s' : Sight} {cs : List Value} {v : Value} {e : Ending} (k : At w x h s cs w1) (j : Saw 62 x v s' w1 e w2) : e = .returned v ∧ At w x h s' cs w2 := by
  obtain ⟨k1, k2, k3, k4, k5⟩ := k
  obtain ⟨j1, j2, j3⟩ := j
  exact ⟨j1, j2, k2, k3.trans (j3.below k3.size k2), k4.but j3 k4.lt k5, k5⟩
theorem At.drew {w w1 : World} {x h : Nat} {s : Sight} {cs : List Value} (k : At w x h s cs w1) : At w x h s cs w1.drew := by
  obtain ⟨k1, k2, k3, k4, k5⟩ := k
  exact ⟨k1.later (below_drewN (Below.refl _ _) 1), k2, below_drewN k3 1, k4, k5⟩
end Go.Proofs.Ytbgbboldelpjbaa.pen
