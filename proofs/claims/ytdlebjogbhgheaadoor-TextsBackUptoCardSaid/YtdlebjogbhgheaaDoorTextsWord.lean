/- Contract of the predicate on words, for every string. No condition. -/
import Derived.Test.YtdlebjogbhgheaaDoorTextsHex
import Derived.Laws.RangeAny
namespace Go.Proofs.YtdlebjogbhgheaaDoor.texts
open Go.RowKit Go.Lib Go.Shelf
set_option linter.unusedVariables false

/-- a byte that no word has -/
def oddByte (b : UInt8) : Bool := decide (b.toNat < 33) || decide (126 < b.toNat)
/-- no word -/
def noWord (l : List UInt8) : Bool := l.isEmpty || l.any oddByte
def oddRune (x : Nat) : Bool := decide (x < 33) || decide (126 < x)

theorem idx_odd (s : ByteArray) : ∀ (f pos : Nat), s.size ≤ pos + f → decide (0 ≤ idxFuncFrom oddRune true s f pos) = (s.data.toList.drop pos).any oddByte
  | 0, pos, h => by
    rw [idxFuncFrom_end _ _ _ _ _ (by omega), List.drop_eq_nil_of_le (by rw [← Lib.size_eq]; omega)]
    rfl
  | f + 1, pos, h => by
    by_cases hp : pos < s.size
    · have hd : s.data.toList.drop pos = s[pos] :: s.data.toList.drop (pos + 1) := by
        rw [List.drop_eq_getElem_cons (by rw [← Lib.size_eq]; exact hp)]
        rfl
      rw [hd, List.any_cons]
      simp only [idxFuncFrom, hp, if_true]
      by_cases hb : (s[pos]).toNat < 128
      · rw [decode_ascii s pos hp hb]
        by_cases ho : oddRune (s[pos]).toNat = true
        · have : oddByte s[pos] = true := ho
          rw [if_pos (by simpa using ho), this, Bool.true_or]
          exact decide_eq_true (by omega)
        · have : oddByte s[pos] = false := by simpa using (show ¬ oddByte s[pos] = true from ho)
          rw [if_neg (by simpa using ho), this, Bool.false_or]
          exact idx_odd s f (pos + 1) (by omega)
      · obtain ⟨h1, h2⟩ := decode_high s pos hp (by omega)
        have e1 : oddRune (Utf8.decode s pos).1 = true := by simp [oddRune]; omega
        have e2 : oddByte s[pos] = true := by simp [oddByte]; omega
        rw [if_pos (by simpa using e1), e2, Bool.true_or]
        exact decide_eq_true (by omega)
    · rw [idxFuncFrom_end _ _ _ _ _ hp, List.drop_eq_nil_of_le (by rw [← Lib.size_eq]; omega)]
      rfl

theorem oddRune_at (x : Nat) (w : World) : Calls Tryd.prog 49 #[.int .i32 (x : Int)] w fun e w' => e = .returned (.bool (oddRune x)) ∧ ∃ q, w' = w.drewN q := by
  have e : oddRune x = (decide ((x : Int) < 33) || decide (126 < (x : Int))) := by
    unfold oddRune
    congr 1 <;> exact decide_eq_decide.2 (by omega)
  rw [e]
  clear e
  go_enter Tryd.func49, Tryd.ntmps49
  go_wp2
  · go_ret; exact ⟨rfl, 0, rfl⟩
  · go_ret; exact ⟨ret_bool (by simp [*]), 0, rfl⟩

theorem invalid_any (l : List UInt8) (w : World) :
    Calls Tryd.prog 34 #[.string (strL l)] w fun e w' => e = .returned (.bool (noWord l)) ∧ Below w.heap.size w w' := by
  have est := strL_toList
  have esz := strL_size
  by_cases h0 : l = []
  · subst h0
    go_enter Tryd.func34, Tryd.ntmps34
    go_wp2
    go_ret
    exact ⟨rfl, Below.refl _ _⟩
  · have hq : (l == ([] : List UInt8)) = false := by rw [beq_eq_false_iff_ne]; exact h0
    have hp : PredAtRunes Tryd.prog 49 #[] oddRune w := fun W x _ _ => oddRune_at x W
    have c := Tryd.strings_ContainsFunc_runes 49 #[] (enters_of Tryd.func49 (by kernel_rfl) rfl) oddRune (strL l) w hp
    have e1 : noWord l = decide (0 ≤ Lib.idxFunc oddRune true (strL l)) := by
      have := idx_odd (strL l) (strL l).size 0 (by omega)
      rw [strL_data, List.drop_zero] at this
      rw [show Lib.idxFunc oddRune true (strL l) = idxFuncFrom oddRune true (strL l) (strL l).size 0 from rfl, this, noWord]
      simp [h0]
    rw [← e1] at c
    obtain ⟨V, hV⟩ : ∃ V, Hid (noWord l = V) := ⟨_, rfl⟩
    rw [hV.out] at c ⊢
    clear hp e1 h0
    go_enter Tryd.func34, Tryd.ntmps34
    go_wp2_with (go_at_call 48; refine c.mono ?_; rintro e w' ⟨rfl, hb⟩)
    go_ret
    exact ⟨rfl, hb⟩
end Go.Proofs.YtdlebjogbhgheaaDoor.texts
