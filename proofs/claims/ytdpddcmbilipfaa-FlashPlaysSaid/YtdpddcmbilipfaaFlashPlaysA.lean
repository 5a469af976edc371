/- FlashPlays: whatever is done with a flash, each answer, and all that can be seen of it, is as the reference says. No condition. -/
import Derived.Test.YtdpddcmbilipfaaFlashPlay
import Derived.Test.YtdpddcmbilipfaaFlashGreat
import Derived.Test.YtdpddcmbilipfaaFlashStep
import Derived.Test.YtdpddcmbilipfaaFlashAwake
namespace Go.Proofs.Ytdpddcmbilipfaa.flashPlays
open Go.RowKit Go.Proofs.Ytdpddcmbilipfaa.flash Go.Proofs.Ytdpddcmbilipfaa.word
set_option linter.unusedVariables false

set_option maxHeartbeats 16000000 in
set_option maxRecDepth 20000 in
/-- where the awake function decides -/
theorem walk_awake (x y : Int) (a0 : Option Addr) (cap : Nat) (l : List FAct) (w : World) (ac : FActs w a0 l) (hcap : l.length ≤ maxLen) (h : bigL l = true ∨ (bigL l = false ∧ 16 < x ∧ x ≤ 512) ∨ (bigL l = false ∧ ¬ (16 < x ∧ x ≤ 512) ∧ 32 < y ∧ y ≤ 1024)) :
    Calls Try.prog 3 #[.agg #[.int .i64 x, .int .i64 y], .slice a0 l.length cap] w (Yes w) := by
  have hal : Below w.heap.size w (w.alloc (.cells #[.int .i64 x, .int .i64 y] 22)) := (Below.refl _ _).alloc (Nat.le_refl _) _
  have hgr := great_any a0 cap l _ (ac.below hal) hcap
  have hB := Block.new w 22 [.int .i64 x, .int .i64 y]
  have e0 := hB.cell 0
  have e1 := hB.cell 1
  have HAL := hid hal
  clear hB hal ac
  rcases h with h | ⟨h, h1, h2⟩ | ⟨h, h0, h1, h2⟩
  · rw [h] at hgr
    clear h
    go_enter Try.func3, Try.ntmps3
    go_wp2_with (first
      | (go_at_call 6; (with_reducible refine hgr.mono ?_); rintro e w1 ⟨rfl, m, rfl⟩)
      | (go_at_call 7; (with_reducible refine (awake_any _).mono ?_); rintro e w2 ⟨rfl, hb2⟩))
    go_ret
    exact ⟨rfl, (below_drewN HAL.out m).trans (hb2.mono HAL.out.size)⟩
  · rw [h] at hgr
    clear h
    go_enter Try.func3, Try.ntmps3
    go_wp2_with (first
      | (go_at_call 6; (with_reducible refine hgr.mono ?_); rintro e w1 ⟨rfl, m, rfl⟩)
      | (go_at_call 7; (with_reducible refine (awake_any _).mono ?_); rintro e w2 ⟨rfl, hb2⟩))
    go_ret
    exact ⟨rfl, (below_drewN HAL.out m).trans (hb2.mono HAL.out.size)⟩
  · rw [h] at hgr
    clear h
    by_cases h3 : 16 < x
    · have h4 : ¬ x ≤ 512 := fun h => h0 ⟨h3, h⟩
      clear h0
      go_enter Try.func3, Try.ntmps3
      go_wp2_with (first
        | (go_at_call 6; (with_reducible refine hgr.mono ?_); rintro e w1 ⟨rfl, m, rfl⟩)
        | (go_at_call 7; (with_reducible refine (awake_any _).mono ?_); rintro e w2 ⟨rfl, hb2⟩))
      go_ret
      exact ⟨rfl, (below_drewN HAL.out m).trans (hb2.mono HAL.out.size)⟩
    · clear h0
      go_enter Try.func3, Try.ntmps3
      go_wp2_with (first
        | (go_at_call 6; (with_reducible refine hgr.mono ?_); rintro e w1 ⟨rfl, m, rfl⟩)
        | (go_at_call 7; (with_reducible refine (awake_any _).mono ?_); rintro e w2 ⟨rfl, hb2⟩))
      go_ret
      exact ⟨rfl, (below_drewN HAL.out m).trans (hb2.mono HAL.out.size)⟩
set_option maxHeartbeats 16000000 in
set_option maxRecDepth 20000 in
/-- where there is no such flash -/
theorem walk_none (x y : Int) (a0 : Option Addr) (cap : Nat) (l : List FAct) (w : World) (ac : FActs w a0 l) (hcap : l.length ≤ maxLen) (h : bigL l = false) (h1 : ¬ (16 < x ∧ x ≤ 512)) (h2 : ¬ (32 < y ∧ y ≤ 1024)) (hbad : x < 1 ∨ 512 < x ∨ y < 1 ∨ 1024 < y) :
    Calls Try.prog 3 #[.agg #[.int .i64 x, .int .i64 y], .slice a0 l.length cap] w (Yes w) := by
  have hal : Below w.heap.size w (w.alloc (.cells #[.int .i64 x, .int .i64 y] 22)) := (Below.refl _ _).alloc (Nat.le_refl _) _
  have hgr := great_any a0 cap l _ (ac.below hal) hcap
  rw [h] at hgr
  have hB := Block.new w 22 [.int .i64 x, .int .i64 y]
  have e0 := hB.cell 0
  have e1 := hB.cell 1
  have HAL := hid hal
  have hn1 := fun w' => new_bad x y hbad w'
  have hn2 := fun w' => refNew_bad x y hbad w'
  have q1 : decide (16 < x) = false ∨ (decide (16 < x) = true ∧ decide (x ≤ 512) = false) := by
    by_cases h3 : 16 < x
    · exact .inr ⟨decide_eq_true h3, decide_eq_false fun h => h1 ⟨h3, h⟩⟩
    · exact .inl (decide_eq_false h3)
  have q2 : decide (32 < y) = false ∨ (decide (32 < y) = true ∧ decide (y ≤ 1024) = false) := by
    by_cases h3 : 32 < y
    · exact .inr ⟨decide_eq_true h3, decide_eq_false fun h => h2 ⟨h3, h⟩⟩
    · exact .inl (decide_eq_false h3)
  clear hB hal ac h h1 h2 hbad
  have Q1 := hid q1
  have Q2 := hid q2
  clear q1 q2
  rcases Q1.out with q1 | ⟨q1, q1'⟩ <;> rcases Q2.out with q2 | ⟨q2, q2'⟩
  all_goals
    have p1 := q1
    have p2 := q2
    simp only [decide_eq_true_eq, decide_eq_false_iff_not] at p1 p2
    try (have p1' := q1'; simp only [decide_eq_false_iff_not] at p1')
    try (have p2' := q2'; simp only [decide_eq_false_iff_not] at p2')
    clear q1 q2 Q1 Q2
    try clear q1'
    try clear q2'
    go_enter Try.func3, Try.ntmps3
    go_wp2_with (first
      | (go_at_call 6; (with_reducible refine hgr.mono ?_); rintro e w1 ⟨rfl, m, rfl⟩)
      | (go_at_call 8; (with_reducible refine (hn1 _).mono ?_); rintro e w1 ⟨rfl, m2, rfl⟩)
      | (go_at_call 9; (with_reducible refine (hn2 _).mono ?_); rintro e w1 ⟨rfl, m3, rfl⟩)
      | (go_at_call 7; (with_reducible refine (awake_any _).mono ?_); rintro e w2 ⟨rfl, hb2⟩))
    go_ret
    exact ⟨rfl, (below_drewN HAL.out _).trans (hb2.mono HAL.out.size)⟩
end Go.Proofs.Ytdpddcmbilipfaa.flashPlays
