/- What the laws ask at any rate comes. No condition. -/
import Derived.Test.YtbgbboldelpjbaaPenWrote
namespace Go.Proofs.Ytbgbboldelpjbaa.pen
open Go.RowKit Go.Proofs.Ytbgbboldelpjbaa.texts
set_option linter.unusedVariables false

theorem vb_300 : vb 300 = [172, 2] := by rw [vb_big (by omega), vb_small (by omega)]
theorem vb_m1 : vb (zig (-1)) = [1] := by rw [show zig (-1) = 1 from rfl, vb_small (by omega)]
theorem turns_below {B b : Nat} {v v' : Value} {xs : List Nat} {bad : Int} {w w1 w' : World} (h : PenAt B b v xs bad w1) (hb : Below B w w1) (hB : B ≤ w1.heap.size) (hbb : B ≤ b) (ht : Turns w1 b v w' v') : Below B w w' :=
  hb.trans (ht.below hB hbb fun g hg => (h.lo g hg).1)
theorem size_below {w w1 : World} (hb : Below w.heap.size w w1) : w.heap.size ≤ w1.heap.size := hb.size

set_option maxRecDepth 8000 in
theorem awake_any (w : World) : Calls Try.prog 11 #[] w (Yes w) := by
  have c0 := new_any w
  have cC : Hid (∀ w1, PenAt w.heap.size w.heap.size (.slice none 0 0) [] 0 w1 → Below w.heap.size w w1 → Calls Try.prog 28 #[.pointer (some ⟨w.heap.size, 0, none⟩), .int .i64 300] w1 fun e w' => e = .returned (.tuple #[]) ∧ ∃ v', PenAt w.heap.size w.heap.size v' [172, 2] 0 w' ∧ Below w.heap.size w w') := fun w1 hp hb => by
    have := count_any w.heap.size w.heap.size _ [] 0 w1 hp hb.size 300 (by omega) (by simp)
    rw [vb_300] at this
    exact this.mono fun e w' ⟨he, v', h1, h2⟩ => ⟨he, v', h1, turns_below hp hb hb.size (Nat.le_refl _) h2⟩
  have cM : Hid (∀ w1 v, PenAt w.heap.size w.heap.size v [172, 2] 0 w1 → Below w.heap.size w w1 → Calls Try.prog 29 #[.pointer (some ⟨w.heap.size, 0, none⟩), .int .i64 (-1)] w1 fun e w' => e = .returned (.tuple #[]) ∧ ∃ v', PenAt w.heap.size w.heap.size v' [172, 2, 1] 0 w' ∧ Below w.heap.size w w') := fun w1 v hp hb => by
    have := num_any w.heap.size w.heap.size v [172, 2] 0 w1 hp hb.size (-1) (by omega) (by omega) (by simp)
    rw [vb_m1] at this
    exact this.mono fun e w' ⟨he, v', h1, h2⟩ => ⟨he, v', h1, turns_below hp hb hb.size (Nat.le_refl _) h2⟩
  have cD : Hid (∀ w1 v, PenAt w.heap.size w.heap.size v [172, 2, 1] 0 w1 → Below w.heap.size w w1 → Calls Try.prog 10 #[.pointer (some ⟨w.heap.size, 0, none⟩)] w1 fun e w' => ∃ a c, e = .returned (.tuple #[.slice a 3 c, .int .i64 0]) ∧ Reads .u8 w' a 3 [172, 2, 1] ∧ Below w.heap.size w w') := fun w1 v hp hb => by
    refine (done_any w.heap.size w.heap.size v [172, 2, 1] w1 hp (by simp)).mono ?_
    rintro e w' ⟨u, rfl, ho, h2⟩
    obtain ⟨a, c, rfl, _⟩ := ownsRow_slice ho
    exact ⟨a, c, rfl, Reads.own ho, hb.trans (h2.mono hb.size)⟩
  have cO : Hid (∀ w1, Below w.heap.size w w1 → Calls Try.prog 12 #[.slice (some ⟨w1.heap.size, 0, none⟩) 3 3] (w1.alloc (.cells #[.int .u8 172, .int .u8 2, .int .u8 2] 5)) fun e w' => ∃ b, e = .returned (.pointer (some ⟨b, 0, none⟩)) ∧ w.heap.size ≤ b ∧ EyeAt 62 b ([172, 2, 2], 0) w' ∧ Below w1.heap.size w1 w') := fun w1 hb => by
    have hb1 : Below w1.heap.size w1 (w1.alloc (.cells #[.int .u8 172, .int .u8 2, .int .u8 2] 5)) := (Below.refl _ _).alloc (Nat.le_refl _) _
    refine (of_any (some ⟨w1.heap.size, 0, none⟩) 3 [172, 2, 2] _ (Reads.new w1 5 [172, 2, 2]) (by decide) (by simp)).mono ?_
    rintro e w' ⟨b, rfl, h1, h2, h3⟩
    exact ⟨b, rfl, Nat.le_trans hb.size (Nat.le_trans hb1.size h1), h2, hb1.trans (h3.mono hb1.size)⟩
  have cX : Hid (∀ w1 b, w.heap.size ≤ b → EyeAt 62 b ([172, 2, 2], 0) w1 → Below w.heap.size w w1 → Calls Try.prog 15 #[.pointer (some ⟨b, 0, none⟩), .int .i64 300] w1 fun e w' => e = .returned (.int .i64 300) ∧ EyeAt 62 b ([2], 0) w' ∧ Below w.heap.size w w') := fun w1 b hbb hE hb => by
    refine (eyeCount_any b ([172, 2, 2], 0) w1 hE 300 (by omega) (by omega)).mono ?_
    rw [show eCount 300 ([172, 2, 2], 0) = (300, ([2], 0)) from by decide]
    rintro e w' ⟨rfl, h1, h2⟩
    exact ⟨rfl, h1, hb.trans (h2.below hb.size hbb)⟩
  have cY : Hid (∀ w1 b, w.heap.size ≤ b → EyeAt 62 b ([2], 0) w1 → Below w.heap.size w w1 → Calls Try.prog 17 #[.pointer (some ⟨b, 0, none⟩)] w1 fun e w' => e = .returned (.int .i64 1) ∧ EyeAt 62 b ([], 0) w' ∧ Below w.heap.size w w') := fun w1 b hbb hE hb => by
    refine (eyeNum_any b ([2], 0) w1 hE).mono ?_
    rw [show eInt ([2], 0) = (1, ([], 0)) from by decide]
    rintro e w' ⟨rfl, h1, h2⟩
    exact ⟨rfl, h1, hb.trans (h2.below hb.size hbb)⟩
  have cE : Hid (∀ w1 b, EyeAt 62 b ([], 0) w1 → Calls Try.prog 25 #[.pointer (some ⟨b, 0, none⟩)] w1 (Quiet (.int .i64 0) w1)) := fun w1 b hE => end_any b ([], 0) w1 hE
  have hstr : strOf [172, 2, 1] = ⟨#[172, 2, 1]⟩ := by decide
  have HS := hid hstr
  clear hstr
  go_enter Try.func11, Try.ntmps11
  go_wp2_with (first
    | (go_at_call 7; (with_reducible refine c0.mono ?_); clear c0; rintro e w1 ⟨rfl, hp1, hb1⟩)
    | (go_at_call 28; (with_reducible refine (cC.out _ hp1 hb1).mono ?_); clear cC hp1; rintro e w2 ⟨rfl, v2, hp2, hb2⟩)
    | (go_at_call 29; (with_reducible refine (cM.out _ _ hp2 hb2).mono ?_); clear cM hp2; rintro e w3 ⟨rfl, v3, hp3, hb3⟩)
    | (go_at_call 10; (with_reducible refine (cD.out _ _ hp3 hb3).mono ?_); clear cD hp3; rintro e w4 ⟨a4, k4, rfl, hr4, hb4⟩)
    | (go_at_call 12; (with_reducible refine (cO.out _ hb4).mono ?_); clear cO; rintro e w5 ⟨b5, rfl, hbb5, hE5, hbl5⟩; have hcv := Reads.str (P := Try.prog) (hr4.below hbl5) 25 5 Try.underlying25 Try.underlying5 k4 9 Try.underlying9; rw [HS.out] at hcv; have hb5 : Below w.heap.size w w5 := hb4.trans (hbl5.mono hb4.size); clear hr4 hbl5)
    | (go_at_call 15; (with_reducible refine (cX.out _ _ hbb5 hE5 hb5).mono ?_); clear cX hE5; rintro e w6 ⟨rfl, hE6, hb6⟩)
    | (go_at_call 17; (with_reducible refine (cY.out _ _ hbb5 hE6 hb6).mono ?_); clear cY hE6; rintro e w7 ⟨rfl, hE7, hb7⟩)
    | (go_at_call 25; (with_reducible refine (cE.out _ _ hE7).mono ?_); clear cE hE7; rintro e w8 ⟨rfl, m8, rfl⟩))
  go_ret
  exact ⟨rfl, below_drewN hb7 m8⟩
end Go.Proofs.Ytbgbboldelpjbaa.pen
