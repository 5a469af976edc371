/- What the laws of boxes ask at any rate comes. No condition. -/
import Derived.Test.YtmekglkiiannfaaBoxFirst
namespace Go.Proofs.Ytmekglkiiannfaa.box
open Go.Conc Go.RowKit
set_option linter.unusedVariables false

theorem but_below {B c : Nat} {w w1 w' : World} (hb : Below B w w1) (h : But w1.heap.size c w1 w') (hB : B ≤ w1.heap.size) (hc : B ≤ c) : Below B w w' := hb.trans (h.below hB hc)
set_option maxRecDepth 8000 in
theorem awake_any (w : World) : Calls Try.prog 6 #[] w (Yes w) := by
  have c0 := new_any 2 w
  rw [show roomOf 2 = 2 from rfl] at c0
  have cP : Hid (∀ (l l' : List Int) (x : Int) (k : Bool), decide (l.length < 2) = k → (if l.length < 2 then l ++ [x] else l) = l' → ∀ w1, BoxAt 51 3 (w.heap.size + 1) w.heap.size 2 (l.map (Value.int .i64)) w1 ∧ Below w.heap.size w w1 → Calls Try.prog 9 #[.pointer (some ⟨w.heap.size + 1, 0, none⟩), .int .i64 x] w1 fun e w' => e = .returned (.bool k) ∧ BoxAt 51 3 (w.heap.size + 1) w.heap.size 2 (l'.map (Value.int .i64)) w' ∧ Below w.heap.size w w') := by
    rintro l l' x k rfl rfl w1 ⟨hB, hb⟩
    exact (put_any _ _ _ l x w1 hB).mono fun e w' ⟨he, h1, h2⟩ => ⟨he, h1, but_below hb h2 hb.size (Nat.le_refl _)⟩
  have p1 := hid (cP.out [] [1] 1 true rfl rfl)
  have p2 := hid (cP.out [1] [1, 2] 2 true rfl rfl)
  have p3 := hid (cP.out [1, 2] [1, 2] 3 false rfl rfl)
  have cT : Hid (∀ w1, BoxAt 51 3 (w.heap.size + 1) w.heap.size 2 (([1, 2] : List Int).map (Value.int .i64)) w1 ∧ Below w.heap.size w w1 → Calls Try.prog 11 #[.pointer (some ⟨w.heap.size + 1, 0, none⟩)] w1 fun e w' => e = .returned (.tuple #[.int .i64 1, .bool true]) ∧ BoxAt 51 3 (w.heap.size + 1) w.heap.size 2 (([2] : List Int).map (Value.int .i64)) w' ∧ Below w.heap.size w w') := by
    rintro w1 ⟨hB, hb⟩
    exact (take_any _ _ _ [1, 2] w1 hB).mono fun e w' ⟨he, h1, h2⟩ => ⟨he, h1, but_below hb h2 hb.size (Nat.le_refl _)⟩
  clear cP
  go_enter Try.func6, Try.ntmps6
  go_wp2_with (first
    | (go_at_call 7; (with_reducible refine c0.mono ?_); clear c0; rintro e w1 ⟨rfl, hb1⟩; have HB1 := hid hb1; clear hb1)
    | (go_at_call 9; (with_reducible refine (p1.out _ HB1.out).mono ?_); clear p1 HB1; rintro e w2 ⟨rfl, hb2⟩; have HB2 := hid hb2; clear hb2)
    | (go_at_call 9; (with_reducible refine (p2.out _ HB2.out).mono ?_); clear p2 HB2; rintro e w3 ⟨rfl, hb3⟩; have HB3 := hid hb3; clear hb3)
    | (go_at_call 9; (with_reducible refine (p3.out _ HB3.out).mono ?_); clear p3 HB3; rintro e w4 ⟨rfl, hb4⟩; have HB4 := hid hb4; clear hb4)
    | (go_at_call 11; (with_reducible refine (cT.out _ HB4.out).mono ?_); clear cT HB4; rintro e w5 ⟨rfl, hb5⟩; have HB5 := hid hb5; clear hb5; have cL := len_any _ _ _ _ _ HB5.out.1; have cR := room_any _ _ _ _ _ HB5.out.1)
    | (go_at_call 15; (with_reducible refine cL.mono ?_); rintro e w6 ⟨rfl, rfl⟩)
    | (go_at_call 16; (with_reducible refine cR.mono ?_); rintro e w7 ⟨rfl, rfl⟩))
  go_ret
  exact ⟨rfl, HB5.out.2⟩
end Go.Proofs.Ytmekglkiiannfaa.box
