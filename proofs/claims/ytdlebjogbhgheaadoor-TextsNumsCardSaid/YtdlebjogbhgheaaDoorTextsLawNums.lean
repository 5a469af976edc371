/- TextsNums: for every number and every string, the texts and the numbers are those of the reference, and they go there and back. No condition of ours; the listed variables of the library hold what the row says. -/
import Derived.Test.YtdlebjogbhgheaaDoorTextsAwake
namespace Go.Proofs.YtdlebjogbhgheaaDoor.textsNums
open Go.RowKit Go.Lib Go.Proofs.YtdlebjogbhgheaaDoor.texts
set_option linter.unusedVariables false

set_option maxHeartbeats 2000000 in
theorem walkL (n : Int) (hf : Fits n) (l : List UInt8) (hl : l.length ≤ 281474976710656) (w : World) (hr : Ready w) :
    Calls Tryd.prog 3 #[.int .i64 n, .string (strL l)] w (Yes w) := by
  have HR := hid hr
  have HF := hid hf
  have est := strL_toList
  have hit := itoa_length_le n hf.1 hf.2
  have HRD : Hid (∀ w1, Below w.heap.size w w1 → Calls Tryd.prog 7 #[.string (strL l)] w1 fun e w' => ∃ x c, e = .returned (.tuple #[.int .i64 x, .int .i64 c]) ∧ NumOf l x c ∧ Below w.heap.size w w') := fun w1 hb =>
    (read_any l hl w1 (HR.out.below hb)).mono fun e w' ⟨x, c, he, hn, hb'⟩ => ⟨x, c, he, hn, hb.trans (hb'.mono hb.size)⟩
  have HRF : Hid (∀ w1, Below w.heap.size w w1 → ∀ x c, NumOf l x c → Calls Tryd.prog 8 #[.string (strL l)] w1 fun e w' => e = .returned (.tuple #[.int .i64 x, .int .i64 c]) ∧ Below w.heap.size w w') := fun w1 hb x c hx =>
    (refRead_any l w1).mono fun e w' ⟨y, d, he, hn, hb'⟩ => by
      obtain ⟨rfl, rfl⟩ := NumOf.one hx hn
      exact ⟨he, hb.trans (hb'.mono hb.size)⟩
  have HDC : Hid (∀ w1, Below w.heap.size w w1 → Calls Tryd.prog 9 #[.int .i64 n] w1 fun e w' => e = .returned (.string (strL (itoa n))) ∧ Below w.heap.size w w') := fun w1 hb =>
    (dec_any n HF.out w1 (HR.out.below hb)).mono fun e w' ⟨he, hb'⟩ => ⟨he, hb.trans (hb'.mono hb.size)⟩
  have HRB : Hid (∀ w1, Below w.heap.size w w1 → Calls Tryd.prog 7 #[.string (strL (itoa n))] w1 fun e w' => e = .returned (.tuple #[.int .i64 n, .int .i64 0]) ∧ Below w.heap.size w w') := fun w1 hb =>
    (read_any (itoa n) (by omega) w1 (HR.out.below hb)).mono fun e w' ⟨x, c, he, hn, hb'⟩ => by
      obtain ⟨rfl, rfl⟩ := NumOf.self HF.out hn
      exact ⟨he, hb.trans (hb'.mono hb.size)⟩
  have HRDC : Hid (∀ w1, Below w.heap.size w w1 → Calls Tryd.prog 10 #[.int .i64 n] w1 fun e w' => e = .returned (.string (strL (itoa n))) ∧ Below w.heap.size w w') := fun w1 hb =>
    (refDec_any n HF.out.1 HF.out.2 w1).mono fun e w' ⟨he, hb'⟩ => ⟨he, hb.trans (hb'.mono hb.size)⟩
  have HAW : Hid (∀ w1, Below w.heap.size w w1 → Calls Tryd.prog 11 #[] w1 fun e w' => e = .returned (.bool true) ∧ Below w.heap.size w w') := fun w1 hb =>
    (awake_any w1 (HR.out.below hb)).mono fun e w' ⟨he, hb'⟩ => ⟨he, hb.trans (hb'.mono hb.size)⟩
  clear hr hf hit
  obtain ⟨S, hS⟩ : ∃ S, Hid (strL l = S) := ⟨_, rfl⟩
  obtain ⟨T, hT⟩ : ∃ T, Hid (strL (itoa n) = T) := ⟨_, rfl⟩
  rw [hS.out] at HRD HRF ⊢
  rw [hT.out] at HDC HRB HRDC
  go_enter Tryd.func3, Tryd.ntmps3
  go_wp2_with (first
    | (go_at_call 7; with_reducible refine (HRD.out _ (Below.refl _ _)).mono ?_; clear HRD; rintro e w1 ⟨x, c, rfl, hx, hb1⟩)
    | (go_at_call 8; with_reducible refine (HRF.out _ hb1 x c hx).mono ?_; clear HRF; rintro e w2 ⟨rfl, hb2⟩)
    | (go_at_call 9; with_reducible refine (HDC.out _ hb2).mono ?_; rintro e w3 ⟨rfl, hb3⟩; clear hb2)
    | (go_at_call 7; with_reducible refine (HRB.out _ hb3).mono ?_; clear HRB; rintro e w4 ⟨rfl, hb4⟩)
    | (go_at_call 9; with_reducible refine (HDC.out _ hb4).mono ?_; rintro e w5 ⟨rfl, hb5⟩)
    | (go_at_call 10; with_reducible refine (HRDC.out _ hb5).mono ?_; rintro e w6 ⟨rfl, hb6⟩)
    | (go_at_call 11; with_reducible refine (HAW.out _ hb6).mono ?_; rintro e w7 ⟨rfl, hb7⟩))
  go_ret
  exact ⟨rfl, hb7⟩
end Go.Proofs.YtdlebjogbhgheaaDoor.textsNums
