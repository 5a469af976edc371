/- The law's own sample holds. No condition. -/
import Derived.Test.YtdlebjogbhgheaaDoorTextsLines
namespace Go.Proofs.YtdlebjogbhgheaaDoor.texts
open Go.RowKit Go.Lib Go.Shelf
set_option linter.unusedVariables false

theorem itoa_sample : itoa (-12) = [45, 49, 50] := by
  rw [itoa, if_pos (by decide), show (-12 : Int).natAbs = 12 from rfl, decDigits_two (by decide) (by decide)]
  rfl
theorem lines_sample : linesAux [] [97, 32, 98, 10, 99, 10] = [[97, 32, 98, 10], [99, 10]] := by decide
theorem good_sample : ∀ k, k < 2 → goodLine (([[97, 32, 98, 10], [99, 10]] : List (List UInt8)).getD k []) = true := by
  intro k hk
  match k, hk with
  | 0, _ => decide
  | 1, _ => decide

set_option maxHeartbeats 2000000 in
theorem awake_any (w : World) (hr : Ready w) : Calls Tryd.prog 11 #[] w fun e w' => e = .returned (.bool true) ∧ Below w.heap.size w w' := by
  have HR := hid hr
  have HRD : Hid (∀ w1, Below w.heap.size w w1 → Calls Tryd.prog 7 #[.string ⟨#[45, 49, 50]⟩] w1 fun e w' => e = .returned (.tuple #[.int .i64 (-12), .int .i64 0]) ∧ Below w.heap.size w w') := fun w1 hb =>
    (read_any [45, 49, 50] (by decide) w1 (HR.out.below hb)).mono fun e w' ⟨n, c, he, hn, hb'⟩ => by
      rw [← itoa_sample] at hn
      obtain ⟨rfl, rfl⟩ := NumOf.self (by unfold Fits; omega) hn
      exact ⟨he, hb.trans (hb'.mono hb.size)⟩
  have HDC : Hid (∀ w1, Below w.heap.size w w1 → Calls Tryd.prog 9 #[.int .i64 (-12)] w1 fun e w' => e = .returned (.string ⟨#[45, 49, 50]⟩) ∧ Below w1.heap.size w1 w') := fun w1 hb =>
    (dec_any (-12) (by unfold Fits; omega) w1 (HR.out.below hb)).mono fun e w' ⟨he, hb'⟩ => by
      rw [itoa_sample] at he
      exact ⟨he, hb'⟩
  have HHX : Hid (∀ w1, Calls Tryd.prog 14 #[.string ⟨#[0, 171]⟩] w1 fun e w' => e = .returned (.string ⟨#[48, 48, 97, 98]⟩) ∧ Below w1.heap.size w1 w') := fun w1 =>
    (hex_any [0, 171] (by decide) w1).mono fun e w' ⟨he, hb'⟩ => ⟨he, hb'⟩
  have HLI : Hid (∀ w1, Below w.heap.size w w1 → Calls Tryd.prog 16 #[.string ⟨#[97, 32, 98, 10, 99, 10]⟩] w1 fun e w' => ∃ g c b, e = .returned (.tuple #[.slice (some ⟨g, 0, none⟩) 2 c, .int .i64 0, .int .i64 0]) ∧ (2 : Int) ≤ c ∧
      w'.cell? ⟨g, 0, none⟩ = some (.slice (some ⟨b, 0, none⟩) 2 2) ∧ Below w.heap.size w w') := fun w1 hb =>
    (lines_any [97, 32, 98, 10, 99, 10] (by decide) w1 (HR.out.below hb)).mono fun e w' ⟨hend, hb'⟩ => by
      unfold LinesEnd at hend
      rw [lines_sample] at hend
      rcases hend with ⟨_, v, B, he, vs, hown, hrows⟩ | ⟨k, hk, _, hbad, _⟩
      · obtain ⟨g, c, rfl, _, hg, hc, _⟩ := ownsRow_form hown (by decide)
        obtain ⟨_, u, hu, b, _, rfl, _⟩ := hrows 0 (by decide)
        have hl : vs.length = 2 := by simpa using hown.1
        rcases hown.2 with ⟨h, _⟩ | ⟨g', cap', cur, h, _, hgb, _, _, _, htake⟩
        · cases h
        · cases h
          refine ⟨g, c, b, he, by have : (2 : Nat) ≤ c := hc; omega, ?_, hb.trans (hb'.mono hb.size)⟩
          rw [cell_of_row w' g 0 cur 51 (0, 0) hgb]
          have h2 : (cur.toList.take (2 * 1))[0]? = vs[0]? := by rw [show (2 * 1 : Nat) = ([[97, 32, 98, 10], [99, 10]] : List (List UInt8)).length * 1 from rfl, htake]
          rw [List.getElem?_take, if_pos (by decide), Array.getElem?_toList] at h2
          rw [h2, hu]
          rfl
      · exact absurd hbad (by rw [good_sample k hk]; decide)
  clear hr
  go_enter Tryd.func11, Tryd.ntmps11
  go_wp2_with (first
    | (go_at_call 7; refine (HRD.out _ (Below.refl _ _)).mono ?_; rintro e w1 ⟨rfl, hb1⟩)
    | (go_at_call 16; refine (HLI.out _ hb1).mono ?_; rintro e w2 ⟨g, c, b, rfl, hc, hx, hb2⟩; have hgl := World.block_lt_of_cell? w2 _ hx; have HX := hid hx; clear hx)
    | (go_at_call 9; refine (HDC.out _ hb2).mono ?_; rintro e w3 ⟨rfl, hb3⟩)
    | (go_at_call 14; refine (HHX.out _).mono ?_; rintro e w4 ⟨rfl, hb4⟩; have hx4 : w4.cell? ⟨g, 0, none⟩ = some (.slice (some ⟨b, 0, none⟩) 2 2) := (hb4.cell (p := ⟨g, 0, none⟩) (Nat.lt_of_lt_of_le hgl hb3.size)).trans ((hb3.cell (p := ⟨g, 0, none⟩) hgl).trans HX.out)))
  go_ret
  exact ⟨rfl, hb2.trans ((hb3.mono hb2.size).trans (hb4.mono (Nat.le_trans hb2.size hb3.size)))⟩
end Go.Proofs.YtdlebjogbhgheaaDoor.texts
