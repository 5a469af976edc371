/- TextsBytes: for every two strings of at most 2^46 bytes, the texts and the bytes are those of the reference, and they go there and back; the listed variables of the library hold what the row says. -/
import Derived.Test.YtdlebjogbhgheaaDoorTextsAwake
import Derived.Test.YtdlebjogbhgheaaDoorTextsUnhex
namespace Go.Proofs.YtdlebjogbhgheaaDoor.textsBytes
open Go.RowKit Go.Lib Go.Proofs.YtdlebjogbhgheaaDoor.texts
set_option linter.unusedVariables false

set_option maxHeartbeats 2000000 in
theorem walkL (b s : List UInt8) (hbl : 2 * b.length ≤ 140737488355328) (hsl : s.length ≤ 140737488351232) (w : World) (hr : Ready w) :
    Calls Tryd.prog 4 #[.string (strL b), .string (strL s)] w (Yes w) := by
  have HR := hid hr
  have est := strL_toList
  have HUN : Hid (∀ w1, Below w.heap.size w w1 → Calls Tryd.prog 12 #[.string (strL s)] w1 fun e w' => e = .returned (.tuple #[.string (strL (unhexText s).1), .int .i64 (unhexText s).2]) ∧ Below w.heap.size w w') := fun w1 hb =>
    (unhex_any s (by omega) w1).mono fun e w' ⟨he, hb'⟩ => ⟨he, hb.trans (hb'.mono hb.size)⟩
  have HRF : Hid (∀ w1, Below w.heap.size w w1 → Calls Tryd.prog 13 #[.string (strL s)] w1 fun e w' => e = .returned (.tuple #[.string (strL (unhexText s).1), .int .i64 (unhexText s).2]) ∧ Below w.heap.size w w') := fun w1 hb =>
    (refUnhex_any s hsl w1).mono fun e w' ⟨he, hb'⟩ => ⟨he, hb.trans (hb'.mono hb.size)⟩
  have HHX : Hid (∀ w1, Below w.heap.size w w1 → Calls Tryd.prog 14 #[.string (strL b)] w1 fun e w' => e = .returned (.string (strL (hexText b))) ∧ Below w.heap.size w w') := fun w1 hb =>
    (hex_any b hbl w1).mono fun e w' ⟨he, hb'⟩ => ⟨he, hb.trans (hb'.mono hb.size)⟩
  have hlen : (hexText b).length ≤ 281474976710656 := by
    unfold hexText
    split
    · simp
    · rw [hexOf_length]; omega
  have HUB : Hid (∀ w1, Below w.heap.size w w1 → Calls Tryd.prog 12 #[.string (strL (hexText b))] w1 fun e w' => e = .returned (.tuple #[.string (strL b), .int .i64 0]) ∧ Below w.heap.size w w') := fun w1 hb =>
    (unhex_any (hexText b) hlen w1).mono fun e w' ⟨he, hb'⟩ => by
      rw [unhex_hex] at he
      exact ⟨he, hb.trans (hb'.mono hb.size)⟩
  have HRX : Hid (∀ w1, Below w.heap.size w w1 → Calls Tryd.prog 15 #[.string (strL b)] w1 fun e w' => e = .returned (.string (strL (hexText b))) ∧ Below w.heap.size w w') := fun w1 hb =>
    (refHex_any b (by omega) w1).mono fun e w' ⟨he, hb'⟩ => ⟨he, hb.trans (hb'.mono hb.size)⟩
  have HAW : Hid (∀ w1, Below w.heap.size w w1 → Calls Tryd.prog 11 #[] w1 fun e w' => e = .returned (.bool true) ∧ Below w.heap.size w w') := fun w1 hb =>
    (awake_any w1 (HR.out.below hb)).mono fun e w' ⟨he, hb'⟩ => ⟨he, hb.trans (hb'.mono hb.size)⟩
  clear hr hlen
  obtain ⟨S, hS⟩ : ∃ S, Hid (strL s = S) := ⟨_, rfl⟩
  obtain ⟨X, hX⟩ : ∃ X, Hid (strL (hexText b) = X) := ⟨_, rfl⟩
  obtain ⟨B, hB⟩ : ∃ B, Hid (strL b = B) := ⟨_, rfl⟩
  obtain ⟨U, hU⟩ : ∃ U, Hid (strL (unhexText s).1 = U) := ⟨_, rfl⟩
  obtain ⟨V, hV⟩ : ∃ V, Hid ((unhexText s).2 = V) := ⟨_, rfl⟩
  rw [hS.out] at HUN HRF ⊢
  rw [hX.out] at HHX HUB HRX
  rw [hB.out] at HHX HUB HRX ⊢
  rw [hU.out, hV.out] at HUN HRF
  go_enter Tryd.func4, Tryd.ntmps4
  go_wp2_with (first
    | (go_at_call 12; with_reducible refine (HUN.out _ (Below.refl _ _)).mono ?_; clear HUN; rintro e w1 ⟨rfl, hb1⟩)
    | (go_at_call 13; with_reducible refine (HRF.out _ hb1).mono ?_; clear HRF; rintro e w2 ⟨rfl, hb2⟩)
    | (go_at_call 14; with_reducible refine (HHX.out _ hb2).mono ?_; rintro e w3 ⟨rfl, hb3⟩; clear hb2)
    | (go_at_call 12; with_reducible refine (HUB.out _ hb3).mono ?_; clear HUB; rintro e w4 ⟨rfl, hb4⟩)
    | (go_at_call 14; with_reducible refine (HHX.out _ hb4).mono ?_; rintro e w5 ⟨rfl, hb5⟩)
    | (go_at_call 15; with_reducible refine (HRX.out _ hb5).mono ?_; rintro e w6 ⟨rfl, hb6⟩)
    | (go_at_call 11; with_reducible refine (HAW.out _ hb6).mono ?_; rintro e w7 ⟨rfl, hb7⟩))
  go_ret
  exact ⟨rfl, hb7⟩
end Go.Proofs.YtdlebjogbhgheaaDoor.textsBytes
