/- TextsBack: what was read is told as it was, and what is told is read as it was. -/
import Derived.Test.YtdlebjogbhgheaaDoorTextsBounds
import Derived.Test.YtdlebjogbhgheaaDoorTextsAwake
namespace Go.Proofs.YtdlebjogbhgheaaDoor.textsBack
open Go.RowKit Go.Lib Go.Proofs.YtdlebjogbhgheaaDoor.texts
set_option linter.unusedVariables false

set_option maxRecDepth 20000 in
set_option maxHeartbeats 4000000 in
theorem walkL (s : List UInt8) (wss : List (List (List UInt8))) (a : Option Addr) (c : Nat) (hs : s.length ≤ 1048576) (hf : Fine 1048576 wss) (w : World) (ha : StrRows w a wss) (hr : Ready w) :
    Calls Tryd.prog 6 #[.string (strL s), .slice a wss.length c] w (Yes w) := by
  have HR := hid hr
  have HA := hid ha
  have est := strL_toList
  have hlf := lines_fine s
  have HLN : Hid (∀ w1, Below w.heap.size w w1 → Calls Tryd.prog 16 #[.string (strL s)] w1 fun e w' => (∃ b d, e = .returned (.tuple #[.slice b (linesOf s).length d, .int .i64 (lineNo s), .int .i64 (lineErr s)]) ∧ StrRows w' b (linesOf s)) ∧ Below w1.heap.size w1 w') := fun w1 hb =>
    linesRead_any s (by omega) w1 (HR.out.below hb)
  have HJX : Hid (∀ w1 b d, StrRows w1 b (linesOf s) → Calls Tryd.prog 18 #[.slice b (linesOf s).length d] w1 fun e w' => e = .returned (.tuple #[.string (strL (joinOut (linesOf s))), .int .i64 (joinErr (linesOf s))]) ∧ Below w1.heap.size w1 w') := fun w1 b d hb =>
    join_any (linesOf s) b d (by have := hlf.rows; omega) (fun i hi => by have := hlf.words i hi; omega) (by have := hlf.text; omega) w1 hb
  have HJ : Hid (∀ w1, Below w.heap.size w w1 → Calls Tryd.prog 18 #[.slice a wss.length c] w1 fun e w' => e = .returned (.tuple #[.string (strL (joinOut wss)), .int .i64 (joinErr wss)]) ∧ Below w1.heap.size w1 w') := fun w1 hb =>
    join_any wss a c (by have := hf.rows; omega) (fun i hi => by have := hf.words i hi; omega) (by have := hf.text; omega) w1 (HA.out.below hb)
  have HLB : Hid (∀ w1, Below w.heap.size w w1 → Calls Tryd.prog 16 #[.string (strL (joinText wss))] w1 fun e w' => (∃ b d, e = .returned (.tuple #[.slice b (linesOf (joinText wss)).length d, .int .i64 (lineNo (joinText wss)), .int .i64 (lineErr (joinText wss))]) ∧ StrRows w' b (linesOf (joinText wss))) ∧ Below w1.heap.size w1 w') := fun w1 hb =>
    linesRead_any (joinText wss) (by have := hf.text; omega) w1 (HR.out.below hb)
  have HSM : Hid (∀ w1 b d b2 d2, StrRows w1 b wss → StrRows w1 b2 wss → Calls Tryd.prog 20 #[.slice b wss.length d, .slice b2 wss.length d2] w1 fun e w' => e = .returned (.bool true) ∧ Below w1.heap.size w1 w') := fun w1 b d b2 d2 h1 h2 =>
    same_any wss b b2 d d2 (by have := hf.rows; omega) (fun i hi => by have := hf.words i hi; omega) w1 h1 h2
  have HAW : Hid (∀ w1, Below w.heap.size w w1 → Calls Tryd.prog 11 #[] w1 fun e w' => e = .returned (.bool true) ∧ Below w.heap.size w w') := fun w1 hb =>
    (awake_any w1 (HR.out.below hb)).mono fun e w' ⟨he, hb'⟩ => ⟨he, hb.trans (hb'.mono hb.size)⟩
  clear hr ha hf hlf hs
  have hX := back_text s
  have hY := back_rows wss
  obtain ⟨R, hR⟩ : ∃ R, Hid (linesOf s = R) := ⟨_, rfl⟩
  obtain ⟨ln, hln⟩ : ∃ x, Hid (lineNo s = x) := ⟨_, rfl⟩
  obtain ⟨n, hn⟩ : ∃ x, Hid (wss.length = x) := ⟨_, rfl⟩
  obtain ⟨m, hm⟩ : ∃ x, Hid (R.length = x) := ⟨_, rfl⟩
  rw [hR.out, hln.out] at HLN
  rw [hR.out] at HJX hX
  rw [hm.out] at HLN HJX
  rw [hn.out] at HJ ⊢
  have HLB2 : Hid (linesOf (joinText wss) = wss → lineNo (joinText wss) = 0 → lineErr (joinText wss) = 0 → ∀ w1, Below w.heap.size w w1 → Calls Tryd.prog 16 #[.string (strL (joinText wss))] w1 fun e w' => (∃ b d, e = .returned (.tuple #[.slice b n d, .int .i64 0, .int .i64 0]) ∧ StrRows w' b wss) ∧ Below w1.heap.size w1 w') := fun h1 h2 h3 w1 hb => by
    have := HLB.out w1 hb
    rw [h1, h2, h3, hn.out] at this
    exact this
  rw [hn.out] at HSM
  clear HLB
  rcases hX with ⟨x1, x2, x3⟩ | x1 <;> rcases hY with ⟨y1, y2, y3, y4, y5⟩ | y1
  · rw [x1] at HLN
    rw [x2, x3] at HJX
    rw [y1, y2] at HJ
    have HLC := hid (HLB2.out y3 y4 y5)
    clear x1 x2 x3 y1 y2 y3 y4 y5 HLB2
    obtain ⟨S, hS⟩ : ∃ S, Hid (strL s = S) := ⟨_, rfl⟩
    rw [hS.out] at HLN HJX ⊢
    obtain ⟨T, hT⟩ : ∃ T, Hid (strL (joinText wss) = T) := ⟨_, rfl⟩
    rw [hT.out] at HJ HLC
    go_enter Tryd.func6, Tryd.ntmps6
    go_wp2_with (first
      | (go_at_call 16; with_reducible refine (HLN.out _ (Below.refl _ _)).mono ?_; clear HLN; rintro e w1 ⟨⟨b1, d1, rfl, hr1⟩, hb1⟩; have HR1 := hid hr1; clear hr1)
      | (go_at_call 18; with_reducible refine (HJX.out _ _ _ HR1.out).mono ?_; clear HJX HR1; rintro e w3 ⟨rfl, hb2⟩; have hb3 := hb1.trans (hb2.mono hb1.size); clear hb1 hb2)
      | (go_at_call 18; with_reducible refine (HJ.out _ hb3).mono ?_; clear HJ; rintro e w3 ⟨rfl, hb4⟩; have hb5 := hb3.trans (hb4.mono hb3.size); clear hb3 hb4)
      | (go_at_call 16; with_reducible refine (HLC.out _ hb5).mono ?_; clear HLC; rintro e w4 ⟨⟨b2, d2, rfl, hr2⟩, hb6⟩; have HR2 := hid hr2; have hb7 := hb5.trans (hb6.mono hb5.size); have HR3 := hid (HA.out.below hb7); clear hb5 hb6 hr2)
      | (go_at_call 20; with_reducible refine (HSM.out _ _ _ _ _ HR2.out HR3.out).mono ?_; clear HSM HR2 HR3; rintro e w5 ⟨rfl, hb8⟩; have hb9 := hb7.trans (hb8.mono hb7.size); clear hb7 hb8)
      | (go_at_call 11; with_reducible refine (HAW.out _ hb9).mono ?_; rintro e w7 ⟨rfl, hb10⟩))
    go_ret
    exact ⟨rfl, hb10⟩
  · rw [x1] at HLN
    rw [x2, x3] at HJX
    rw [y1] at HJ
    clear x1 x2 x3 y1 HLB2 HSM
    obtain ⟨S, hS⟩ : ∃ S, Hid (strL s = S) := ⟨_, rfl⟩
    rw [hS.out] at HLN HJX ⊢
    obtain ⟨T, hT⟩ : ∃ T, Hid (strL (joinOut wss) = T) := ⟨_, rfl⟩
    rw [hT.out] at HJ
    go_enter Tryd.func6, Tryd.ntmps6
    go_wp2_with (first
      | (go_at_call 16; with_reducible refine (HLN.out _ (Below.refl _ _)).mono ?_; clear HLN; rintro e w1 ⟨⟨b1, d1, rfl, hr1⟩, hb1⟩; have HR1 := hid hr1; clear hr1)
      | (go_at_call 18; with_reducible refine (HJX.out _ _ _ HR1.out).mono ?_; clear HJX HR1; rintro e w3 ⟨rfl, hb2⟩; have hb3 := hb1.trans (hb2.mono hb1.size); clear hb1 hb2)
      | (go_at_call 18; with_reducible refine (HJ.out _ hb3).mono ?_; clear HJ; rintro e w3 ⟨rfl, hb4⟩; have hb9 := hb3.trans (hb4.mono hb3.size); clear hb3 hb4)
      | (go_at_call 11; with_reducible refine (HAW.out _ hb9).mono ?_; rintro e w7 ⟨rfl, hb10⟩))
    go_ret
    exact ⟨rfl, hb10⟩
  · rw [x1] at HLN
    rw [y1, y2] at HJ
    have HLC := hid (HLB2.out y3 y4 y5)
    clear x1 y1 y2 y3 y4 y5 HLB2 HJX
    obtain ⟨S, hS⟩ : ∃ S, Hid (strL s = S) := ⟨_, rfl⟩
    rw [hS.out] at HLN ⊢
    obtain ⟨T, hT⟩ : ∃ T, Hid (strL (joinText wss) = T) := ⟨_, rfl⟩
    rw [hT.out] at HJ HLC
    go_enter Tryd.func6, Tryd.ntmps6
    go_wp2_with (first
      | (go_at_call 16; with_reducible refine (HLN.out _ (Below.refl _ _)).mono ?_; clear HLN; rintro e w1 ⟨⟨b1, d1, rfl, hr1⟩, hb3⟩; clear hr1)
      | (go_at_call 18; with_reducible refine (HJ.out _ hb3).mono ?_; clear HJ; rintro e w3 ⟨rfl, hb4⟩; have hb5 := hb3.trans (hb4.mono hb3.size); clear hb3 hb4)
      | (go_at_call 16; with_reducible refine (HLC.out _ hb5).mono ?_; clear HLC; rintro e w4 ⟨⟨b2, d2, rfl, hr2⟩, hb6⟩; have HR2 := hid hr2; have hb7 := hb5.trans (hb6.mono hb5.size); have HR3 := hid (HA.out.below hb7); clear hb5 hb6 hr2)
      | (go_at_call 20; with_reducible refine (HSM.out _ _ _ _ _ HR2.out HR3.out).mono ?_; clear HSM HR2 HR3; rintro e w5 ⟨rfl, hb8⟩; have hb9 := hb7.trans (hb8.mono hb7.size); clear hb7 hb8)
      | (go_at_call 11; with_reducible refine (HAW.out _ hb9).mono ?_; rintro e w7 ⟨rfl, hb10⟩))
    go_ret
    exact ⟨rfl, hb10⟩
  · rw [x1] at HLN
    rw [y1] at HJ
    clear x1 y1 HLB2 HSM HJX
    obtain ⟨S, hS⟩ : ∃ S, Hid (strL s = S) := ⟨_, rfl⟩
    rw [hS.out] at HLN ⊢
    obtain ⟨T, hT⟩ : ∃ T, Hid (strL (joinOut wss) = T) := ⟨_, rfl⟩
    rw [hT.out] at HJ
    go_enter Tryd.func6, Tryd.ntmps6
    go_wp2_with (first
      | (go_at_call 16; with_reducible refine (HLN.out _ (Below.refl _ _)).mono ?_; clear HLN; rintro e w1 ⟨⟨b1, d1, rfl, hr1⟩, hb3⟩; clear hr1)
      | (go_at_call 18; with_reducible refine (HJ.out _ hb3).mono ?_; clear HJ; rintro e w3 ⟨rfl, hb4⟩; have hb9 := hb3.trans (hb4.mono hb3.size); clear hb3 hb4)
      | (go_at_call 11; with_reducible refine (HAW.out _ hb9).mono ?_; rintro e w7 ⟨rfl, hb10⟩))
    go_ret
    exact ⟨rfl, hb10⟩
end Go.Proofs.YtdlebjogbhgheaaDoor.textsBack
