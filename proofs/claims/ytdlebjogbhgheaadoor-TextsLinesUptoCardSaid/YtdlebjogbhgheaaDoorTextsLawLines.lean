/- TextsLines: the lines of a text and the text of lines are those of the reference. -/
import Derived.Test.YtdlebjogbhgheaaDoorTextsBounds
import Derived.Test.YtdlebjogbhgheaaDoorTextsAwake
namespace Go.Proofs.YtdlebjogbhgheaaDoor.textsLines
open Go.RowKit Go.Lib Go.Proofs.YtdlebjogbhgheaaDoor.texts
set_option linter.unusedVariables false

set_option maxRecDepth 20000 in
set_option maxHeartbeats 2000000 in
theorem walkL (s : List UInt8) (wss : List (List (List UInt8))) (a : Option Addr) (c : Nat) (hs : s.length ≤ 1048576) (hf : Fine 1048576 wss) (w : World) (ha : StrRows w a wss) (hr : Ready w) :
    Calls Tryd.prog 5 #[.string (strL s), .slice a wss.length c] w (Yes w) := by
  have HR := hid hr
  have HA := hid ha
  have HLN : Hid (∀ w1, Below w.heap.size w w1 → Calls Tryd.prog 16 #[.string (strL s)] w1 fun e w' => (∃ b d, e = .returned (.tuple #[.slice b (linesOf s).length d, .int .i64 (lineNo s), .int .i64 (lineErr s)]) ∧ StrRows w' b (linesOf s)) ∧ Below w1.heap.size w1 w') := fun w1 hb =>
    linesRead_any s (by omega) w1 (HR.out.below hb)
  have HRL : Hid (∀ w1, Calls Tryd.prog 17 #[.string (strL s)] w1 fun e w' => (∃ b d, e = .returned (.tuple #[.slice b (linesOf s).length d, .int .i64 (lineNo s), .int .i64 (lineErr s)]) ∧ StrRows w' b (linesOf s)) ∧ Below w1.heap.size w1 w') := fun w1 =>
    refLinesRead_any s (by omega) w1
  have hlf := lines_fine s
  have HSM : Hid (∀ w1 b d b2 d2, StrRows w1 b (linesOf s) → StrRows w1 b2 (linesOf s) → Calls Tryd.prog 20 #[.slice b (linesOf s).length d, .slice b2 (linesOf s).length d2] w1 fun e w' => e = .returned (.bool true) ∧ Below w1.heap.size w1 w') := fun w1 b d b2 d2 h1 h2 =>
    same_any (linesOf s) b b2 d d2 (by have := hlf.rows; omega) (fun i hi => by have := hlf.words i hi; omega) w1 h1 h2
  have HJ : Hid (∀ w1, Below w.heap.size w w1 → Calls Tryd.prog 18 #[.slice a wss.length c] w1 fun e w' => e = .returned (.tuple #[.string (strL (joinOut wss)), .int .i64 (joinErr wss)]) ∧ Below w1.heap.size w1 w') := fun w1 hb =>
    join_any wss a c (by have := hf.rows; omega) (fun i hi => by have := hf.words i hi; omega) (by have := hf.text; omega) w1 (HA.out.below hb)
  have HRJ : Hid (∀ w1, Below w.heap.size w w1 → Calls Tryd.prog 19 #[.slice a wss.length c] w1 fun e w' => e = .returned (.tuple #[.string (strL (joinOut wss)), .int .i64 (joinErr wss)]) ∧ w' = w1) := fun w1 hb =>
    refJoin_any wss a c (by have := hf.rows; omega) (fun i hi => by have := hf.words i hi; omega) (fun i hi j hj => by have := hf.bytes i hi j hj; omega) (by have := hf.text; omega) w1 (HA.out.below hb)
  have HAW : Hid (∀ w1, Below w.heap.size w w1 → Calls Tryd.prog 11 #[] w1 fun e w' => e = .returned (.bool true) ∧ Below w.heap.size w w') := fun w1 hb =>
    (awake_any w1 (HR.out.below hb)).mono fun e w' ⟨he, hb'⟩ => ⟨he, hb.trans (hb'.mono hb.size)⟩
  clear hr ha hf hlf hs
  obtain ⟨S, hS⟩ : ∃ S, Hid (strL s = S) := ⟨_, rfl⟩
  obtain ⟨R, hR⟩ : ∃ R, Hid (linesOf s = R) := ⟨_, rfl⟩
  obtain ⟨ln, hln⟩ : ∃ x, Hid (lineNo s = x) := ⟨_, rfl⟩
  obtain ⟨le, hle⟩ : ∃ x, Hid (lineErr s = x) := ⟨_, rfl⟩
  obtain ⟨JO, hJO⟩ : ∃ x, Hid (strL (joinOut wss) = x) := ⟨_, rfl⟩
  obtain ⟨JE, hJE⟩ : ∃ x, Hid (joinErr wss = x) := ⟨_, rfl⟩
  obtain ⟨n, hn⟩ : ∃ x, Hid (wss.length = x) := ⟨_, rfl⟩
  rw [hS.out, hR.out, hln.out, hle.out] at HLN HRL
  rw [hR.out] at HSM
  rw [hJO.out, hJE.out, hn.out] at HJ HRJ
  rw [hS.out, hn.out]
  obtain ⟨m, hm⟩ : ∃ x, Hid (R.length = x) := ⟨_, rfl⟩
  rw [hm.out] at HLN HRL HSM
  go_enter Tryd.func5, Tryd.ntmps5
  go_wp2_with (first
    | (go_at_call 16; with_reducible refine (HLN.out _ (Below.refl _ _)).mono ?_; clear HLN; rintro e w1 ⟨⟨b1, d1, rfl, hr1⟩, hb1⟩; have HR1 := hid hr1; clear hr1)
    | (go_at_call 17; with_reducible refine (HRL.out _).mono ?_; clear HRL; rintro e w2 ⟨⟨b2, d2, rfl, hr2⟩, hb2⟩; have HR2 := hid hr2; have HR3 := hid (HR1.out.below hb2); have hb3 := hb1.trans (hb2.mono hb1.size); clear hr2 HR1 hb1 hb2)
    | (go_at_call 18; with_reducible refine (HJ.out _ hb3).mono ?_; clear HJ; rintro e w3 ⟨rfl, hb4⟩; have HR4 := hid (HR2.out.below hb4); have HR5 := hid (HR3.out.below hb4); have hb5 := hb3.trans (hb4.mono hb3.size); clear HR2 HR3 hb3 hb4)
    | (go_at_call 19; with_reducible refine (HRJ.out _ hb5).mono ?_; clear HRJ; rintro e w4 ⟨rfl, hw⟩; rw [hw]; clear hw w4)
    | (go_at_call 20; with_reducible refine (HSM.out _ _ _ _ _ HR5.out HR4.out).mono ?_; clear HSM HR4 HR5; rintro e w5 ⟨rfl, hb6⟩; have hb7 := hb5.trans (hb6.mono hb5.size); clear hb6 hb5)
    | (go_at_call 11; with_reducible refine (HAW.out _ hb7).mono ?_; rintro e w7 ⟨rfl, hb8⟩))
  go_ret
  exact ⟨rfl, hb8⟩
end Go.Proofs.YtdlebjogbhgheaaDoor.textsLines
