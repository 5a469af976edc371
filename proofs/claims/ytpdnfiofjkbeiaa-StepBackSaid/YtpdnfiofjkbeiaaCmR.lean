/- Contracts and lemmas that the claims of this seat share: StepRefTake, StepRefParse, StepRefSameL, StepFix. Each says its own conditions. -/
import Derived.Test.YtpdnfiofjkbeiaaCmQ
import Derived.Test.YtpdnfiofjkbeiaaCmP
import Derived.WalkMore
import Derived.Deep.CutRange
import Derived.Test.YtpdnfiofjkbeiaaCmM
import Derived.Test.YtpdnfiofjkbeiaaCmL
import Derived.Test.YtpdnfiofjkbeiaaCmH
import Derived.Test.YtpdnfiofjkbeiaaCmO
/- Contract of the reference of layer 15 (step): take. No condition. -/
namespace Go.Proofs.Ytpdnfiofjkbeiaa.step
open Go.RowKit Go.Proofs.Ytpdnfiofjkbeiaa.pen
open Go.Proofs.Ytpdnfiofjkbeiaa.field (newB)
open Go.Proofs.Ytpdnfiofjkbeiaa.schema (eCount_le blk_but but_store eye_past fdV fdC exec_push_fd exec_put_fd exec_cell_slice' take_succ_at)
set_option linter.unusedVariables false

/-- what has been read behind k letters -/
def runU (op : Int) (e : Sight) (k : Nat) : Sp × Sight := run ((uses op).take k) (startS op, e)
theorem runU_succ {op : Int} {e : Sight} {k : Nat} {q : UInt8} (h : (uses op)[k]? = some q) : runU op e (k + 1) = takeL q (runU op e k).1 (runU op e k).2 := by
  unfold runU
  rw [take_succ_at h, run_app]
  rfl
theorem runU_all (op : Int) (e : Sight) : runU op e (uses op).length = run (uses op) (startS op, e) := by
  unfold runU
  rw [List.take_of_length_le (Nat.le_refl _)]
theorem runU_long (op : Int) (e : Sight) (k : Nat) : (runU op e k).1.t.length ≤ 900 ∧ (runU op e k).1.l.length ≤ 900 := by
  have h1 := run_long ((uses op).take k) (startS op) e (fun c hc => uses_letter op c (List.mem_of_mem_take hc))
  have h2 : ((uses op).take k).length ≤ 5 := by have := uses_len op; simp; omega
  have h4 : (startS op).t.length = 0 := rfl
  have h5 : (startS op).l.length = 0 := rfl
  unfold runU
  omega
set_option maxRecDepth 20000 in
set_option maxHeartbeats 6400000 in
theorem refTake_any (b : Nat) (e : Sight) (w : World) (h : EyeAt 79 b e w) : Calls Try.prog 44 #[.pointer (some ⟨b, 0, none⟩)] w (TakesS b e 79 w) := by
  obtain ⟨A, e1, hA⟩ : ∃ A q, eCount 30 e = (A, q) := ⟨_, _, rfl⟩
  have hT : takeS e = runU (A : Int) e1 (uses (A : Int)).length := by rw [runU_all]; unfold takeS; rw [hA]
  have hlt := h.lt
  have hb0 := newB w (.cells #[.int .i64 0, .int .i64 0, .int .i64 0, .int .i64 0, .int .i64 0, .int .i64 0, .int .i64 0, .int .i64 0, .int .i64 0, .int .i64 0, .int .i64 0, .int .i64 0, .int .i64 0, .string ⟨#[]⟩, .slice none 0 0, .slice none 0 0] 29)
  have c1 := refSee_any b e _ (h.later hb0) 30 (by omega) (by omega)
  rw [hA] at c1
  have HR0 := hid (Block.new w 29 Z16)
  have HB0 := hid hb0
  have hne : w.heap.size ≠ b := by omega
  have cU := fun w' => uses_any (A : Int) w'
  have hix := fun (k : Nat) (q : UInt8) (h : (uses (A : Int))[k]? = some q) W => usesS_at h W
  have hsz := usesS_size (A : Int)
  obtain ⟨S, hS⟩ : ∃ S, Hid (usesS (A : Int) = S) := ⟨_, hid rfl⟩
  rw [hS.out] at hsz hix
  simp only [hS.out] at cU
  have HIX := hid hix
  obtain ⟨N, hN⟩ : ∃ N : Nat, Hid ((uses (A : Int)).length = N) := ⟨_, hid rfl⟩
  have hN5 : N ≤ 5 := by rw [← hN.out]; exact uses_len _
  rw [hN.out] at hsz hT
  have HTT := hid hT
  unfold TakesS
  clear hT hA h hb0 hix
  unfold Saw at c1
  unfold field.Gives at cU
  go_enter Try.func44, Try.ntmps44
  go_wp2_with (first
    | (go_at_call 43; ((with_reducible refine c1.mono ?_); clear c1; rintro en w1 ⟨rfl, hE1, hu1⟩; have HR1 := hid (blk_but HR0.out hu1 hne); have hTS := TS.start hE1 (A : Int); have x0 : _ = some (Value.int .i64 (A : Int)) := hTS.f.cell 0; have HTS := hid hTS; have HU1 := hid hu1; clear hE1 hu1 hTS))
    | (go_at_call 21; ((with_reducible refine (cU _).mono ?_); rintro en w2 ⟨rfl, hb2⟩; have HTS2 := hid (HTS.out.later hb2); clear hb2)))
  clear cU x0
  have HB1 := hid ((Below.but HB0.out).trans (HU1.out.mono HB0.out.size))
  have HSZ := hid (show w.heap.size < w1.heap.size from HR1.out.lt)
  obtain ⟨T, hTe⟩ : ∃ T, Hid (w1.heap.size = T) := ⟨_, hid rfl⟩
  rw [hTe.out] at HTS2 HSZ ⊢
  go_loopw [5] (fun m wr => ∃ k : Nat, k ≤ N ∧ m = .int .i64 (k : Int) ∧ Hid (∃ ta tc la lc, TS 79 b T w1 (runU (A : Int) e1 k).1 (runU (A : Int) e1 k).2 ta tc la lc wr)) (fun m _ => N - (intOf m).toNat)
  case atStart => exact ⟨0, Nat.zero_le _, rfl, hid ⟨_, _, _, _, HTS2.out⟩⟩
  case round =>
    obtain ⟨k, hk, rfl, HS⟩ := hrel
    obtain ⟨ta, tc, la, lc, hSS⟩ := HS.out
    by_cases hltk : k < N
    · have hq0 := List.getElem?_eq_getElem (show k < (uses (A : Int)).length by rw [hN.out]; exact hltk)
      have i1 : (k : Int) < S.size := by rw [hsz]; omega
      have i2 : (k : Int) < N := by omega
      generalize (uses (A : Int))[k]'(show k < (uses (A : Int)).length by rw [hN.out]; exact hltk) = q at hq0
      have hlet := uses_letter _ q (List.mem_of_getElem? hq0)
      have HSUC := hid (runU_succ (e := e1) hq0)
      have hlg := runU_long (A : Int) e1 k
      obtain ⟨s, e0, hse⟩ : ∃ s e0, runU (A : Int) e1 k = (s, e0) := ⟨_, _, rfl⟩
      rw [hse] at hSS hlg HSUC
      simp only at hSS hlg HSUC
      have HQ := hid hq0
      have H0 := hid hSS
      clear hq0 hse HS hSS HTS2
      rcases hlet with rfl | rfl | rfl | rfl | rfl | rfl | rfl | rfl | rfl | rfl
      · have hx : ∀ W, (Instr.index 9 (.string S) (.int .i64 (k : Int))).run Try.prog W = .ok (.int .u8 102) W := fun W => HIX.out k _ HQ.out W
        obtain ⟨X, e2, hX⟩ : ∃ X q, eCount 200 e0 = (X, q) := ⟨_, _, rfl⟩
        have HT : Hid (takeL 102 s e0 = ({ s with fm := (X : Int) }, e2)) := hid (by
          show (({ s with fm := ((eCount 200 e0).1 : Int) } : Sp), (eCount 200 e0).2) = _
          rw [hX])
        have c1 := refSee_any b e0 wr H0.out.eye 200 (by omega) (by omega)
        rw [hX] at c1
        unfold Saw at c1
        clear hX
        go_wp2_with (go_at_call 43; ((with_reducible refine c1.mono ?_); clear c1; rintro en w3 ⟨rfl, hE3, hu3⟩; have hT3 := H0.out.call hE3 hu3; have hf3 := hT3.f; have x1 := hf3.cell 1; have p1 := hf3.frozen 1; have HT3 := hid hT3; clear hT3 hf3 hE3 hu3))
        exact ⟨⟨k + 1, by omega, by go_num, hid ⟨_, _, _, _, by rw [HSUC.out, HT.out]; exact HT3.out.put 1 (.int .i64 (X : Int)) _ rfl rfl rfl⟩⟩, by simp [intOf]; omega⟩
      · have hx : ∀ W, (Instr.index 9 (.string S) (.int .i64 (k : Int))).run Try.prog W = .ok (.int .u8 100) W := fun W => HIX.out k _ HQ.out W
        obtain ⟨X, e2, hX⟩ : ∃ X q, eCount 255 e0 = (X, q) := ⟨_, _, rfl⟩
        have HT : Hid (takeL 100 s e0 = ({ s with fd := (X : Int) }, e2)) := hid (by
          show (({ s with fd := ((eCount 255 e0).1 : Int) } : Sp), (eCount 255 e0).2) = _
          rw [hX])
        have c1 := refSee_any b e0 wr H0.out.eye 255 (by omega) (by omega)
        rw [hX] at c1
        unfold Saw at c1
        clear hX
        go_wp2_with (go_at_call 43; ((with_reducible refine c1.mono ?_); clear c1; rintro en w3 ⟨rfl, hE3, hu3⟩; have hT3 := H0.out.call hE3 hu3; have hf3 := hT3.f; have x2 := hf3.cell 2; have p2 := hf3.frozen 2; have HT3 := hid hT3; clear hT3 hf3 hE3 hu3))
        exact ⟨⟨k + 1, by omega, by go_num, hid ⟨_, _, _, _, by rw [HSUC.out, HT.out]; exact HT3.out.put 2 (.int .i64 (X : Int)) _ rfl rfl rfl⟩⟩, by simp [intOf]; omega⟩
      · have hx : ∀ W, (Instr.index 9 (.string S) (.int .i64 (k : Int))).run Try.prog W = .ok (.int .u8 112) W := fun W => HIX.out k _ HQ.out W
        obtain ⟨X, e2, hX⟩ : ∃ X q, eCount 8 e0 = (X, q) := ⟨_, _, rfl⟩
        have HT : Hid (takeL 112 s e0 = ({ s with pl := (X : Int) }, e2)) := hid (by
          show (({ s with pl := ((eCount 8 e0).1 : Int) } : Sp), (eCount 8 e0).2) = _
          rw [hX])
        have c1 := refSee_any b e0 wr H0.out.eye 8 (by omega) (by omega)
        rw [hX] at c1
        unfold Saw at c1
        clear hX
        go_wp2_with (go_at_call 43; ((with_reducible refine c1.mono ?_); clear c1; rintro en w3 ⟨rfl, hE3, hu3⟩; have hT3 := H0.out.call hE3 hu3; have hf3 := hT3.f; have x3 := hf3.cell 3; have p3 := hf3.frozen 3; have HT3 := hid hT3; clear hT3 hf3 hE3 hu3))
        exact ⟨⟨k + 1, by omega, by go_num, hid ⟨_, _, _, _, by rw [HSUC.out, HT.out]; exact HT3.out.put 3 (.int .i64 (X : Int)) _ rfl rfl rfl⟩⟩, by simp [intOf]; omega⟩
      · have hx : ∀ W, (Instr.index 9 (.string S) (.int .i64 (k : Int))).run Try.prog W = .ok (.int .u8 116) W := fun W => HIX.out k _ HQ.out W
        obtain ⟨X, e2, hX⟩ : ∃ X q, eCount 255 e0 = (X, q) := ⟨_, _, rfl⟩
        have HT : Hid (takeL 116 s e0 = ({ s with tt := (X : Int) }, e2)) := hid (by
          show (({ s with tt := ((eCount 255 e0).1 : Int) } : Sp), (eCount 255 e0).2) = _
          rw [hX])
        have c1 := refSee_any b e0 wr H0.out.eye 255 (by omega) (by omega)
        rw [hX] at c1
        unfold Saw at c1
        clear hX
        go_wp2_with (go_at_call 43; ((with_reducible refine c1.mono ?_); clear c1; rintro en w3 ⟨rfl, hE3, hu3⟩; have hT3 := H0.out.call hE3 hu3; have hf3 := hT3.f; have x4 := hf3.cell 4; have p4 := hf3.frozen 4; have HT3 := hid hT3; clear hT3 hf3 hE3 hu3))
        exact ⟨⟨k + 1, by omega, by go_num, hid ⟨_, _, _, _, by rw [HSUC.out, HT.out]; exact HT3.out.put 4 (.int .i64 (X : Int)) _ rfl rfl rfl⟩⟩, by simp [intOf]; omega⟩
      · have hx : ∀ W, (Instr.index 9 (.string S) (.int .i64 (k : Int))).run Try.prog W = .ok (.int .u8 97) W := fun W => HIX.out k _ HQ.out W
        obtain ⟨X, e2, hX⟩ : ∃ X q, eCount 1048576 e0 = (X, q) := ⟨_, _, rfl⟩
        have HT : Hid (takeL 97 s e0 = ({ s with a := (X : Int) }, e2)) := hid (by
          show (({ s with a := ((eCount 1048576 e0).1 : Int) } : Sp), (eCount 1048576 e0).2) = _
          rw [hX])
        have c1 := refSee_any b e0 wr H0.out.eye 1048576 (by omega) (by omega)
        rw [hX] at c1
        unfold Saw at c1
        clear hX
        go_wp2_with (go_at_call 43; ((with_reducible refine c1.mono ?_); clear c1; rintro en w3 ⟨rfl, hE3, hu3⟩; have hT3 := H0.out.call hE3 hu3; have hf3 := hT3.f; have x5 := hf3.cell 5; have p5 := hf3.frozen 5; have HT3 := hid hT3; clear hT3 hf3 hE3 hu3))
        exact ⟨⟨k + 1, by omega, by go_num, hid ⟨_, _, _, _, by rw [HSUC.out, HT.out]; exact HT3.out.put 5 (.int .i64 (X : Int)) _ rfl rfl rfl⟩⟩, by simp [intOf]; omega⟩
      · have hx : ∀ W, (Instr.index 9 (.string S) (.int .i64 (k : Int))).run Try.prog W = .ok (.int .u8 98) W := fun W => HIX.out k _ HQ.out W
        obtain ⟨X, e2, hX⟩ : ∃ X q, eInt e0 = (X, q) := ⟨_, _, rfl⟩
        obtain ⟨Y, e3, hY⟩ : ∃ X q, eInt e2 = (X, q) := ⟨_, _, rfl⟩
        have HT : Hid (takeL 98 s e0 = ({ s with a := X, b := Y }, e3)) := hid (by
          show (({ s with a := (eInt e0).1, b := (eInt (eInt e0).2).1 } : Sp), (eInt (eInt e0).2).2) = _
          rw [hX]; simp only; rw [hY])
        have c1 := refInt_any b e0 wr H0.out.eye
        have c2 := fun w' hE => refInt_any b e2 w' hE
        rw [hX] at c1
        rw [hY] at c2
        unfold Saw at c1 c2
        clear hX hY
        go_wp2_with (first
          | (go_at_call 69; ((with_reducible refine c1.mono ?_); clear c1; rintro en w3 ⟨rfl, hE3, hu3⟩; have hT3 := H0.out.call hE3 hu3; have hf3 := hT3.f; have x5 := hf3.cell 5; have p5 := hf3.frozen 5; have HT3 := hid (hT3.put 5 (.int .i64 X) { s with a := X } rfl rfl rfl); clear hT3 hf3 hE3 hu3))
          | (go_at_call 69; ((with_reducible refine (c2 _ HT3.out.eye).mono ?_); clear c2; rintro en w4 ⟨rfl, hE4, hu4⟩; have hT4 := HT3.out.call hE4 hu4; have hf4 := hT4.f; have x6 := hf4.cell 6; have p6 := hf4.frozen 6; have HT4 := hid hT4; clear hT4 hf4 hE4 hu4)))
        exact ⟨⟨k + 1, by omega, by go_num, hid ⟨_, _, _, _, by rw [HSUC.out, HT.out]; exact HT4.out.put 6 (.int .i64 Y) _ rfl rfl rfl⟩⟩, by simp [intOf]; omega⟩
      · have hx : ∀ W, (Instr.index 9 (.string S) (.int .i64 (k : Int))).run Try.prog W = .ok (.int .u8 70) W := fun W => HIX.out k _ HQ.out W
        obtain ⟨p, e2, hX⟩ : ∃ X q, takeA e0 = (X, q) := ⟨_, _, rfl⟩
        have HT : Hid (takeL 70 s e0 = ({ s with f := p }, e2)) := hid (by
          show (({ s with f := (takeA e0).1 } : Sp), (takeA e0).2) = _
          rw [hX])
        have c1 := refTakeField_any b e0 wr H0.out.eye
        rw [hX] at c1
        unfold Saw at c1
        simp only [field.Fd.val] at c1
        clear hX
        go_wp2_with (go_at_call 70; ((with_reducible refine c1.mono ?_); clear c1; rintro en w3 ⟨rfl, hE3, hu3⟩; have hT3 := H0.out.call hE3 hu3; have hf3 := hT3.f; have x7 := hf3.cell 7; have p7 := hf3.frozen 7; have x8 := hf3.cell 8; have p8 := hf3.frozen 8; have x9 := hf3.cell 9; have p9 := hf3.frozen 9; have x10 := hf3.cell 10; have p10 := hf3.frozen 10; have x11 := hf3.cell 11; have p11 := hf3.frozen 11; have HT3 := hid hT3; clear hT3 hf3 hE3 hu3))
        exact ⟨⟨k + 1, by omega, by go_num, hid ⟨_, _, _, _, by rw [HSUC.out, HT.out]; exact (HT3.out.putF p).1⟩⟩, by simp [intOf]; omega⟩
      · have hx : ∀ W, (Instr.index 9 (.string S) (.int .i64 (k : Int))).run Try.prog W = .ok (.int .u8 86) W := fun W => HIX.out k _ HQ.out W
        obtain ⟨n, e2, hX⟩ : ∃ X q, eInt e0 = (X, q) := ⟨_, _, rfl⟩
        obtain ⟨t, e3, hY⟩ : ∃ X q, eText 32 e2 = (X, q) := ⟨_, _, rfl⟩
        have HT : Hid (takeL 86 s e0 = ({ s with v := ⟨n, strOf t⟩ }, e3)) := hid (by
          show (({ s with v := ⟨(eInt e0).1, strOf (eText 32 (eInt e0).2).1⟩ } : Sp), (eText 32 (eInt e0).2).2) = _
          rw [hX]; simp only; rw [hY])
        have c1 := refInt_any b e0 wr H0.out.eye
        have c2 := fun w' hE => refSay_any b e2 w' hE 32 (by omega) (by omega)
        rw [hX] at c1
        rw [hY] at c2
        unfold Saw at c1 c2
        clear hX hY
        go_wp2_with (first
          | (go_at_call 69; ((with_reducible refine c1.mono ?_); clear c1; rintro en w3 ⟨rfl, hE3, hu3⟩; have hT3 := H0.out.call hE3 hu3; have hf3 := hT3.f; have x12 := hf3.cell 12; have p12 := hf3.frozen 12; have HT3 := hid (hT3.put 12 (.int .i64 n) { s with v := { s.v with n := n } } rfl rfl rfl); clear hT3 hf3 hE3 hu3))
          | (go_at_call 71; ((with_reducible refine (c2 _ HT3.out.eye).mono ?_); clear c2; rintro en w4 ⟨rfl, hE4, hu4⟩; have hT4 := HT3.out.call hE4 hu4; have hf4 := hT4.f; have x13 := hf4.cell 13; have p13 := hf4.frozen 13; have HT4 := hid hT4; clear hT4 hf4 hE4 hu4)))
        exact ⟨⟨k + 1, by omega, by go_num, hid ⟨_, _, _, _, by rw [HSUC.out, HT.out]; exact HT4.out.put 13 (.string (strOf t)) _ rfl rfl rfl⟩⟩, by simp [intOf]; omega⟩
      · have hx : ∀ W, (Instr.index 9 (.string S) (.int .i64 (k : Int))).run Try.prog W = .ok (.int .u8 84) W := fun W => HIX.out k _ HQ.out W
        obtain ⟨M, e2, hX⟩ : ∃ X q, eCount 64 e0 = (X, q) := ⟨_, _, rfl⟩
        have hM : M ≤ 64 := by have := eCount_le 64 e0; rw [show ((64 : Nat) : Int) = 64 from rfl, hX] at this; exact this
        have HT : Hid (takeL 84 s e0 = ({ s with t := s.t ++ (takeNs M e2).1 }, (takeNs M e2).2)) := hid (by
          show (({ s with t := s.t ++ (takeNs (eCount 64 e0).1 (eCount 64 e0).2).1 } : Sp), (takeNs (eCount 64 e0).1 (eCount 64 e0).2).2) = _
          rw [hX])
        have c1 := refSee_any b e0 wr H0.out.eye 64 (by omega) (by omega)
        rw [hX] at c1
        unfold Saw at c1
        have HLL := hid hlg.1
        clear hX hlg
        go_wp2_with (go_at_call 43; ((with_reducible refine c1.mono ?_); clear c1; rintro en w3 ⟨rfl, hE3, hu3⟩; have HT3 := hid (H0.out.call hE3 hu3); clear hE3 hu3))
        go_loopw [7] (fun m wq => ∃ j : Nat, j ≤ M ∧ m = .int .i64 (j : Int) ∧ Hid (∃ ta tc la lc, TS 79 b T w1 { s with t := s.t ++ (takeNs j e2).1 } (takeNs j e2).2 ta tc la lc wq)) (fun m _ => M - (intOf m).toNat)
        case atStart => exact ⟨0, Nat.zero_le _, rfl, hid ⟨_, _, _, _, by simpa [takeNs] using HT3.out⟩⟩
        case round =>
          obtain ⟨j, hj, rfl, HS⟩ := hrel
          obtain ⟨ta', tc', la', lc', hSj⟩ := HS.out
          by_cases hltj : j < M
          · have i3 : (j : Int) < M := by omega
            obtain ⟨p, e9, hp⟩ : ∃ p q, eCount 1000 (takeNs j e2).2 = (p, q) := ⟨_, _, rfl⟩
            have HT1 : Hid ((takeNs (j + 1) e2).1 = (takeNs j e2).1 ++ [(p : Int)]) := hid (by rw [takeNs, hp])
            have HT2 : Hid ((takeNs (j + 1) e2).2 = e9) := hid (by rw [takeNs, hp])
            have hxl : (takeNs j e2).1.length = j := takeNs_len j e2
            have cP := fun w' hE => refSee_any b (takeNs j e2).2 w' hE 1000 (by omega) (by omega)
            rw [hp] at cP
            skip
            unfold Saw at cP
            clear hp HS HT3
            have hlen : (s.t ++ (takeNs j e2).1).length ≤ 1000 := by have := HLL.out; rw [List.length_append, hxl]; omega
            generalize (takeNs j e2).1 = X at *
            generalize (takeNs j e2).2 = sk at *
            have HSj := hid (hSj.later (w' := wr.drew) (below_drewN (Below.refl _ _) 1))
            have HLEN := hid hlen
            clear hSj hlen hxl
            obtain ⟨Z, hZ⟩ : ∃ Z, Hid (s.t ++ X = Z) := ⟨_, hid rfl⟩
            rw [hZ.out] at HSj HLEN
            go_wp2
            refine plan.regionT (by kernel_rfl) ?_
            have hS := HSj.out
            refine plan.free 0 _ (.pointer (some ⟨T, 14, none⟩)) rfl (by kernel_rfl) (by kernel_rfl) (by kernel_rfl) (by kernel_rfl) (fun w' => (by kernel_rfl)) ?_
            refine plan.free 2 _ (.pointer (some ⟨b, 0, none⟩)) rfl (by kernel_rfl) (by kernel_rfl) (by kernel_rfl) (by kernel_rfl) (fun w' => (by kernel_rfl)) ?_
            refine plan.toL 3 (fun x y z => #[true, x, true, y, z, false, false, false]) rfl (by kernel_rfl) ?_
            refine plan.late 1 3 4 83 85 86 (by decide) (by decide) _ _ _ (fun x y z => #[true, x, true, y, z, false, false, false]) rfl rfl rfl rfl rfl rfl rfl rfl rfl (by intro y z; cases y <;> cases z <;> rfl) (by intro x; cases x <;> rfl) (by intro x; cases x <;> rfl)
              (by kernel_rfl) (by kernel_rfl) (by kernel_rfl) (by kernel_rfl) (by kernel_rfl) (.slice ta' Z.length tc') 43 #[.pointer (some ⟨b, 0, none⟩), .int .i64 1000]
              (fun v w' => v = (.int .i64 (p : Int)) ∧ TS 79 b T w1 { s with t := Z } e9 ta' tc' la' lc' w') (fun v w' => .slice (some ⟨w'.heap.size, 0, none⟩) 1 1) (fun v w' => w'.alloc (.cells #[.int .i64 (p : Int)] 3))
              (exec_cell_slice' (ad := ⟨T, 14, none⟩) rfl (by kernel_rfl) (hS.f.cell 14) Try.isAgg26)
              (fun v w' hM => exec_cell_slice' (ad := ⟨T, 14, none⟩) rfl (by kernel_rfl) (hM.2.f.cell 14) Try.isAgg26)
              (fun v w' hM => exec_cell_slice' (ad := ⟨T, 14, none⟩) rfl (by kernel_rfl) ((hM.2.f.alloc _).cell 14) Try.isAgg26)
              (by kernel_rfl) (by kernel_rfl) ((cP _ hS.eye).mono ?_) (fun v w' hM => by obtain ⟨rfl, _⟩ := hM; kernel_rfl) (fun v w' hM => by obtain ⟨rfl, _⟩ := hM; kernel_rfl) ?_
            · rintro en w4 ⟨rfl, hE4, hu4⟩
              exact ⟨_, rfl, rfl, hS.call hE4 hu4⟩
            · rintro v w4 ⟨rfl, hS4⟩
              have hS5 := hS4.later (newB w4 (.cells #[.int .i64 (p : Int)] 3))
              refine plan.oneE 5 _ (fun q w5 => w5.ownsRow (T + 1) 3 1 q (Z.length + 1) (intV (Z ++ [(p : Int)])) ∧ (w4.alloc (.cells #[.int .i64 (p : Int)] 3)).grownBy w5 (Value.slice ta' Z.length tc').ownBlock) rfl rfl (by kernel_rfl)
                (exec_push_int (g := w4.heap.size) rfl (by kernel_rfl) (by kernel_rfl) hS5.rt (Block.new w4 3 [.int .i64 (p : Int)]) HLEN.out hS5.f.lt) ?_
              rintro q w5 ⟨ho5, hg5⟩
              have hF5 := hS5.held (B := 0) hS5.rt hg5
              obtain ⟨qa, qc, rfl, _⟩ := ownsRow_slice ho5
              have hS6 := hS5.pushT hg5 ho5
              refine plan.oneT (w1 := w5) 6 _ (.pointer (some ⟨T, 14, none⟩)) rfl rfl (by kernel_rfl) (by kernel_rfl) ?_
              refine plan.lastT (w1 := w5.setCell ⟨T, 14, none⟩ (.slice qa (Z.length + 1) qc)) 7 _ rfl rfl rfl (by kernel_rfl) (by kernel_rfl) (exec_put_int (ad := ⟨T, 14, none⟩) rfl (by kernel_rfl) (by kernel_rfl) (hF5.cell 14) (hF5.frozen 14)) ?_
              have HS6 := hid hS6
              clear hS6 hF5 ho5 hg5 hS5 hS4 hS
              walk_nrm
              go_wp2
              exact ⟨⟨j + 1, by omega, by go_num, hid ⟨_, _, _, _, by rw [HT1.out, HT2.out, ← List.append_assoc, hZ.out]; exact HS6.out⟩⟩, by simp [intOf]; omega⟩
          · obtain rfl : j = M := by omega
            have HSE := hid hSj
            clear hSj HS
            go_wp2
            exact ⟨⟨k + 1, by omega, by go_num, hid ⟨_, _, _, _, by rw [HSUC.out, HT.out]; exact HSE.out⟩⟩, by simp [intOf]; omega⟩
      · have hx : ∀ W, (Instr.index 9 (.string S) (.int .i64 (k : Int))).run Try.prog W = .ok (.int .u8 76) W := fun W => HIX.out k _ HQ.out W
        obtain ⟨M, e2, hX⟩ : ∃ X q, eCount 8 e0 = (X, q) := ⟨_, _, rfl⟩
        have hM : M ≤ 8 := by have := eCount_le 8 e0; rw [show ((8 : Nat) : Int) = 8 from rfl, hX] at this; exact this
        have HT : Hid (takeL 76 s e0 = ({ s with l := s.l ++ (takeAs M e2).1 }, (takeAs M e2).2)) := hid (by
          show (({ s with l := s.l ++ (takeAs (eCount 8 e0).1 (eCount 8 e0).2).1 } : Sp), (takeAs (eCount 8 e0).1 (eCount 8 e0).2).2) = _
          rw [hX])
        have c1 := refSee_any b e0 wr H0.out.eye 8 (by omega) (by omega)
        rw [hX] at c1
        unfold Saw at c1
        have HLL := hid hlg.2
        clear hX hlg
        go_wp2_with (go_at_call 43; ((with_reducible refine c1.mono ?_); clear c1; rintro en w3 ⟨rfl, hE3, hu3⟩; have HT3 := hid (H0.out.call hE3 hu3); clear hE3 hu3))
        go_loopw [9] (fun m wq => ∃ j : Nat, j ≤ M ∧ m = .int .i64 (j : Int) ∧ Hid (∃ ta tc la lc, TS 79 b T w1 { s with l := s.l ++ (takeAs j e2).1 } (takeAs j e2).2 ta tc la lc wq)) (fun m _ => M - (intOf m).toNat)
        case atStart => exact ⟨0, Nat.zero_le _, rfl, hid ⟨_, _, _, _, by simpa [takeAs] using HT3.out⟩⟩
        case round =>
          obtain ⟨j, hj, rfl, HS⟩ := hrel
          obtain ⟨ta', tc', la', lc', hSj⟩ := HS.out
          by_cases hltj : j < M
          · have i3 : (j : Int) < M := by omega
            obtain ⟨p, e9, hp⟩ : ∃ p q, takeA (takeAs j e2).2 = (p, q) := ⟨_, _, rfl⟩
            have HT1 : Hid ((takeAs (j + 1) e2).1 = (takeAs j e2).1 ++ [p]) := hid (by rw [takeAs, hp])
            have HT2 : Hid ((takeAs (j + 1) e2).2 = e9) := hid (by rw [takeAs, hp])
            have hxl : (takeAs j e2).1.length = j := takeAs_len j e2
            have cP := fun w' hE => refTakeField_any b (takeAs j e2).2 w' hE
            rw [hp] at cP
            simp only [field.Fd.val] at cP
            unfold Saw at cP
            clear hp HS HT3
            have hlen : (s.l ++ (takeAs j e2).1).length ≤ 1000 := by have := HLL.out; rw [List.length_append, hxl]; omega
            generalize (takeAs j e2).1 = X at *
            generalize (takeAs j e2).2 = sk at *
            have HSj := hid (hSj.later (w' := wr.drew) (below_drewN (Below.refl _ _) 1))
            have HLEN := hid hlen
            clear hSj hlen hxl
            obtain ⟨Z, hZ⟩ : ∃ Z, Hid (s.l ++ X = Z) := ⟨_, hid rfl⟩
            rw [hZ.out] at HSj HLEN
            go_wp2
            refine plan.regionT (by kernel_rfl) ?_
            have hS := HSj.out
            refine plan.free 0 _ (.pointer (some ⟨T, 15, none⟩)) rfl (by kernel_rfl) (by kernel_rfl) (by kernel_rfl) (by kernel_rfl) (fun w' => (by kernel_rfl)) ?_
            refine plan.free 2 _ (.pointer (some ⟨b, 0, none⟩)) rfl (by kernel_rfl) (by kernel_rfl) (by kernel_rfl) (by kernel_rfl) (fun w' => (by kernel_rfl)) ?_
            refine plan.toL 3 (fun x y z => #[true, x, true, y, z, false, false, false]) rfl (by kernel_rfl) ?_
            refine plan.late 1 3 4 99 101 102 (by decide) (by decide) _ _ _ (fun x y z => #[true, x, true, y, z, false, false, false]) rfl rfl rfl rfl rfl rfl rfl rfl rfl (by intro y z; cases y <;> cases z <;> rfl) (by intro x; cases x <;> rfl) (by intro x; cases x <;> rfl)
              (by kernel_rfl) (by kernel_rfl) (by kernel_rfl) (by kernel_rfl) (by kernel_rfl) (.slice la' Z.length lc') 70 #[.pointer (some ⟨b, 0, none⟩)]
              (fun v w' => v = (.agg #[.int .i64 p.id, .int .i64 p.kind, .int .i64 p.lo, .int .i64 p.hi, .int .i64 p.most]) ∧ TS 79 b T w1 { s with l := Z } e9 ta' tc' la' lc' w') (fun v w' => .slice (some ⟨w'.heap.size, 0, none⟩) 1 1) (fun v w' => w'.alloc (.cells #[.int .i64 p.id, .int .i64 p.kind, .int .i64 p.lo, .int .i64 p.hi, .int .i64 p.most] 23))
              (exec_cell_slice' (ad := ⟨T, 15, none⟩) rfl (by kernel_rfl) (hS.f.cell 15) Try.isAgg27)
              (fun v w' hM => exec_cell_slice' (ad := ⟨T, 15, none⟩) rfl (by kernel_rfl) (hM.2.f.cell 15) Try.isAgg27)
              (fun v w' hM => exec_cell_slice' (ad := ⟨T, 15, none⟩) rfl (by kernel_rfl) ((hM.2.f.alloc _).cell 15) Try.isAgg27)
              (by kernel_rfl) (by kernel_rfl) ((cP _ hS.eye).mono ?_) (fun v w' hM => by obtain ⟨rfl, _⟩ := hM; kernel_rfl) (fun v w' hM => by obtain ⟨rfl, _⟩ := hM; kernel_rfl) ?_
            · rintro en w4 ⟨rfl, hE4, hu4⟩
              exact ⟨_, rfl, rfl, hS.call hE4 hu4⟩
            · rintro v w4 ⟨rfl, hS4⟩
              have hS5 := hS4.later (newB w4 (.cells #[.int .i64 p.id, .int .i64 p.kind, .int .i64 p.lo, .int .i64 p.hi, .int .i64 p.most] 23))
              refine plan.oneE 5 _ (fun q w5 => w5.ownsRow (T + 1) 23 5 q (Z.length + 1) (fdV (Z ++ [p])) ∧ (w4.alloc (.cells #[.int .i64 p.id, .int .i64 p.kind, .int .i64 p.lo, .int .i64 p.hi, .int .i64 p.most] 23)).grownBy w5 (Value.slice la' Z.length lc').ownBlock) rfl rfl (by kernel_rfl)
                (exec_push_fd (g := w4.heap.size) rfl (by kernel_rfl) (by kernel_rfl) hS5.rl (Block.new w4 23 (fdC p)) HLEN.out hS5.f.lt) ?_
              rintro q w5 ⟨ho5, hg5⟩
              have hF5 := hS5.held (B := 0) hS5.rl hg5
              obtain ⟨qa, qc, rfl, _⟩ := ownsRow_slice ho5
              have hS6 := hS5.pushL hg5 ho5
              refine plan.oneT (w1 := w5) 6 _ (.pointer (some ⟨T, 15, none⟩)) rfl rfl (by kernel_rfl) (by kernel_rfl) ?_
              refine plan.lastT (w1 := w5.setCell ⟨T, 15, none⟩ (.slice qa (Z.length + 1) qc)) 7 _ rfl rfl rfl (by kernel_rfl) (by kernel_rfl) (exec_put_fd (ad := ⟨T, 15, none⟩) rfl (by kernel_rfl) (by kernel_rfl) (hF5.cell 15) (hF5.frozen 15)) ?_
              have HS6 := hid hS6
              clear hS6 hF5 ho5 hg5 hS5 hS4 hS
              walk_nrm
              go_wp2
              exact ⟨⟨j + 1, by omega, by go_num, hid ⟨_, _, _, _, by rw [HT1.out, HT2.out, ← List.append_assoc, hZ.out]; exact HS6.out⟩⟩, by simp [intOf]; omega⟩
          · obtain rfl : j = M := by omega
            have HSE := hid hSj
            clear hSj HS
            go_wp2
            exact ⟨⟨k + 1, by omega, by go_num, hid ⟨_, _, _, _, by rw [HSUC.out, HT.out]; exact HSE.out⟩⟩, by simp [intOf]; omega⟩
    · obtain rfl : k = N := by omega
      have HR2 := hid (HR1.out.but hSS.but HSZ.out hne)
      have i1 : ¬ (k : Int) < S.size := by rw [hsz]; omega
      obtain ⟨s, hs⟩ : ∃ s, Hid ((runU (A : Int) e1 k).1 = s) := ⟨_, hid rfl⟩
      rw [hs.out] at hSS
      have HS2 := hid hSS
      have hR2 := HR2.out
      have hf := hSS.f
      have x0 := hR2.cell 0
      have p0 := hR2.frozen 0
      have y0 := hf.cell 0
      have x1 := hR2.cell 1
      have p1 := hR2.frozen 1
      have y1 := hf.cell 1
      have x2 := hR2.cell 2
      have p2 := hR2.frozen 2
      have y2 := hf.cell 2
      have x3 := hR2.cell 3
      have p3 := hR2.frozen 3
      have y3 := hf.cell 3
      have x4 := hR2.cell 4
      have p4 := hR2.frozen 4
      have y4 := hf.cell 4
      have x5 := hR2.cell 5
      have p5 := hR2.frozen 5
      have y5 := hf.cell 5
      have x6 := hR2.cell 6
      have p6 := hR2.frozen 6
      have y6 := hf.cell 6
      have x7 := hR2.cell 7
      have p7 := hR2.frozen 7
      have y7 := hf.cell 7
      have x8 := hR2.cell 8
      have p8 := hR2.frozen 8
      have y8 := hf.cell 8
      have x9 := hR2.cell 9
      have p9 := hR2.frozen 9
      have y9 := hf.cell 9
      have x10 := hR2.cell 10
      have p10 := hR2.frozen 10
      have y10 := hf.cell 10
      have x11 := hR2.cell 11
      have p11 := hR2.frozen 11
      have y11 := hf.cell 11
      have x12 := hR2.cell 12
      have p12 := hR2.frozen 12
      have y12 := hf.cell 12
      have x13 := hR2.cell 13
      have p13 := hR2.frozen 13
      have y13 := hf.cell 13
      have x14 := hR2.cell 14
      have p14 := hR2.frozen 14
      have y14 := hf.cell 14
      have x15 := hR2.cell 15
      have p15 := hR2.frozen 15
      have y15 := hf.cell 15
      clear hSS HS hR2 hf
      go_wp2
      obtain ⟨k1, k2, k3, k4⟩ := takeS_end HS2.out HR2.out HB1.out hlt HSZ.out
      exact bodyPost_ret (results_cell (b := w.heap.size) (o := 0) rfl rfl k1.whole Try.underlying29 rfl (st_info16 _ _ _ _ _ _ _ _ _ _ _ _ _ _ _ _)) rfl ⟨⟨s, ta, tc, la, lc⟩, rfl, by rw [HTT.out]; exact hs.out.symm, k2, by rw [HTT.out]; exact k3, k4⟩
end Go.Proofs.Ytpdnfiofjkbeiaa.step
/- Contract of the reference of layer 15 (step): Parse. No condition but bytes that are fewer than 2^47. -/
namespace Go.Proofs.Ytpdnfiofjkbeiaa.step
open Go.RowKit Go.Proofs.Ytpdnfiofjkbeiaa.pen
open Go.Proofs.Ytpdnfiofjkbeiaa.field (newB)
open Go.Proofs.Ytpdnfiofjkbeiaa.schema (eCount_le)
set_option linter.unusedVariables false

theorem eye_lit (xs : List Nat) (w : World) (a : Option Addr) (c : Nat) (t : TypeId) (hr : Reads .u8 w a xs.length xs) (hc : xs.length ≤ c) (hx : ∀ c ∈ xs, c < 256) (hl : xs.length ≤ 140737488355328) :
    EyeAt t w.heap.size (xs, 0) (w.alloc (.cells #[.slice a xs.length c, .int .i64 0] t)) := by
  refine ⟨hx, hl, a, c, Block.new w t [.slice a xs.length c, .int .i64 0], hc, hr.below ((Below.refl _ _).alloc (Nat.le_refl _) _), fun h0 x hx => ?_⟩
  rcases hr.2 with e | ⟨b', off, ha, hlt, _⟩
  · simp only at h0; omega
  · rw [hx] at ha; cases ha; exact hlt
theorem rightsE_yes {L : List Sp} (hl : L.length ≤ 40) (h : Rights L) : rightsE L = 0 := by unfold rightsE; rw [if_neg (by omega), if_pos h]
theorem rightsE_not {L : List Sp} (hl : L.length ≤ 40) (h : ¬ Rights L) : rightsE L = 2 := by unfold rightsE; rw [if_neg (by omega), if_neg h]
set_option maxRecDepth 20000 in
set_option maxHeartbeats 3200000 in
theorem refParse_any (a : Option Addr) (c : Nat) (xs : List Nat) (w : World) (hr : Reads .u8 w a xs.length xs) (hc : xs.length ≤ c) (hx : ∀ c ∈ xs, c < 256) (hl : xs.length ≤ 140737488355328) :
    Calls Try.prog 16 #[.slice a xs.length c] w (ParsedAs xs w) := by
  obtain ⟨N, e1, hN⟩ : ∃ N q, eCount 40 (xs, 0) = (N, q) := ⟨_, _, rfl⟩
  have hN40 : N ≤ 40 := by have := eCount_le 40 (xs, 0); rw [show ((40 : Nat) : Int) = 40 from rfl, hN] at this; exact this
  have HP : Hid (parsed xs = (if eEnd (takeSs N e1).2 ≠ 0 then ([], eEnd (takeSs N e1).2) else if Rights (takeSs N e1).1 then ((takeSs N e1).1, 0) else ([], 2))) := hid (by
    have h3 : readL xs = takeSs N e1 := by unfold readL; rw [hN]
    unfold parsed
    rw [h3])
  have hb1 := newB w (.cells #[.slice a xs.length c, .int .i64 0] 79)
  have c1 := refSee_any w.heap.size (xs, 0) _ (eye_lit xs w a c 79 hr hc hx hl) 40 (by omega) (by omega)
  rw [hN] at c1
  have HB1 := hid hb1
  obtain ⟨b, hbe⟩ : ∃ b, Hid (w.heap.size = b) := ⟨_, hid rfl⟩
  clear hN hr hx hl hc hb1
  simp only at c1
  unfold Saw at c1
  rw [hbe.out] at c1
  go_enter Try.func16, Try.ntmps16
  go_wp2_with ((try rw [hbe.out]); go_at_call 43; ((with_reducible refine c1.mono ?_); clear c1; rintro en w2 ⟨rfl, hE2, hu2⟩; have HLS := hid (LS.start hE2)))
  have HB2 := hid (show Below w.heap.size w w2 from HB1.out.trans ((hu2.mono HB1.out.size).below (Nat.le_refl _) (Nat.le_of_eq hbe.out)))
  have HBB := hid (show w.heap.size ≤ b from Nat.le_of_eq hbe.out)
  obtain ⟨B, hB⟩ : ∃ B, Hid (w2.heap.size = B) := ⟨_, hid rfl⟩
  rw [hB.out] at HLS
  have HWB := hid (show w.heap.size ≤ B by rw [← hB.out]; exact HB2.out.size)
  clear hu2 hE2
  go_loopw [5, 7] (fun l m wr => ∃ k : Nat, k ≤ N ∧ m = .int .i64 (k : Int) ∧ ∃ (ua : Option Addr) (uc : Nat), l = .slice ua k uc ∧ Hid (∃ P, P.length = k ∧ sps P = (takeSs k e1).1 ∧ LS 79 b B w2 P (takeSs k e1).2 ua uc wr)) (fun _ m _ => N - (intOf m).toNat)
  case atStart => exact ⟨0, Nat.zero_le _, rfl, none, 0, rfl, hid ⟨[], rfl, rfl, HLS.out⟩⟩
  case round =>
    obtain ⟨k, hk, rfl, ua, uc, rfl, HS⟩ := hrel
    obtain ⟨P, hPk, hPs, hS⟩ := HS.out
    by_cases hlt2 : k < N
    · have i1 : (k : Int) < N := by omega
      obtain ⟨p0, e4, hp⟩ : ∃ p q, takeS (takeSs k e1).2 = (p, q) := ⟨_, _, rfl⟩
      have HT1 : Hid ((takeSs (k + 1) e1).1 = (takeSs k e1).1 ++ [p0]) := hid (by rw [takeSs, hp])
      have HT2 : Hid ((takeSs (k + 1) e1).2 = e4) := hid (by rw [takeSs, hp])
      have cP := fun w' hE => refTake_any b (takeSs k e1).2 w' hE
      unfold TakesS at cP
      rw [hp] at cP
      clear hp HS HLS
      have HPS := hid hPs
      have HPK := hid hPk
      clear hPs hPk
      generalize (takeSs k e1).1 = L at *
      generalize (takeSs k e1).2 = sk at *
      have HSS := hid hS
      clear hS
      go_upto_region 7 with fail
      refine plan.line ?_
      refine plan.line_same 0 _ (.slice ua k uc) rfl (by kernel_rfl) (by kernel_rfl) ?_
      refine plan.line_same 1 _ (.pointer (some ⟨b, 0, none⟩)) rfl (by kernel_rfl) (by kernel_rfl) ?_
      refine plan.line_call 2 _ 44 #[.pointer (some ⟨b, 0, none⟩)] rfl (by kernel_rfl) (by kernel_rfl) ((cP _ HSS.out.eye).mono ?_)
      rintro en w3 ⟨p, rfl, hps, hpo, hE3, hu3⟩
      refine ⟨_, rfl, ?_⟩
      have hS3 := HSS.out.call hE3 hu3
      have hO3 := hpo.low HSS.out.size
      obtain ⟨s, ta, tc, la, lc⟩ := p
      have hN3 := newB w3 (.cells #[.int .i64 s.op, .int .i64 s.fm, .int .i64 s.fd, .int .i64 s.pl, .int .i64 s.tt, .int .i64 s.a, .int .i64 s.b, .int .i64 s.f.id, .int .i64 s.f.kind, .int .i64 s.f.lo, .int .i64 s.f.hi, .int .i64 s.f.most, .int .i64 s.v.n, .string s.v.s, .slice ta s.t.length tc, .slice la s.l.length lc] 29)
      have hS4 := hS3.later hN3
      have hO4 := hO3.later hN3
      have HO4 := hid hO4
      have HPE : Hid (s = p0) := hid hps
      refine plan.line_value (w1 := w3.alloc (.cells #[.int .i64 s.op, .int .i64 s.fm, .int .i64 s.fd, .int .i64 s.pl, .int .i64 s.tt, .int .i64 s.a, .int .i64 s.b, .int .i64 s.f.id, .int .i64 s.f.kind, .int .i64 s.f.lo, .int .i64 s.f.hi, .int .i64 s.f.most, .int .i64 s.v.n, .string s.v.s, .slice ta s.t.length tc, .slice la s.l.length lc] 29)) 3 _ (.slice (some ⟨w3.heap.size, 0, none⟩) 1 1) rfl (by kernel_rfl) (by kernel_rfl) ?_
      have hrow := hS4.row
      rw [HPK.out] at hrow
      refine plan.line_any 4 _ (fun q w5 => w5.ownsRow B 29 16 q (k + 1) (stV (P ++ [⟨s, ta, tc, la, lc⟩])) ∧ (w3.alloc (.cells #[.int .i64 s.op, .int .i64 s.fm, .int .i64 s.fd, .int .i64 s.pl, .int .i64 s.tt, .int .i64 s.a, .int .i64 s.b, .int .i64 s.f.id, .int .i64 s.f.kind, .int .i64 s.f.lo, .int .i64 s.f.hi, .int .i64 s.f.most, .int .i64 s.v.n, .string s.v.s, .slice ta s.t.length tc, .slice la s.l.length lc] 29)).grownBy w5 (Value.slice ua k uc).ownBlock) rfl (by kernel_rfl)
        (exec_push_st (L := P) (p := ⟨s, ta, tc, la, lc⟩) (g := w3.heap.size) rfl (by kernel_rfl) (by kernel_rfl) hrow (Block.new w3 29 [.int .i64 s.op, .int .i64 s.fm, .int .i64 s.fd, .int .i64 s.pl, .int .i64 s.tt, .int .i64 s.a, .int .i64 s.b, .int .i64 s.f.id, .int .i64 s.f.kind, .int .i64 s.f.lo, .int .i64 s.f.hi, .int .i64 s.f.most, .int .i64 s.v.n, .string s.v.s, .slice ta s.t.length tc, .slice la s.l.length lc]) (by omega) hS4.size) ?_
      rintro q w5 ⟨ho5, hg5⟩
      obtain ⟨qa, qc, rfl, _⟩ := ownsRow_slice ho5
      have hS6 := hS4.push (p := ⟨s, ta, tc, la, lc⟩) (q := qa) (qc := qc) HO4.out (by rw [HPK.out]; exact hg5) (by rw [HPK.out]; exact ho5)
      refine plan.line_same 5 _ (.slice qa (k + 1) qc) rfl (by kernel_rfl) (by kernel_rfl) ?_
      refine plan.line_done (by decide) ?_
      have HS6 := hid hS6
      clear hS6 ho5 hg5 hS4 hS3 hO3 hO4 hN3 hrow hps hpo hE3 hu3
      walk_nrm
      go_wp2
      exact ⟨⟨k + 1, by omega, by go_num, qa, qc, rfl, hid ⟨P ++ [⟨s, ta, tc, la, lc⟩], by simp [HPK.out], by rw [HT1.out, ← HPS.out, ← HPE.out]; simp [sps], by rw [HT2.out]; exact HS6.out⟩⟩, by simp [intOf]; omega⟩
    · obtain rfl : k = N := by omega
      have hbw : w.heap.size ≤ b := HBB.out
      have HBW := hid (show Below w.heap.size w wr from HB2.out.trans (hS.but.below HWB.out hbw))
      have HLL := hid hS
      have HPK := hid hPk
      have HPS := hid hPs
      have cE : Calls Try.prog 45 #[.pointer (some ⟨b, 0, none⟩)] wr (field.Gives (.int .i64 (eEnd (takeSs k e1).2 : Int)) wr) := (refEnd_any b _ wr hS.eye).mono (by rintro e w' ⟨rfl, m, rfl⟩; exact ⟨rfl, below_drewN (Below.refl _ _) m⟩)
      unfold field.Gives at cE
      clear HS hS hPk hPs HLS
      by_cases hE : eEnd (takeSs k e1).2 = 0
      · rw [hE] at cE
        have HP2 := HP.out
        rw [if_neg (by rw [hE]; simp)] at HP2
        have HP2 := hid HP2
        have cR := fun w' (hb : Below wr.heap.size wr w') => refRights_any ua uc P w' (HLL.out.list.below hb) (by have := HPK.out; unfold maxLen; omega)
        rw [HPK.out, HPS.out] at cR
        unfold field.Gives at cR
        have hlen : (takeSs k e1).1.length ≤ 40 := by rw [takeSs_len]; exact hN40
        clear HP hE
        by_cases hri : Rights (takeSs k e1).1
        · have HP3 : Hid (parsed xs = ((takeSs k e1).1, 0)) := hid (by rw [HP2.out, if_pos hri])
          rw [rightsE_yes hlen hri] at cR
          clear HP2 hri hlen
          go_wp2_with (first
            | (go_at_call 45; ((with_reducible refine cE.mono ?_); rintro en w5 ⟨rfl, hb5⟩))
            | (go_at_call 13; ((with_reducible refine (cR _ hb5).mono ?_); rintro en w6 ⟨rfl, hb6⟩)))
          go_ret2
          refine ⟨ua, uc, P, by rw [HPK.out, HP3.out]; rfl, by rw [HP3.out]; exact HPS.out, (HLL.out.list.below hb5).below hb6, by rw [HPK.out]; exact hN40, (HBW.out.trans (hb5.mono HBW.out.size)).trans (hb6.mono (Nat.le_trans HBW.out.size hb5.size))⟩
        · have HP3 : Hid (parsed xs = ([], 2)) := hid (by rw [HP2.out, if_neg hri])
          rw [rightsE_not hlen hri] at cR
          clear HP2 hri hlen
          go_wp2_with (first
            | (go_at_call 45; ((with_reducible refine cE.mono ?_); rintro en w5 ⟨rfl, hb5⟩))
            | (go_at_call 13; ((with_reducible refine (cR _ hb5).mono ?_); rintro en w6 ⟨rfl, hb6⟩)))
          go_ret2
          exact parse_none HP3.out ((HBW.out.trans (hb5.mono HBW.out.size)).trans (hb6.mono (Nat.le_trans HBW.out.size hb5.size)))
      · have HP2 : Hid (parsed xs = ([], eEnd (takeSs k e1).2)) := hid (by rw [HP.out, if_pos hE])
        have hne : ((eEnd (takeSs k e1).2 : Int) == 0) = false := by rw [beq_eq_false_iff_ne]; omega
        have hne2 : ((eEnd (takeSs k e1).2 : Int) != 0) = true := by simp [hE]
        generalize eEnd (takeSs k e1).2 = E at *
        clear HP hE
        go_wp2_with (go_at_call 45; ((with_reducible refine cE.mono ?_); rintro en w5 ⟨rfl, hb5⟩))
        go_ret2
        exact parse_none HP2.out (HBW.out.trans (hb5.mono HBW.out.size))
end Go.Proofs.Ytpdnfiofjkbeiaa.step
/- Contract of the reference of layer 15 (step): SameList. No condition. -/
namespace Go.Proofs.Ytpdnfiofjkbeiaa.step
open Go.RowKit
open Go.Proofs.Ytpdnfiofjkbeiaa.field (Gives newB gives_from)
open Go.Proofs.Ytpdnfiofjkbeiaa.schema (below_out below_drew exec_load_at range_later take_succ_at)
set_option linter.unusedVariables false

theorem exec_indexP {o : Oper} {a : Act} {w : World} {x y : Operand} {b off len cap i : Nat} (ho : o.op = .indexAddr 31 x y) (hx : a.eval x = .slice (some ⟨b, off, none⟩) len cap) (hy : a.eval y = .int .i64 (i : Int)) (hi : i < len) :
    (execOp a.eval o).run Try.prog w = .ok (.value (.pointer (some ⟨b, off + i * 16, none⟩))) w := by
  unfold execOp
  rw [ho]
  simp only [hx, hy]
  go_simp
/-- the step k, as one range, in a later world -/
theorem step_range {w w' : World} {a : Option Addr} {L : List St} (h : StL w a L) (hb : Below w.heap.size w w') {k : Nat} (hk : k < L.length) :
    ∃ b off p, a = some ⟨b, off, none⟩ ∧ b < w'.heap.size ∧ L[k]? = some p ∧ Lists w' p.s p.ta p.la ∧ w'.rangeAt b (off + k * 16) p.C := by
  have h' := h.below hb
  rcases h'.row with rfl | ⟨b, off, ha, hlt, hc⟩
  · simp at hk
  · have hp := List.getElem?_eq_getElem hk
    exact ⟨b, off, _, ha, hlt, hp, h'.each _ (List.mem_of_getElem? hp), fun j v hj => hc k _ hp j v hj⟩
theorem eq_succ {L M : List Sp} {k : Nat} {p q : Sp} (hp : L[k]? = some p) (hq : M[k]? = some q) : L.take (k + 1) = M.take (k + 1) ↔ L.take k = M.take k ∧ p = q := by
  rw [take_succ_at hp, take_succ_at hq]
  constructor
  · intro h
    have := List.append_inj' h rfl
    exact ⟨this.1, by simpa using this.2⟩
  · rintro ⟨h1, h2⟩; rw [h1, h2]
set_option maxRecDepth 20000 in
set_option maxHeartbeats 1600000 in
theorem refSameList_any (a : Option Addr) (c : Nat) (L : List St) (b : Option Addr) (d : Nat) (M : List St) (w : World) (h : StL w a L) (h' : StL w b M) (hL : L.length ≤ maxLen) (hM : M.length ≤ maxLen) :
    Calls Try.prog 17 #[.slice a L.length c, .slice b M.length d] w (Gives (.bool (decide (sps L = sps M))) w) := by
  have hml : (L.length : Int) ≤ 9223372036854775807 := by unfold maxLen at hL; omega
  have hmm : (M.length : Int) ≤ 9223372036854775807 := by unfold maxLen at hM; omega
  have HF := hid h
  have HG := hid h'
  have HLN := hid (sps_length L)
  have HMN := hid (sps_length M)
  obtain ⟨r, hr⟩ : ∃ r : Bool, Hid (decide (sps L = sps M) = r) := ⟨_, rfl⟩
  rw [hr.out]
  unfold Gives
  clear h h' hL hM
  by_cases hlen : L.length = M.length
  · have HLEN := hid hlen
    rw [← hlen]
    clear hlen hmm
    go_enter Try.func17, Try.ntmps17
    go_wp2
    go_loopw [5] (fun n wr => ∃ k : Nat, k ≤ L.length ∧ n = .int .i64 (k : Int) ∧ Hid ((sps L).take k = (sps M).take k) ∧ Hid (Below w.heap.size w wr)) (fun n _ => L.length - (intOf n).toNat)
    case atStart => exact ⟨0, Nat.zero_le _, rfl, hid rfl, hid (Below.refl _ _)⟩
    case round =>
      obtain ⟨k, hk, rfl, HEQ, HB⟩ := hrel
      by_cases hlt : k < L.length
      · obtain ⟨g, off, p, rfl, hbl, hp, hlp, c0⟩ := step_range HF.out (below_drew HB.out) hlt
        obtain ⟨g', off', q, rfl, hbl', hq, hlq, d0⟩ := step_range HG.out (below_drew HB.out) (k := k) (by rw [← HLEN.out]; exact hlt)
        have i1 : (k : Int) < L.length := by omega
        have HS := hid (eq_succ (sps_at hp) (sps_at hq))
        have HNE := hid (fun (hpq : ¬ p.s = q.s) => show ¬ sps L = sps M from fun e => by have h1 := sps_at hp; rw [e] at h1; exact hpq (Option.some.inj (h1.symm.trans (sps_at hq))))
        obtain ⟨s, ta, tc, la, lc⟩ := p
        obtain ⟨u, ua, uc, va, vc⟩ := q
        simp only at HS HNE c0 d0 hlp hlq
        have cS := refSame_any s ta tc la lc u ua uc va vc wr.drew hlp hlq
        unfold Gives at cS
        have HP1 : Hid (wr.drew.rangeAt g (off + k * 16) [.int .i64 s.op, .int .i64 s.fm, .int .i64 s.fd, .int .i64 s.pl, .int .i64 s.tt, .int .i64 s.a, .int .i64 s.b, .int .i64 s.f.id, .int .i64 s.f.kind, .int .i64 s.f.lo, .int .i64 s.f.hi, .int .i64 s.f.most, .int .i64 s.v.n, .string s.v.s, .slice ta s.t.length tc, .slice la s.l.length lc]) := hid c0
        have HP2 : Hid (wr.drew.rangeAt g' (off' + k * 16) [.int .i64 u.op, .int .i64 u.fm, .int .i64 u.fd, .int .i64 u.pl, .int .i64 u.tt, .int .i64 u.a, .int .i64 u.b, .int .i64 u.f.id, .int .i64 u.f.kind, .int .i64 u.f.lo, .int .i64 u.f.hi, .int .i64 u.f.most, .int .i64 u.v.n, .string u.v.s, .slice ua u.t.length uc, .slice va u.l.length vc]) := hid d0
        have HL1 := hid hbl
        have HL2 := hid hbl'
        clear hp hq hlp hlq c0 d0
        by_cases hpq : s = u
        · rw [decide_eq_true hpq] at cS
          have HPQ := hid hpq
          clear hpq
          go_wp2
          refine plan.regionS (S := fun w' => Below wr.drew.heap.size wr.drew w') (by kernel_rfl) ?_
          have hS := Below.refl wr.drew.heap.size wr.drew
          refine plan.firstS 0 _ (.slice (some ⟨g, off, none⟩) L.length c) rfl (by kernel_rfl) (by kernel_rfl) (by kernel_rfl) (by kernel_rfl) (fun w' hS' => (by kernel_rfl)) hS ?_
          refine plan.firstS 1 _ (.int .i64 (k : Int)) rfl (by kernel_rfl) (by kernel_rfl) (by kernel_rfl) (by kernel_rfl) (fun w' hS' => (by kernel_rfl)) hS ?_
          refine plan.firstS 2 _ (.pointer (some ⟨g, off + k * 16, none⟩)) rfl (by kernel_rfl) (by kernel_rfl) (by kernel_rfl) (by kernel_rfl) (fun w' hS' => exec_indexP (cap := c) rfl (by kernel_rfl) (by kernel_rfl) hlt) hS ?_
          refine plan.firstS 3 _ (.agg #[.int .i64 s.op, .int .i64 s.fm, .int .i64 s.fd, .int .i64 s.pl, .int .i64 s.tt, .int .i64 s.a, .int .i64 s.b, .int .i64 s.f.id, .int .i64 s.f.kind, .int .i64 s.f.lo, .int .i64 s.f.hi, .int .i64 s.f.most, .int .i64 s.v.n, .string s.v.s, .slice ta s.t.length tc, .slice la s.l.length lc]) rfl (by kernel_rfl) (by kernel_rfl) (by kernel_rfl) (by kernel_rfl) (fun w' hS' => exec_load_at (b := g) (off := off + k * 16) rfl (by kernel_rfl) (range_later HP1.out hS' HL1.out) Try.underlying29 rfl info_st.out) hS ?_
          refine plan.firstS 4 _ (.slice (some ⟨g', off', none⟩) L.length d) rfl (by kernel_rfl) (by kernel_rfl) (by kernel_rfl) (by kernel_rfl) (fun w' hS' => (by kernel_rfl)) hS ?_
          refine plan.firstS 5 _ (.int .i64 (k : Int)) rfl (by kernel_rfl) (by kernel_rfl) (by kernel_rfl) (by kernel_rfl) (fun w' hS' => (by kernel_rfl)) hS ?_
          refine plan.firstS 6 _ (.pointer (some ⟨g', off' + k * 16, none⟩)) rfl (by kernel_rfl) (by kernel_rfl) (by kernel_rfl) (by kernel_rfl) (fun w' hS' => exec_indexP (cap := d) rfl (by kernel_rfl) (by kernel_rfl) hlt) hS ?_
          refine plan.firstS 7 _ (.agg #[.int .i64 u.op, .int .i64 u.fm, .int .i64 u.fd, .int .i64 u.pl, .int .i64 u.tt, .int .i64 u.a, .int .i64 u.b, .int .i64 u.f.id, .int .i64 u.f.kind, .int .i64 u.f.lo, .int .i64 u.f.hi, .int .i64 u.f.most, .int .i64 u.v.n, .string u.v.s, .slice ua u.t.length uc, .slice va u.l.length vc]) rfl (by kernel_rfl) (by kernel_rfl) (by kernel_rfl) (by kernel_rfl) (fun w' hS' => exec_load_at (b := g') (off := off' + k * 16) rfl (by kernel_rfl) (range_later HP2.out hS' HL2.out) Try.underlying29 rfl info_st.out) hS ?_
          refine plan.callS 8 _ 11 #[.agg #[.int .i64 s.op, .int .i64 s.fm, .int .i64 s.fd, .int .i64 s.pl, .int .i64 s.tt, .int .i64 s.a, .int .i64 s.b, .int .i64 s.f.id, .int .i64 s.f.kind, .int .i64 s.f.lo, .int .i64 s.f.hi, .int .i64 s.f.most, .int .i64 s.v.n, .string s.v.s, .slice ta s.t.length tc, .slice la s.l.length lc], .agg #[.int .i64 u.op, .int .i64 u.fm, .int .i64 u.fd, .int .i64 u.pl, .int .i64 u.tt, .int .i64 u.a, .int .i64 u.b, .int .i64 u.f.id, .int .i64 u.f.kind, .int .i64 u.f.lo, .int .i64 u.f.hi, .int .i64 u.f.most, .int .i64 u.v.n, .string u.v.s, .slice ua u.t.length uc, .slice va u.l.length vc]] rfl (by kernel_rfl) (by kernel_rfl) (by kernel_rfl) (cS.mono ?_)
          rintro e w3 ⟨rfl, hb3⟩
          refine ⟨_, rfl, hb3, ?_⟩
          refine plan.firstS 9 _ (.bool false) rfl (by kernel_rfl) (by kernel_rfl) (by kernel_rfl) (by kernel_rfl) (fun w' hS' => (by kernel_rfl)) hb3 ?_
          refine plan.doneS (by kernel_rfl) ?_
          have HB3 := hid ((below_drew HB.out).trans (hb3.mono (below_drew HB.out).size))
          clear hb3 hS cS
          walk_nrm
          go_wp2
          exact ⟨⟨k + 1, by omega, by go_num, hid (HS.out.2 ⟨HEQ.out, HPQ.out⟩), HB3⟩, by simp [intOf]; omega⟩
        · rw [decide_eq_false hpq] at cS
          obtain rfl : false = r := by rw [← hr.out]; exact (decide_eq_false (HNE.out hpq)).symm
          clear hpq
          go_wp2
          refine plan.regionS (S := fun w' => Below wr.drew.heap.size wr.drew w') (by kernel_rfl) ?_
          have hS := Below.refl wr.drew.heap.size wr.drew
          refine plan.firstS 0 _ (.slice (some ⟨g, off, none⟩) L.length c) rfl (by kernel_rfl) (by kernel_rfl) (by kernel_rfl) (by kernel_rfl) (fun w' hS' => (by kernel_rfl)) hS ?_
          refine plan.firstS 1 _ (.int .i64 (k : Int)) rfl (by kernel_rfl) (by kernel_rfl) (by kernel_rfl) (by kernel_rfl) (fun w' hS' => (by kernel_rfl)) hS ?_
          refine plan.firstS 2 _ (.pointer (some ⟨g, off + k * 16, none⟩)) rfl (by kernel_rfl) (by kernel_rfl) (by kernel_rfl) (by kernel_rfl) (fun w' hS' => exec_indexP (cap := c) rfl (by kernel_rfl) (by kernel_rfl) hlt) hS ?_
          refine plan.firstS 3 _ (.agg #[.int .i64 s.op, .int .i64 s.fm, .int .i64 s.fd, .int .i64 s.pl, .int .i64 s.tt, .int .i64 s.a, .int .i64 s.b, .int .i64 s.f.id, .int .i64 s.f.kind, .int .i64 s.f.lo, .int .i64 s.f.hi, .int .i64 s.f.most, .int .i64 s.v.n, .string s.v.s, .slice ta s.t.length tc, .slice la s.l.length lc]) rfl (by kernel_rfl) (by kernel_rfl) (by kernel_rfl) (by kernel_rfl) (fun w' hS' => exec_load_at (b := g) (off := off + k * 16) rfl (by kernel_rfl) (range_later HP1.out hS' HL1.out) Try.underlying29 rfl info_st.out) hS ?_
          refine plan.firstS 4 _ (.slice (some ⟨g', off', none⟩) L.length d) rfl (by kernel_rfl) (by kernel_rfl) (by kernel_rfl) (by kernel_rfl) (fun w' hS' => (by kernel_rfl)) hS ?_
          refine plan.firstS 5 _ (.int .i64 (k : Int)) rfl (by kernel_rfl) (by kernel_rfl) (by kernel_rfl) (by kernel_rfl) (fun w' hS' => (by kernel_rfl)) hS ?_
          refine plan.firstS 6 _ (.pointer (some ⟨g', off' + k * 16, none⟩)) rfl (by kernel_rfl) (by kernel_rfl) (by kernel_rfl) (by kernel_rfl) (fun w' hS' => exec_indexP (cap := d) rfl (by kernel_rfl) (by kernel_rfl) hlt) hS ?_
          refine plan.firstS 7 _ (.agg #[.int .i64 u.op, .int .i64 u.fm, .int .i64 u.fd, .int .i64 u.pl, .int .i64 u.tt, .int .i64 u.a, .int .i64 u.b, .int .i64 u.f.id, .int .i64 u.f.kind, .int .i64 u.f.lo, .int .i64 u.f.hi, .int .i64 u.f.most, .int .i64 u.v.n, .string u.v.s, .slice ua u.t.length uc, .slice va u.l.length vc]) rfl (by kernel_rfl) (by kernel_rfl) (by kernel_rfl) (by kernel_rfl) (fun w' hS' => exec_load_at (b := g') (off := off' + k * 16) rfl (by kernel_rfl) (range_later HP2.out hS' HL2.out) Try.underlying29 rfl info_st.out) hS ?_
          refine plan.callS 8 _ 11 #[.agg #[.int .i64 s.op, .int .i64 s.fm, .int .i64 s.fd, .int .i64 s.pl, .int .i64 s.tt, .int .i64 s.a, .int .i64 s.b, .int .i64 s.f.id, .int .i64 s.f.kind, .int .i64 s.f.lo, .int .i64 s.f.hi, .int .i64 s.f.most, .int .i64 s.v.n, .string s.v.s, .slice ta s.t.length tc, .slice la s.l.length lc], .agg #[.int .i64 u.op, .int .i64 u.fm, .int .i64 u.fd, .int .i64 u.pl, .int .i64 u.tt, .int .i64 u.a, .int .i64 u.b, .int .i64 u.f.id, .int .i64 u.f.kind, .int .i64 u.f.lo, .int .i64 u.f.hi, .int .i64 u.f.most, .int .i64 u.v.n, .string u.v.s, .slice ua u.t.length uc, .slice va u.l.length vc]] rfl (by kernel_rfl) (by kernel_rfl) (by kernel_rfl) (cS.mono ?_)
          rintro e w3 ⟨rfl, hb3⟩
          refine ⟨_, rfl, hb3, ?_⟩
          refine plan.firstS 9 _ (.bool true) rfl (by kernel_rfl) (by kernel_rfl) (by kernel_rfl) (by kernel_rfl) (fun w' hS' => (by kernel_rfl)) hb3 ?_
          refine plan.doneS (by kernel_rfl) ?_
          have HB3 := hid ((below_drew HB.out).trans (hb3.mono (below_drew HB.out).size))
          clear hb3 hS cS
          walk_nrm
          go_wp2
          go_ret
          exact ⟨rfl, HB3.out⟩
      · obtain rfl : k = L.length := by omega
        obtain rfl : true = r := by
          rw [← hr.out]
          have := HEQ.out
          rw [List.take_of_length_le (by rw [HLN.out]; exact Nat.le_refl _), List.take_of_length_le (by rw [HMN.out, HLEN.out]; exact Nat.le_refl _)] at this
          exact (decide_eq_true this).symm
        go_wp2
        go_ret
        exact ⟨rfl, HB.out⟩
  · obtain rfl : false = r := by rw [← hr.out]; exact (decide_eq_false (fun e => hlen (by rw [← HLN.out, e, HMN.out]))).symm
    have hd : ((L.length : Int) != (M.length : Int)) = true := by simp; omega
    have hd2 : ((L.length : Int) == (M.length : Int)) = false := by rw [beq_eq_false_iff_ne]; omega
    clear hlen
    go_enter Try.func17, Try.ntmps17
    go_wp2
    go_ret
    exact ⟨rfl, Below.refl _ _⟩
end Go.Proofs.Ytpdnfiofjkbeiaa.step
/- What Parse answers at bytes that are known; how long a list's bytes can be. No condition. -/
namespace Go.Proofs.Ytpdnfiofjkbeiaa.step
open Go.RowKit Go.Proofs.Ytpdnfiofjkbeiaa.pen
open Go.Proofs.Ytpdnfiofjkbeiaa.field (bytesOf bytesOf_lt)
set_option linter.unusedVariables false

def FixAs (PL : List Sp) (Z : Int) (w : World) (en : Ending) (w' : World) : Prop :=
  ∃ (a : Option Addr) (c : Nat) (P : List St), en = .returned (.tuple #[.slice a P.length c, .int .i64 Z]) ∧ sps P = PL ∧ StL w' a P ∧ P.length ≤ 40 ∧ Below w.heap.size w w'
theorem parse_fix {a : Option Addr} {c : Nat} {xs : List Nat} {w : World} (hr : Reads .u8 w a xs.length xs) (hx : ∀ c ∈ xs, c < 256) (hl : xs.length ≤ 140737488355328) {P : List Sp} {E : Nat} (Z : Int) (hz : Z = (E : Int)) (hP : parsed xs = (P, E)) :
    Calls Try.prog 15 #[.slice a xs.length c] w (FixAs P Z w) := by
  have h := parse_any a c xs w hr hx hl
  unfold ParsedAs at h
  rw [hP] at h
  rw [hz]
  exact h
theorem refParse_fix {a : Option Addr} {c : Nat} {xs : List Nat} {w : World} (hr : Reads .u8 w a xs.length xs) (hc : xs.length ≤ c) (hx : ∀ c ∈ xs, c < 256) (hl : xs.length ≤ 140737488355328) {P : List Sp} {E : Nat} (Z : Int) (hz : Z = (E : Int)) (hP : parsed xs = (P, E)) :
    Calls Try.prog 16 #[.slice a xs.length c] w (FixAs P Z w) := by
  have h := refParse_any a c xs w hr hc hx hl
  unfold ParsedAs at h
  rw [hP] at h
  rw [hz]
  exact h
theorem letB_lt (s : Sp) (q : UInt8) : ∀ c ∈ s.letB q, c < 256 := by
  have hf : ∀ f : field.Fd, ∀ c ∈ fieldA f, c < 256 := by
    intro f c hc
    unfold fieldA at hc
    simp only [List.mem_append] at hc
    rcases hc with (((h | h) | h) | h) | h <;> exact vb_lt _ c h
  intro c hc
  unfold Sp.letB at hc
  split at hc
  · exact vb_lt _ c hc
  split at hc
  · exact vb_lt _ c hc
  split at hc
  · exact vb_lt _ c hc
  split at hc
  · exact vb_lt _ c hc
  split at hc
  · exact vb_lt _ c hc
  split at hc
  · rcases List.mem_append.1 hc with h | h <;> exact vb_lt _ c h
  split at hc
  · exact hf _ c hc
  split at hc
  · rcases List.mem_append.1 hc with h | h
    · exact vb_lt _ c h
    · rcases List.mem_append.1 h with h | h
      · exact vb_lt _ c h
      · exact bytesOf_lt _ c h
  split at hc
  · rcases List.mem_append.1 hc with h | h
    · exact vb_lt _ c h
    · unfold numsA at h
      obtain ⟨l, hl, h⟩ := List.mem_flatten.1 h
      obtain ⟨n, _, rfl⟩ := List.mem_map.1 hl
      exact vb_lt _ c h
  · rcases List.mem_append.1 hc with h | h
    · exact vb_lt _ c h
    · unfold fieldsA at h
      obtain ⟨l, hl, h⟩ := List.mem_flatten.1 h
      obtain ⟨n, _, rfl⟩ := List.mem_map.1 hl
      exact hf _ c h
theorem stepB_lt (s : Sp) : ∀ c ∈ s.stepB, c < 256 := by
  intro c hc
  unfold Sp.stepB at hc
  rcases List.mem_append.1 hc with h | h
  · exact vb_lt _ c h
  · obtain ⟨l, hl, h⟩ := List.mem_flatten.1 h
    obtain ⟨n, _, rfl⟩ := List.mem_map.1 hl
    exact letB_lt s n c h
theorem listB_lt (L : List Sp) : ∀ c ∈ listB L, c < 256 := by
  intro c hc
  unfold listB at hc
  rcases List.mem_append.1 hc with h | h
  · exact vb_lt _ c h
  · obtain ⟨l, hl, h⟩ := List.mem_flatten.1 h
    obtain ⟨n, _, rfl⟩ := List.mem_map.1 hl
    exact stepB_lt n c h
theorem listB_len {L : List Sp} (h : Rights L) (hl : L.length ≤ 40) : (listB L).length ≤ 300000 := by
  have h1 := stepsB_len h hl L.length
  rw [List.take_of_length_le (Nat.le_refl _)] at h1
  have h2 := vb_ten L.length (by omega)
  unfold listB
  unfold stepsB at h1
  rw [List.length_append]
  omega
/-- what rightsE says -/
theorem rightsE_zero {L : List Sp} (h : rightsE L = 0) : L.length ≤ 40 ∧ Rights L := by
  unfold rightsE at h
  by_cases h1 : 40 < L.length
  · rw [if_pos h1] at h; cases h
  · rw [if_neg h1] at h
    by_cases h2 : Rights L
    · exact ⟨by omega, h2⟩
    · rw [if_neg h2] at h; cases h
theorem print_zero (a : Option Addr) (c : Nat) (L : List St) (w : World) (h : StL w a L) (hE : rightsE (sps L) = 0) :
    Calls Try.prog 12 #[.slice a L.length c] w (pen.Gives (listB (sps L)) 0 w) := by
  obtain ⟨h1, h2⟩ := rightsE_zero hE
  exact print_yes a c L w h (by rw [← sps_length]; exact h1) h2
theorem print_bad (a : Option Addr) (c : Nat) (L : List St) (w : World) (h : StL w a L) (hL : L.length ≤ maxLen) (E : Nat) (hE : rightsE (sps L) = E) (h0 : E ≠ 0) :
    Calls Try.prog 12 #[.slice a L.length c] w fun e w' => e = .returned (.tuple #[.slice none 0 0, .int .i64 (E : Int)]) ∧ Below w.heap.size w w' := by
  have h1 := print_any a c L w h hL
  unfold PrintPost at h1
  rw [hE] at h1
  simp only [if_neg h0] at h1
  exact h1
theorem same_lists {PL : List Sp} (a : Option Addr) (c : Nat) (L : List St) (b : Option Addr) (d : Nat) (M : List St) (w : World) (h : StL w a L) (h' : StL w b M) (hL : L.length ≤ 60) (hM : M.length ≤ 60) (e1 : sps L = PL) (e2 : sps M = PL) :
    Calls Try.prog 17 #[.slice a L.length c, .slice b M.length d] w (field.Gives (.bool true) w) := by
  have h1 := refSameList_any a c L b d M w h h' (by unfold maxLen; omega) (by unfold maxLen; omega)
  rw [decide_eq_true (e1.trans e2.symm)] at h1
  exact h1
end Go.Proofs.Ytpdnfiofjkbeiaa.step
