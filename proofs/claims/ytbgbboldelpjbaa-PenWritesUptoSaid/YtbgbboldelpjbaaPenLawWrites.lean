/- PenWrites: for every pieces of a bulk of at most 2^20, what a pen writes is what the document says. -/
import Derived.Test.YtbgbboldelpjbaaPenBoth
namespace Go.Proofs.Ytbgbboldelpjbaa.penWrites
open Go.RowKit Go.Proofs.Ytbgbboldelpjbaa.pen Go.Proofs.Ytbgbboldelpjbaa.texts
set_option linter.unusedVariables false

set_option maxRecDepth 20000 in
set_option maxHeartbeats 3200000 in
theorem walk (al : Option Addr) (capl : Nat) (l : List Piece) (w : World)
    (ha : Acts w al l) (hf : ∀ p ∈ l, Fit p) (hll : l.length ≤ capl) (hcm : capl ≤ maxLen) (hsm : actsBulk l ≤ 1048576) : Calls Try.prog 3 #[.slice al l.length capl] w (Yes w) := by
  obtain ⟨i0, hif, hz0, hz1, hz2⟩ := info_parts info5
  have hlm : l.length ≤ 9223372036854775807 := by unfold maxLen at hcm; omega
  have c0 := new_any w
  have HA := hid ha
  have HF := hid hf
  have HL : Hid ((encs l).length ≤ 3145728) := by show _ ≤ _; have := encs_len l hf; omega
  have HS := hid hsm
  clear ha hf hsm
  obtain ⟨B, hB⟩ : ∃ B, Hid (w.heap.size = B) := ⟨_, rfl⟩
  rw [hB.out] at c0
  go_enter Try.func3, Try.ntmps3
  go_wp2_with (go_at_call 7; (with_reducible refine c0.mono ?_); clear c0; rintro e w1 ⟨rfl, hp1, hb1⟩)
  have HT : Hid (Both w B (.slice none 0 0) (.slice none 0 0) [] [] 0 w1) :=
    ⟨by rw [hB.out]; exact hp1, World.ownsRow_nil _ _ _ _, fun g hg => (by simp [Value.ownBlock] at hg), Nat.le_of_eq hB.out, by rw [hB.out]; exact hb1⟩
  clear hp1 hb1
  go_loopw [4, 5, 6] (fun u d i wr => ∃ (k : Nat) (vP : Value), k ≤ l.length ∧ i = .int .i64 (k : Int) ∧ d = .bool (illAny (l.take k)) ∧ Both w B vP u (encs (l.take k)) (encs (l.take k)) (errAll (l.take k)) wr)
    (fun u d i _ => l.length - (intOf i).toNat)
  case atStart => exact ⟨0, _, Nat.zero_le _, rfl, rfl, HT.out⟩
  case round =>
    obtain ⟨k, vP, hk, rfl, rfl, hT⟩ := hrel
    obtain ⟨aw, cw, rfl, hcw⟩ := ownsRow_slice hT.2.1
    have HT := hid hT
    clear hT
    by_cases hlt : k < l.length
    · have hi : (k : Int) < l.length := by omega
      obtain ⟨g, off, p, rfl, hg, hp, e1, e2, e3⟩ := HA.out.at hlt
      have hfp := HF.out p (List.mem_of_getElem? hp)
      have hps : p.2.2.length ≤ 1048576 := by have := actsBulk_mem (List.mem_of_getElem? hp); have := HS.out; omega
      have hxl : (encs (l.take k)).length ≤ 3145728 := Nat.le_trans (encs_take l k) HL.out
      have hel := enc_len p hfp
      have HK : Hid (∀ w', Below w.heap.size w w' → w'.cell? ⟨g, off + k * 3, none⟩ = some (.int .i64 p.1) ∧ w'.cell? ⟨g, off + k * 3 + 1, none⟩ = some (.int .i64 p.2.1) ∧ w'.cell? ⟨g, off + k * 3 + 2, none⟩ = some (.string (strL p.2.2))) := fun w' hb => ⟨(hb.cell (p := ⟨g, off + k * 3, none⟩) hg).trans e1, (hb.cell (p := ⟨g, off + k * 3 + 1, none⟩) hg).trans e2, (hb.cell (p := ⟨g, off + k * 3 + 2, none⟩) hg).trans e3⟩
      have dW : Hid (Calls Try.prog 8 #[.pointer (some ⟨B, 0, none⟩), .agg #[.int .i64 p.1, .int .i64 p.2.1, .string (strL p.2.2)]] wr fun e w' => e = .returned (.tuple #[]) ∧ ∃ vP', Both w B vP' (.slice aw (encs (l.take k)).length cw) (encs (l.take k) ++ enc p) (encs (l.take k)) (errOf p (errAll (l.take k))) w') :=
        (write_any w.heap.size B vP (encs (l.take k)) (errAll (l.take k)) wr HT.out.1 HT.out.2.2.2.2.size p hfp (by omega)).mono fun e w' h => HT.out.penned h
      have dR : Hid (∀ w', Calls Try.prog 9 #[.agg #[.int .i64 p.1, .int .i64 p.2.1, .string (strL p.2.2)]] w' (Copies (enc p) w')) := fun w' => wrote_any p hfp (by omega) w'
      obtain ⟨q1, q2, q3⟩ := HK.out wr HT.out.2.2.2.2
      have HE1 := hid (encs_step hp)
      have HE2 := hid (illAny_step hp)
      have HE3 := hid (errAll_step hp)
      have hill : ill p = (p.1 == 1 && decide (p.2.1 < 0)) := rfl
      obtain ⟨kd, n, t⟩ := p
      simp only at q1 q2 q3 dW dR HK hill hel hps
      obtain ⟨T, hT⟩ : ∃ T, Hid (strL t = T) := ⟨_, rfl⟩
      rw [hT.out] at q3 dW dR HK
      obtain ⟨X, hX⟩ : ∃ X, Hid (encs (l.take k) = X) := ⟨_, rfl⟩
      obtain ⟨Z, hZ⟩ : ∃ Z, Hid (enc (kd, n, t) = Z) := ⟨_, rfl⟩
      obtain ⟨b0, hb0⟩ : ∃ b, Hid (illAny (l.take k) = b) := ⟨_, rfl⟩
      rw [hX.out] at hxl dW HT HE1 hcw
      rw [hZ.out] at hel dW dR HE1
      rw [hb0.out, hill] at HE2
      rw [hX.out, hb0.out]
      have hm1 : Hid (X.length + Z.length ≤ maxLen) := by show _ ≤ _; unfold maxLen; omega
      have hm2 : Hid ((X.length + Z.length) * 1 ≤ 140737488355328) := by show _ ≤ _; omega
      clear hp hfp e1 e2 e3 hill hel hxl
      go_wp2_with (first
        | (go_at_call 8; (with_reducible refine dW.out.mono ?_); clear dW q1 q2 q3; rintro e w3 ⟨rfl, vP3, hT3⟩; obtain ⟨r1, r2, r3⟩ := HK.out w3 hT3.2.2.2.2; have HT3 := hid hT3; clear hT3)
        | (go_at_call 9; (with_reducible refine (dR.out _).mono ?_); clear dR r1 r2 r3; rintro e w4 ⟨u4, rfl, ho4, hb4⟩; obtain ⟨a4, k4, rfl, _⟩ := ownsRow_slice ho4; have HN4 := hid (Reads.news (Reads.own ho4)); have HT4 := hid (HT3.out.later hb4); clear ho4 hb4)
        | (at_builtin; refine wpList_append_at_from rfl _ _ 25 rfl w.heap.size 5 i0 (.int .u8 0) 1 Try.underlying25 hif hz0 hz1 hz2 rfl (.slice aw X.length cw) X.length (u8v X) rfl HT4.out.2.1 a4 Z.length k4 (u8v Z) rfl (u8v_length _) HN4.out (u8v_one _) hm1.out hm2.out HT4.out.2.2.2.2.size ?_))
      intro v5 w5 ho5 hg5 ha5
      have hT5 : Both w B vP3 v5 (encs (l.take (k + 1))) (encs (l.take (k + 1))) (errAll (l.take (k + 1))) w5 := by
        rw [HE1.out, HE3.out]
        exact HT4.out.grown hg5 ha5 (by rw [List.length_append, u8v_append]; exact ho5)
      obtain ⟨s1, s2, _⟩ := HK.out w5 hT5.2.2.2.2
      have HT5 := hid hT5
      clear hT5 ho5 hg5 ha5 HT4 HN4 HK hm1 hm2 HT3 HT
      cases b0
      · by_cases h1 : kd = 1
        · have x1 : (kd == 1) = true := by rw [beq_iff_eq]; exact h1
          by_cases h2 : n < 0
          · have x2 : decide (n < 0) = true := decide_eq_true h2
            rw [x1, x2] at HE2
            clear h1
            go_wp2
            exact ⟨⟨k + 1, vP3, by omega, by go_num, by rw [HE2.out]; rfl, HT5.out⟩, by simp [intOf]; omega⟩
          · have x2 : decide (n < 0) = false := decide_eq_false h2
            rw [x1, x2] at HE2
            clear h1
            go_wp2
            exact ⟨⟨k + 1, vP3, by omega, by go_num, by rw [HE2.out]; rfl, HT5.out⟩, by simp [intOf]; omega⟩
        · have x1 : (kd == 1) = false := by rw [beq_eq_false_iff_ne]; exact h1
          rw [x1] at HE2
          clear h1
          go_wp2
          exact ⟨⟨k + 1, vP3, by omega, by go_num, by rw [HE2.out]; rfl, HT5.out⟩, by simp [intOf]; omega⟩
      · go_wp2
        exact ⟨⟨k + 1, vP3, by omega, by go_num, by rw [HE2.out]; rfl, HT5.out⟩, by simp [intOf]; omega⟩
    · obtain rfl : k = l.length := by omega
      have hi : ¬ ((l.length : Int) < l.length) := by omega
      have HXl := HL
      have HT6 := HT.out
      rw [List.take_length] at HT6 hcw ⊢
      obtain ⟨X, hX⟩ : ∃ X, Hid (encs l = X) := ⟨_, rfl⟩
      rw [hX.out] at HT6 HXl hcw ⊢
      have hXi : (X.length : Int) ≤ 3145728 := by have := HXl.out; omega
      have hB6 := HT6.2.2.2.2
      cases hil : illAny l
      · rw [show errAll l = 0 by unfold errAll; rw [hil]; rfl] at HT6
        have c1 := done_any w.heap.size B vP X wr HT6.1 (by have := HXl.out; omega)
        have HR := hid (Reads.own HT6.2.1)
        have HB6 := hid hB6
        clear hil HT HT6 hB6
        go_wp2_with (first
          | (go_at_call 10; (with_reducible refine c1.mono ?_); clear c1; rintro e w7 ⟨u7, rfl, ho7, hb7⟩; obtain ⟨a7, k7, rfl, _⟩ := ownsRow_slice ho7; have hcv := Reads.str (P := Try.prog) (Reads.own ho7) 25 5 Try.underlying25 Try.underlying5 k7 9 Try.underlying9; have hcv2 := Reads.str (P := Try.prog) (HR.out.below hb7) 25 5 Try.underlying25 Try.underlying5 cw 9 Try.underlying9; have HB7 := hid (HB6.out.trans (hb7.mono HB6.out.size)); clear ho7 hb7; generalize strOf X = SX at hcv hcv2)
          | (go_at_call 11; (with_reducible refine (awake_any _).mono ?_); rintro e w8 ⟨rfl, hb8⟩))
        go_ret
        exact ⟨rfl, HB7.out.trans (hb8.mono HB7.out.size)⟩
      · rw [show errAll l = 2 by unfold errAll; rw [hil]; rfl] at HT6
        have c1 := done_bad w.heap.size B vP X wr HT6.1
        have HB6 := hid hB6
        clear hil HT HT6 hB6
        go_wp2_with (first
          | (go_at_call 10; (with_reducible refine c1.mono ?_); clear c1; rintro e w7 ⟨u7, rfl, ho7, hb7⟩; obtain ⟨a7, k7, rfl, _⟩ := ownsRow_slice ho7; rw [List.length_nil]; have HB7 := hid (HB6.out.trans (hb7.mono HB6.out.size)); clear ho7 hb7)
          | (go_at_call 11; (with_reducible refine (awake_any _).mono ?_); rintro e w8 ⟨rfl, hb8⟩))
        go_ret
        exact ⟨rfl, HB7.out.trans (hb8.mono HB7.out.size)⟩
end Go.Proofs.Ytbgbboldelpjbaa.penWrites
