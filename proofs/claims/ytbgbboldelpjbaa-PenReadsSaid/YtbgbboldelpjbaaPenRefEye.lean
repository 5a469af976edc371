/- Contracts of the reference's eye: Take, Byte, Word and End. No condition. -/
import Derived.Test.YtbgbboldelpjbaaPenSight
import Derived.Test.YtbgbboldelpjbaaPenGroups
namespace Go.Proofs.Ytbgbboldelpjbaa.pen
open Go.RowKit Go.Proofs.Ytbgbboldelpjbaa.texts
set_option linter.unusedVariables false

theorem Stand.tookTo {t : TypeId} {b : Nat} {r : List Nat} {w : World} {a : Option Addr} {c : Nat} (h : Stand t b r 0 w a c) (n : Nat) (hn : n ≤ r.length) :
    Took t b (r.take n) (r.drop n, 0) w (.returned (.slice (shift a 0 c) n c)) (w.setCell ⟨b, 0, none⟩ (.slice (shift a n c) (r.length - n) (c - n))) :=
  h.took n hn c (Nat.le_trans hn h.room) 0 w rfl
theorem take_any (b : Nat) (s : Sight) (w : World) (h : EyeAt 39 b s w) (n : Nat) (hn : n ≤ 9223372036854775807) :
    Calls Try.prog 38 #[.pointer (some ⟨b, 0, none⟩), .int .i64 (n : Int)] w (Took 39 b (eNext n s).1 (eNext n s).2 w) := by
  obtain ⟨r, z⟩ := s
  have HE := hid h
  obtain ⟨a, c, st⟩ := h.stand
  clear h
  have c1 := st.rest
  have c2 := st.err
  have f0 := st.block.frozen 0
  have f1 := st.block.frozen 1
  have hlen := st.len
  by_cases hz : z = 0
  · subst hz
    rw [show ((0 : Nat) : Int) = 0 from rfl] at c2
    by_cases hs : r.length < n
    · rw [eNext_short n r hs]
      have hi : (r.length : Int) < n := by omega
      have hf := hid (HE.out.fail 5)
      clear st hs
      go_enter Try.func38, Try.ntmps38
      go_wp2
      go_ret
      exact ⟨none, 0, rfl, Nat.le_refl _, Reads.nil, hf.out.1, hf.out.2⟩
    · rw [eNext_take n r (by omega)]
      have hi : ¬ (r.length : Int) < n := by omega
      have hroom := st.room
      have e1 := fun W => cut_to W a r.length c n (by omega)
      have e2 := fun W => cut_from W a r.length c n (by omega)
      have HT := hid (st.tookTo n (by omega))
      obtain ⟨A1, hA1⟩ : ∃ A, Hid (shift a 0 c = A) := ⟨_, rfl⟩
      obtain ⟨A2, hA2⟩ : ∃ A, Hid (shift a n c = A) := ⟨_, rfl⟩
      rw [hA1.out] at e1 HT
      rw [hA2.out] at e2 HT
      clear st hs
      go_enter Try.func38, Try.ntmps38
      go_wp2
      go_ret
      exact HT.out
  · rw [eNext_bad n r z hz]
    have hi : ((z : Int) != 0) = true := by rw [bne_iff_ne]; omega
    have hi2 : ((z : Int) == 0) = false := by rw [beq_eq_false_iff_ne]; omega
    clear st hz
    go_enter Try.func38, Try.ntmps38
    go_wp2
    go_ret
    exact ⟨none, 0, rfl, Nat.le_refl _, Reads.nil, HE.out, But.refl _ _ _⟩
theorem refEnd_any (b : Nat) (s : Sight) (w : World) (h : EyeAt 39 b s w) : Calls Try.prog 26 #[.pointer (some ⟨b, 0, none⟩)] w (Quiet (.int .i64 (eEnd s : Int)) w) := by
  obtain ⟨r, z⟩ := s
  obtain ⟨a, c, st⟩ := h.stand
  have c1 := st.rest
  have c2 := st.err
  have hlen := st.len
  clear h st
  by_cases hz : z = 0
  · have hi : ((z : Int) == 0) = true := by rw [hz]; rfl
    by_cases hl : 0 < r.length
    · have hj : (0 : Int) < r.length := by omega
      rw [show eEnd (r, z) = 6 from if_pos ⟨hz, hl⟩]
      clear hz hl
      go_enter Try.func26, Try.ntmps26
      go_wp2
      go_ret
      exact ⟨rfl, 0, rfl⟩
    · have hj : ¬ (0 : Int) < r.length := by omega
      rw [show eEnd (r, z) = z from if_neg (fun h => hl h.2)]
      clear hz hl
      go_enter Try.func26, Try.ntmps26
      go_wp2
      go_ret
      exact ⟨rfl, 0, rfl⟩
  · have hi : ((z : Int) == 0) = false := by rw [beq_eq_false_iff_ne]; omega
    rw [show eEnd (r, z) = z from if_neg (fun h => hz h.1)]
    clear hz
    go_enter Try.func26, Try.ntmps26
    go_wp2
    go_ret
    exact ⟨rfl, 0, rfl⟩
theorem refByte_any (b : Nat) (s : Sight) (w : World) (h : EyeAt 39 b s w) :
    Calls Try.prog 14 #[.pointer (some ⟨b, 0, none⟩)] w (Saw 39 b (.int .u8 ((eNum 1 s).1 : Int)) (eNum 1 s).2 w) := by
  have c0 := take_any b s w h 1 (by omega)
  have hl1 := eNext_len 1 s
  unfold eNum
  obtain ⟨r, hr⟩ : ∃ r, Hid ((eNext 1 s).1 = r) := ⟨_, rfl⟩
  obtain ⟨s', hs'⟩ : ∃ s', Hid ((eNext 1 s).2 = s') := ⟨_, rfl⟩
  simp only [hr.out, hs'.out] at c0 hl1 ⊢
  rw [show ((1 : Nat) : Int) = 1 from rfl] at c0
  clear h hr hs'
  match r, hl1, c0 with
  | [], _, c0 =>
    rw [show folded [] = 0 from rfl]
    go_enter Try.func14, Try.ntmps14
    go_wp2_with (go_at_call 38; (with_reducible refine c0.mono ?_); clear c0; rintro e w1 ⟨a, c, rfl, _, hrd, hE, hB⟩)
    go_ret
    exact ⟨rfl, hE, hB⟩
  | [x], _, c0 =>
    rw [folded_one]
    go_enter Try.func14, Try.ntmps14
    go_wp2_with (go_at_call 38; (with_reducible refine c0.mono ?_); clear c0; rintro e w1 ⟨a, c, rfl, _, hrd, hE, hB⟩; obtain ⟨g, off, rfl, hg, hcell⟩ := hrd.at (i := 0) (by simp); have hc0 : w1.cell? ⟨g, off, none⟩ = some (.int .u8 (x : Int)) := hcell 0 (by simp); clear hcell hrd; have HE := hid hE; have HB := hid hB; clear hE hB)
    go_ret
    exact ⟨rfl, HE.out, HB.out⟩
  | _ :: _ :: _, h, _ => exact absurd h (by simp)
set_option maxRecDepth 8000 in
theorem refWord5_any (b : Nat) (s : Sight) (w : World) (h : EyeAt 39 b s w) :
    Calls Try.prog 20 #[.pointer (some ⟨b, 0, none⟩)] w (Saw 39 b (.int .u32 ((eNum 4 s).1 : Int)) (eNum 4 s).2 w) := by
  have c0 := take_any b s w h 4 (by omega)
  have hl4 := eNext_len 4 s
  have hsm := eNext_lt (n := 4) h.1
  unfold eNum
  obtain ⟨r, hr⟩ : ∃ r, Hid ((eNext 4 s).1 = r) := ⟨_, rfl⟩
  obtain ⟨s', hs'⟩ : ∃ s', Hid ((eNext 4 s).2 = s') := ⟨_, rfl⟩
  simp only [hr.out, hs'.out] at c0 hl4 hsm ⊢
  rw [show ((4 : Nat) : Int) = 4 from rfl] at c0
  obtain ⟨R, hR⟩ : ∃ R, Hid (folded r = R) := ⟨_, rfl⟩
  rw [hR.out]
  have H0 : Hid (folded (r.take 0) = 0) := rfl
  clear h hr hs'
  go_enter Try.func20, Try.ntmps20
  go_wp2_with (go_at_call 38; (with_reducible refine c0.mono ?_); clear c0; rintro e w1 ⟨a, c, rfl, hlc, hrd, hE, hB⟩)
  have HE := hid hE
  have HB := hid hB
  have HRD := hid hrd
  clear hE hB hrd
  go_loopw [3, 5] (fun x i wr => ∃ k : Nat, k ≤ r.length ∧ i = .int .i64 (k : Int) ∧ x = .int .u32 (folded (r.take k) : Int) ∧ wr = w1)
    (fun x i _ => r.length - (intOf i).toNat)
  case atStart => exact ⟨0, Nat.zero_le _, rfl, by rw [H0.out]; rfl, rfl⟩
  case round =>
    obtain ⟨k, hk, rfl, rfl, rfl⟩ := hrel
    by_cases hlt : k < r.length
    · have hi : (k : Int) < r.length := by omega
      obtain ⟨g, off, rfl, hg, hcell⟩ := HRD.out.at hlt
      have hc := hcell k hlt
      have h256 := getD_lt hsm k
      have hf : folded (r.take k) < 16777216 := by
        have h1 := folded_lt _ (r.take k) rfl (fun c hc => hsm c (List.mem_of_mem_take hc))
        rw [List.length_take, Nat.min_eq_left hk] at h1
        have h3 : 256 ^ k ≤ 256 ^ 3 := Nat.pow_le_pow_right (by omega) (by omega)
        omega
      have hN : Hid (folded (r.take (k + 1)) = 256 * folded (r.take k) + r.getD k 0) := by show _ = _; rw [take_snoc r k hlt, folded_snoc]
      obtain ⟨F, hF⟩ : ∃ F, Hid (folded (r.take k) = F) := ⟨_, rfl⟩
      obtain ⟨C, hC⟩ : ∃ C, Hid (r.getD k 0 = C) := ⟨_, rfl⟩
      rw [hF.out] at hf hN ⊢
      rw [hC.out] at hc h256 hN
      clear hcell HRD
      go_wp2
      exact ⟨⟨k + 1, by omega, by go_num, congrArg (Value.int .u32) (by rw [hN.out]; omega), trivial⟩, by simp [intOf]; omega⟩
    · obtain rfl : k = r.length := by omega
      have hR2 := hR.out
      rw [List.take_length, hR2]
      clear hR2
      go_wp2
      go_ret
      exact ⟨rfl, HE.out, HB.out⟩
end Go.Proofs.Ytbgbboldelpjbaa.pen
