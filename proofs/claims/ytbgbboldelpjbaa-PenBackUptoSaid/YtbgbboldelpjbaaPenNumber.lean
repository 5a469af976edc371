/- Contracts of the eye's calls number, Byte and Word. No condition. -/
import Derived.Test.YtbgbboldelpjbaaPenNext
import Derived.Laws.BitsAllLaws
namespace Go.Proofs.Ytbgbboldelpjbaa.pen
open Go.RowKit Go.Proofs.Ytbgbboldelpjbaa.texts
set_option linter.unusedVariables false

theorem take_snoc (l : List Nat) (k : Nat) (h : k < l.length) : l.take (k + 1) = l.take k ++ [l.getD k 0] := by
  rw [List.take_add_one, List.getElem?_eq_getElem h, List.getD_eq_getElem?_getD, List.getElem?_eq_getElem h]; rfl
theorem getD_lt {l : List Nat} (h : ∀ c ∈ l, c < 256) (k : Nat) : l.getD k 0 < 256 := by
  rw [List.getD_eq_getElem?_getD]
  by_cases hk : k < l.length
  · rw [List.getElem?_eq_getElem hk]; exact h _ (List.getElem_mem hk)
  · rw [List.getElem?_eq_none (by omega)]; decide
theorem or_low32 (x c : Nat) (hx : x < 16777216) (hc : c < 256) : bits .or .u32 ((x : Int) * 256) (c : Int) = ((256 * x + c : Nat) : Int) := by
  rw [bits_join .u32 32 (by decide) (fun n h0 h1 => by rw [IntKind.wrap_u32]; omega) 8 ((x : Int) * 256) c (by omega) (by omega) (by omega) (by omega) (by omega) (by omega)]
  omega
set_option maxRecDepth 8000 in
theorem number_any (b : Nat) (s : Sight) (w : World) (h : EyeAt 62 b s w) (n : Nat) (hn : n ≤ 4) :
    Calls Try.prog 37 #[.pointer (some ⟨b, 0, none⟩), .int .i64 (n : Int)] w (Saw 62 b (.int .u32 ((eNum n s).1 : Int)) (eNum n s).2 w) := by
  have c0 := next_any b s w h n (by omega)
  have hl4 := eNext_len n s
  have hsm := eNext_lt (n := n) h.1
  unfold eNum
  obtain ⟨r, hr⟩ : ∃ r, Hid ((eNext n s).1 = r) := ⟨_, rfl⟩
  obtain ⟨s', hs'⟩ : ∃ s', Hid ((eNext n s).2 = s') := ⟨_, rfl⟩
  simp only [hr.out, hs'.out] at c0 hl4 hsm ⊢
  obtain ⟨R, hR⟩ : ∃ R, Hid (folded r = R) := ⟨_, rfl⟩
  rw [hR.out]
  have H0 : Hid (folded (r.take 0) = 0) := rfl
  clear h hr hs'
  go_enter Try.func37, Try.ntmps37
  go_wp2_with (go_at_call 42; (with_reducible refine c0.mono ?_); clear c0; rintro e w1 ⟨a, c, rfl, hlc, hrd, hE, hB⟩)
  have HE := hid hE
  have HB := hid hB
  have HRD := hid hrd
  clear hE hB hrd
  go_loopw [5, 12] (fun x i wr => ∃ k : Nat, k ≤ r.length ∧ i = .int .i64 (k : Int) ∧ x = .int .u32 (folded (r.take k) : Int) ∧ wr = w1)
    (fun x i _ => r.length - (intOf i).toNat)
  case atStart => exact ⟨0, Nat.zero_le _, rfl, by rw [H0.out]; rfl, rfl⟩
  case round =>
    obtain ⟨k, hk, rfl, rfl, rfl⟩ := hrel
    by_cases hlt : k < r.length
    · have hi : (k : Int) < r.length := by omega
      obtain ⟨g, off, rfl, hg, hcell⟩ := HRD.out.at hlt
      have hc := hcell k hlt
      have h256 := getD_lt hsm k
      have hf : folded (r.take k) < 16777216 := by
        have h1 := folded_lt _ (r.take k) rfl (fun c hc => hsm c (List.mem_of_mem_take hc))
        rw [List.length_take, Nat.min_eq_left hk] at h1
        have h3 : 256 ^ k ≤ 256 ^ 3 := Nat.pow_le_pow_right (by omega) (by omega)
        omega
      have hN : Hid (folded (r.take (k + 1)) = 256 * folded (r.take k) + r.getD k 0) := by show _ = _; rw [take_snoc r k hlt, folded_snoc]
      have ho := or_low32 (folded (r.take k)) (r.getD k 0) hf h256
      obtain ⟨F, hF⟩ : ∃ F, Hid (folded (r.take k) = F) := ⟨_, rfl⟩
      obtain ⟨C, hC⟩ : ∃ C, Hid (r.getD k 0 = C) := ⟨_, rfl⟩
      rw [hF.out] at ho hf hN ⊢
      rw [hC.out] at hc ho h256 hN
      clear hcell HRD
      go_wp2
      exact ⟨⟨k + 1, by omega, by go_num, congrArg (Value.int .u32) (by rw [hN.out]; omega), trivial⟩, by simp [intOf]; omega⟩
    · obtain rfl : k = r.length := by omega
      have hR2 := hR.out
      rw [List.take_length, hR2]
      clear hR2
      go_wp2
      go_ret
      exact ⟨rfl, HE.out, HB.out⟩
theorem number_nil (n : Int) (w : World) : Calls Try.prog 37 #[.pointer none, .int .i64 n] w (Quiet (.int .u32 0) w) := by
  go_enter Try.func37, Try.ntmps37
  go_wp2_with (go_at_call 42; (with_reducible refine (next_nil n _).mono ?_); rintro e w1 ⟨rfl, m, rfl⟩)
  go_loopw [5, 12] (fun x i wr => i = .int .i64 0 ∧ x = .int .u32 0 ∧ wr = w.drewN m) (fun x i _ => 0)
  case atStart => exact ⟨rfl, rfl, rfl⟩
  case round =>
    obtain ⟨rfl, rfl, rfl⟩ := hrel
    go_wp2
    go_ret
    exact ⟨rfl, _, rfl⟩

theorem eyeByte_any (b : Nat) (s : Sight) (w : World) (h : EyeAt 62 b s w) :
    Calls Try.prog 13 #[.pointer (some ⟨b, 0, none⟩)] w (Saw 62 b (.int .u8 ((eNum 1 s).1 : Int)) (eNum 1 s).2 w) := by
  have c0 := number_any b s w h 1 (by omega)
  have hx := eNum_one s h.1
  obtain ⟨x, hx'⟩ : ∃ x, Hid ((eNum 1 s).1 = x) := ⟨_, rfl⟩
  obtain ⟨s', hs'⟩ : ∃ s', Hid ((eNum 1 s).2 = s') := ⟨_, rfl⟩
  simp only [hx'.out, hs'.out] at c0 hx ⊢
  rw [show ((1 : Nat) : Int) = 1 from rfl] at c0
  clear h hs' hx'
  go_enter Try.func13, Try.ntmps13
  go_wp2_with (go_at_call 37; (with_reducible refine c0.mono ?_); clear c0; rintro e w1 ⟨rfl, hE, hB⟩)
  go_ret
  exact ⟨rfl, hE, hB⟩
theorem eyeWord_any (b : Nat) (s : Sight) (w : World) (h : EyeAt 62 b s w) :
    Calls Try.prog 19 #[.pointer (some ⟨b, 0, none⟩)] w (Saw 62 b (.int .u32 ((eNum 4 s).1 : Int)) (eNum 4 s).2 w) := by
  have c0 := number_any b s w h 4 (by omega)
  obtain ⟨x, hx'⟩ : ∃ x, Hid ((eNum 4 s).1 = x) := ⟨_, rfl⟩
  obtain ⟨s', hs'⟩ : ∃ s', Hid ((eNum 4 s).2 = s') := ⟨_, rfl⟩
  simp only [hx'.out, hs'.out] at c0 ⊢
  rw [show ((4 : Nat) : Int) = 4 from rfl] at c0
  clear h hs' hx'
  go_enter Try.func19, Try.ntmps19
  go_wp2_with (go_at_call 37; (with_reducible refine c0.mono ?_); clear c0; rintro e w1 ⟨rfl, hE, hB⟩)
  go_ret
  exact ⟨rfl, hE, hB⟩
theorem eyeByte_nil (w : World) : Calls Try.prog 13 #[.pointer none] w (Quiet (.int .u8 0) w) := by
  have c0 := number_nil 1 w
  go_enter Try.func13, Try.ntmps13
  go_wp2_with (go_at_call 37; (with_reducible refine c0.mono ?_); clear c0; rintro e w1 ⟨rfl, m, rfl⟩)
  go_ret
  exact ⟨rfl, _, rfl⟩
theorem eyeWord_nil (w : World) : Calls Try.prog 19 #[.pointer none] w (Quiet (.int .u32 0) w) := by
  have c0 := number_nil 4 w
  go_enter Try.func19, Try.ntmps19
  go_wp2_with (go_at_call 37; (with_reducible refine c0.mono ?_); clear c0; rintro e w1 ⟨rfl, m, rfl⟩)
  go_ret
  exact ⟨rfl, _, rfl⟩
end Go.Proofs.Ytbgbboldelpjbaa.pen
