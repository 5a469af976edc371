/- Contract of the reference's groups: the number of the varint at the start of a row of bytes. No condition. -/
import Derived.Test.YtbgbboldelpjbaaPenFirst
namespace Go.Proofs.Ytbgbboldelpjbaa.pen
open Go.RowKit Go.Proofs.Ytbgbboldelpjbaa.texts
set_option linter.unusedVariables false

set_option maxRecDepth 8000 in
theorem groups_any (a : Option Addr) (c : Nat) (xs : List Nat) (w : World) (hr : Reads .u8 w a xs.length xs) (hc : xs.length ≤ c) (hx : ∀ c ∈ xs, c < 256) (hl : xs.length ≤ 140737488355328) :
    Calls Try.prog 40 #[.slice a xs.length c] w (Quiet (grpV (grp 0 0 xs)) w) := by
  have HR := hid hr
  clear hr
  obtain ⟨G, hG⟩ : ∃ G, Hid (grp 0 0 xs = G) := ⟨_, rfl⟩
  rw [hG.out]
  have HD : Hid (grp 0 0 (xs.drop 0) = G) := hG.out
  go_enter Try.func40, Try.ntmps40
  go_wp2
  go_loopw [5, 6, 7] (fun x p i wr => ∃ k U P : Nat, k ≤ xs.length ∧ k ≤ 9 ∧ i = .int .i64 (k : Int) ∧ x = .int .u64 (U : Int) ∧ p = .int .u64 (P : Int) ∧ Hid (P = 2 ^ (7 * k)) ∧ U < P ∧ wr = w ∧ Hid (grp k U (xs.drop k) = G))
    (fun x p i _ => xs.length - (intOf i).toNat)
  case atStart => exact ⟨0, 0, 1, Nat.zero_le _, by omega, rfl, rfl, rfl, rfl, by omega, rfl, HD⟩
  case round =>
    obtain ⟨k, U, P, hkN, hk9, rfl, rfl, rfl, hP, hU, rfl, hg⟩ := hrel
    have hi10 : (k : Int) < 10 := by omega
    by_cases hlt : k < xs.length
    · have hi : (k : Int) < xs.length := by omega
      obtain ⟨g, off, rfl, hgb, hcell⟩ := HR.out.at hlt
      have hcl := hcell k hlt
      have h256 := getD_lt hx k
      have hg2 := hg.out
      rw [drop_next xs k hlt, grp_form] at hg2
      have HG := hid hg2
      obtain ⟨C, hC⟩ : ∃ C, Hid (xs.getD k 0 = C) := ⟨_, rfl⟩
      rw [hC.out] at hcl h256 HG
      clear hcell hg hg2 HR hC
      have p9 : (128 : Nat) ^ k = P := by rw [hP.out, show (128 : Nat) = 2 ^ 7 from rfl, ← Nat.pow_mul]
      rw [p9] at HG
      have hp63 : 2 ^ (7 * k) ≤ 2 ^ 63 := Nat.pow_le_pow_right (by omega) (by omega)
      rw [← hP.out] at hp63
      by_cases h9 : k = 9
      · have q1 : ((k : Int) == 9) = true := by rw [beq_iff_eq]; omega
        have q3 : (0 : Int) < k := by omega
        by_cases h1 : 1 < C
        · have q2 : (1 : Int) < C := by omega
          have HV : Hid (G = (0, 0, 4)) := by show _ = _; rw [← HG.out, if_pos ⟨h9, h1⟩]
          clear h9 h1 p9 hp63 HG hlt hU
          go_wp2
          go_ret3
          exact ⟨by rw [HV.out]; rfl, 0, rfl⟩
        · have q2 : ¬ (1 : Int) < C := by omega
          by_cases h0 : C = 0
          · have q4 : ((C : Int) == 0) = true := by rw [beq_iff_eq]; omega
            have HV : Hid (G = (0, 0, 4)) := by show _ = _; rw [← HG.out, if_neg (by omega), if_pos (by omega)]
            clear h9 h1 p9 hp63 HG hlt h0 hU
            go_wp2
            go_ret3
            exact ⟨by rw [HV.out]; rfl, 0, rfl⟩
          · have q4 : ((C : Int) == 0) = false := by rw [beq_eq_false_iff_ne]; omega
            have q5 : (C : Int) < 128 := by omega
            have HV : Hid (G = (U + C * P, k + 1, 0)) := by show _ = _; rw [← HG.out, if_neg (by omega), if_neg (by omega), if_pos (by omega)]
            obtain rfl : C = 1 := by omega
            have hUP : U + P < 18446744073709551616 := by omega
            rw [show ((1 : Nat) : Int) = 1 from rfl] at hcl
            clear h9 h1 p9 HG hlt h0 q4 h256 q2 q5
            go_wp2
            go_ret3
            exact ⟨by rw [HV.out, Nat.one_mul]; rfl, 0, rfl⟩
      · have q1 : ((k : Int) == 9) = false := by rw [beq_eq_false_iff_ne]; omega
        have hp56 : P ≤ 72057594037927936 := by rw [hP.out]; exact Nat.pow_le_pow_right (show 0 < 2 by omega) (show 7 * k ≤ 56 by omega)
        by_cases hB : 0 < k ∧ C = 0
        · have q3 : (0 : Int) < k := by omega
          have q4 : ((C : Int) == 0) = true := by rw [beq_iff_eq]; omega
          have HV : Hid (G = (0, 0, 4)) := by show _ = _; rw [← HG.out, if_neg (by omega), if_pos hB]
          clear h9 p9 hp63 HG hlt hU hB hp56
          go_wp2
          go_ret3
          exact ⟨by rw [HV.out]; rfl, 0, rfl⟩
        · by_cases h128 : C < 128
          · have q5 : (C : Int) < 128 := by omega
            have hm : C * P ≤ 128 * P := Nat.mul_le_mul_right _ (by omega)
            obtain ⟨Q, hQ⟩ : ∃ Q, C * P = Q := ⟨_, rfl⟩
            have w1 : (C : Int) * (P : Int) = (Q : Int) := by rw [← hQ]; simp
            have w2 : (C : Int) % 128 * (P : Int) = (Q : Int) := by rw [← w1, show (C : Int) % 128 = C by omega]
            have hQ9 : Q ≤ 9223372036854775808 := by omega
            have HV : Hid (G = (U + Q, k + 1, 0)) := by show _ = _; rw [← HG.out, if_neg (by omega), if_neg hB, if_pos h128, hQ]
            by_cases h0 : 0 < k
            · have q3 : (0 : Int) < k := by omega
              have q4 : ((C : Int) == 0) = false := by rw [beq_eq_false_iff_ne]; omega
              clear h9 p9 hp63 HG hlt hB h128 hm h0 hQ
              go_wp2
              go_ret3
              exact ⟨by rw [HV.out]; rfl, 0, rfl⟩
            · have q3 : ¬ (0 : Int) < k := by omega
              clear h9 p9 hp63 HG hlt hB h128 hm h0 hQ
              go_wp2
              go_ret3
              exact ⟨by rw [HV.out]; rfl, 0, rfl⟩
          · have q5 : ¬ (C : Int) < 128 := by omega
            have hm : (C - 128) * P ≤ 127 * P := Nat.mul_le_mul_right _ (by omega)
            obtain ⟨Q, hQ⟩ : ∃ Q, (C - 128) * P = Q := ⟨_, rfl⟩
            have w2 : (C : Int) % 128 * (P : Int) = (Q : Int) := by rw [← hQ, show (C : Int) % 128 = ((C - 128 : Nat) : Int) by omega]; simp
            have hQ9 : Q ≤ 127 * P := by omega
            have HV : Hid (grp (k + 1) (U + Q) (xs.drop (k + 1)) = G) := by show _ = _; rw [← HG.out, if_neg (by omega), if_neg hB, if_neg h128, hQ]
            have HP : Hid (P * 128 = 2 ^ (7 * (k + 1))) := by show _ = _; rw [hP.out, show 7 * (k + 1) = 7 * k + 7 by omega, Nat.pow_add]
            have HU' : Hid (U + Q < P * 128) := by show _ < _; omega
            have q4 : ((C : Int) == 0) = false := by rw [beq_eq_false_iff_ne]; omega
            have HK : Hid (k + 1 ≤ xs.length ∧ k + 1 ≤ 9) := ⟨by omega, by omega⟩
            by_cases h0 : 0 < k
            · have q3 : (0 : Int) < k := by omega
              clear h9 p9 hp63 HG hB h128 hm h0 hQ
              go_wp2
              exact ⟨⟨k + 1, U + Q, P * 128, HK.out.1, HK.out.2, by go_num, by go_num, by go_num, HP, HU'.out, trivial, HV⟩, by simp [intOf]; omega⟩
            · have q3 : ¬ (0 : Int) < k := by omega
              clear h9 p9 hp63 HG hB h128 hm h0 hQ
              go_wp2
              exact ⟨⟨k + 1, U + Q, P * 128, HK.out.1, HK.out.2, by go_num, by go_num, by go_num, HP, HU'.out, trivial, HV⟩, by simp [intOf]; omega⟩
    · have hi : ¬ (k : Int) < xs.length := by omega
      have HV : Hid (G = (0, 0, 5)) := by
        have := hg.out
        rw [List.drop_of_length_le (by omega)] at this
        exact this.symm
      clear hg
      go_wp2
      go_ret3
      exact ⟨by rw [HV.out]; rfl, 0, rfl⟩
end Go.Proofs.Ytbgbboldelpjbaa.pen
