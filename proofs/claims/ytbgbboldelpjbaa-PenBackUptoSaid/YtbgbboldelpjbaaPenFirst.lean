/- Contract of first: the number of the varint at the start of a row of bytes. No condition. -/
import Derived.Test.YtbgbboldelpjbaaPenNumber
import Derived.Laws.Bits64b
namespace Go.Proofs.Ytbgbboldelpjbaa.pen
open Go.RowKit Go.Proofs.Ytbgbboldelpjbaa.texts
set_option linter.unusedVariables false

theorem or_high (U C j : Nat) (hU : U < 2 ^ j) (h : C * 2 ^ j < 18446744073709551616) (h2 : U < 18446744073709551616) : bits .or .u64 (U : Int) ((C * 2 ^ j : Nat) : Int) = ((U + C * 2 ^ j : Nat) : Int) := by
  rw [bits_or_u64_nat U (C * 2 ^ j) h2 h, Nat.or_comm, Nat.mul_comm C, ← Nat.two_pow_add_eq_or_of_lt hU, Nat.add_comm]
theorem drop_next (l : List Nat) (k : Nat) (h : k < l.length) : l.drop k = l.getD k 0 :: l.drop (k + 1) := by
  rw [List.drop_eq_getElem_cons h, List.getD_eq_getElem?_getD, List.getElem?_eq_getElem h]; rfl
theorem or_shift (U e k : Nat) (z : Int) (hz : z = (e : Int)) (hU : U < 2 ^ (7 * k)) (h : e * 2 ^ (7 * k) < 18446744073709551616) (h2 : U < 18446744073709551616) :
    bits .or .u64 (U : Int) (IntKind.u64.wrap (z * 2 ^ (7 * k))) = ((U + e * 2 ^ (7 * k) : Nat) : Int) := by
  subst hz
  have e1 : (e : Int) * 2 ^ (7 * k) = ((e * 2 ^ (7 * k) : Nat) : Int) := by simp
  have e2 : IntKind.u64.wrap (((e * 2 ^ (7 * k) : Nat) : Int)) = ((e * 2 ^ (7 * k) : Nat) : Int) := by
    generalize e * 2 ^ (7 * k) = q at *
    simp [IntKind.wrap, IntKind.bits, IntKind.signed]; omega
  rw [e1, e2]
  exact or_high U e (7 * k) hU h h2
theorem grp_form (i u c : Nat) (r : List Nat) : grp i u (c :: r) = if i = 9 ∧ 1 < c then (0, 0, 4) else if 0 < i ∧ c = 0 then (0, 0, 4) else if c < 128 then (u + c * 128 ^ i, i + 1, 0) else grp (i + 1) (u + (c - 128) * 128 ^ i) r := rfl
def grpV (g : Nat × Nat × Nat) : Value := .tuple #[.int .u64 (g.1 : Int), .int .i64 (g.2.1 : Int), .int .i64 (g.2.2 : Int)]

set_option maxRecDepth 8000 in
theorem first_any (a : Option Addr) (c : Nat) (xs : List Nat) (w : World) (hr : Reads .u8 w a xs.length xs) (hc : xs.length ≤ c) (hx : ∀ c ∈ xs, c < 256) (hl : xs.length ≤ 140737488355328) :
    Calls Try.prog 46 #[.slice a xs.length c] w (Quiet (grpV (grp 0 0 xs)) w) := by
  have HR := hid hr
  clear hr
  obtain ⟨G, hG⟩ : ∃ G, Hid (grp 0 0 xs = G) := ⟨_, rfl⟩
  rw [hG.out]
  have HD : Hid (grp 0 0 (xs.drop 0) = G) := hG.out
  by_cases h10 : xs.length ≤ 10
  · have hi10 : (xs.length : Int) ≤ 10 := by omega
    go_enter Try.func46, Try.ntmps46
    go_wp2
    go_loopw [5, 14] (fun x i wr => ∃ k U : Nat, k ≤ xs.length ∧ k ≤ 9 ∧ i = .int .i64 (k : Int) ∧ x = .int .u64 (U : Int) ∧ U < 2 ^ (7 * k) ∧ wr = w ∧ Hid (grp k U (xs.drop k) = G))
      (fun x i _ => xs.length - (intOf i).toNat)
    case atStart => exact ⟨0, 0, Nat.zero_le _, by omega, rfl, rfl, by simp, rfl, HD⟩
    case round =>
      obtain ⟨k, U, hkN, hk9, rfl, rfl, hU, rfl, hg⟩ := hrel
      by_cases hlt : k < xs.length
      · have hi : (k : Int) < xs.length := by omega
        have hkl : k < xs.length := by omega
        obtain ⟨g, off, rfl, hgb, hcell⟩ := HR.out.at hkl
        have hcl := hcell k hkl
        have h256 := getD_lt hx k
        have hg2 := hg.out
        rw [drop_next xs k hkl, grp_form] at hg2
        have HG := hid hg2
        obtain ⟨C, hC⟩ : ∃ C, Hid (xs.getD k 0 = C) := ⟨_, rfl⟩
        rw [hC.out] at hcl h256 HG
        have hD : Hid (xs.drop (k + 1) = xs.drop (k + 1)) := rfl
        clear hcell hg hg2 HR hC
        have p9 : (128 : Nat) ^ k = 2 ^ (7 * k) := by rw [show (128 : Nat) = 2 ^ 7 from rfl, ← Nat.pow_mul]
        rw [p9] at HG
        have hp63 : 2 ^ (7 * k) ≤ 2 ^ 63 := Nat.pow_le_pow_right (by omega) (by omega)
        have hU64 : U < 18446744073709551616 := by omega
        by_cases h9 : k = 9
        · have q1 : ((k : Int) == 9) = true := by rw [beq_iff_eq]; omega
          have q3 : (0 : Int) < k := by omega
          by_cases h1 : 1 < C
          · have q2 : (1 : Int) < C := by omega
            have HV : Hid (G = (0, 0, 4)) := by show _ = _; rw [← HG.out, if_pos ⟨h9, h1⟩]
            clear h9 h1 p9 hp63 HG hD hkl hlt hU
            go_wp2
            go_ret3
            exact ⟨by rw [HV.out]; rfl, 0, rfl⟩
          · have q2 : ¬ (1 : Int) < C := by omega
            by_cases h0 : C = 0
            · have q4 : ((C : Int) == 0) = true := by rw [beq_iff_eq]; omega
              have HV : Hid (G = (0, 0, 4)) := by show _ = _; rw [← HG.out, if_neg (by omega), if_pos (by omega)]
              clear h9 h1 p9 hp63 HG hD hkl hlt h0 hU
              go_wp2
              go_ret3
              exact ⟨by rw [HV.out]; rfl, 0, rfl⟩
            · have q4 : ((C : Int) == 0) = false := by rw [beq_eq_false_iff_ne]; omega
              have q5 : (C : Int) < 128 := by omega
              have HV : Hid (G = (U + C * 2 ^ (7 * k), k + 1, 0)) := by show _ = _; rw [← HG.out, if_neg (by omega), if_neg (by omega), if_pos (by omega)]
              have hm : C * 2 ^ (7 * k) ≤ 1 * 2 ^ (7 * k) := Nat.mul_le_mul_right _ (by omega)
              have HO := hid (or_shift U C k C rfl hU (by omega) hU64)
              clear h9 h1 p9 HG hD hkl hlt h0 hm hp63 hU
              go_wp2
              go_ret3
              have ho := HO.out
              exact ⟨by rw [HV.out, grpV, ← ho]; rfl, 0, rfl⟩
        · have q1 : ((k : Int) == 9) = false := by rw [beq_eq_false_iff_ne]; omega
          have hp56 : 2 ^ (7 * k) ≤ 2 ^ 56 := Nat.pow_le_pow_right (by omega) (by omega)
          by_cases hB : 0 < k ∧ C = 0
          · have q3 : (0 : Int) < k := by omega
            have q4 : ((C : Int) == 0) = true := by rw [beq_iff_eq]; omega
            have HV : Hid (G = (0, 0, 4)) := by show _ = _; rw [← HG.out, if_neg (by omega), if_pos hB]
            clear h9 p9 hp63 HG hD hkl hlt hU hB hp56
            go_wp2
            go_ret3
            exact ⟨by rw [HV.out]; rfl, 0, rfl⟩
          · by_cases h128 : C < 128
            · have q5 : (C : Int) < 128 := by omega
              have HV : Hid (G = (U + C * 2 ^ (7 * k), k + 1, 0)) := by show _ = _; rw [← HG.out, if_neg (by omega), if_neg hB, if_pos h128]
              have hm : C * 2 ^ (7 * k) ≤ 128 * 2 ^ (7 * k) := Nat.mul_le_mul_right _ (by omega)
              have HO := hid (or_shift U C k C rfl hU (by omega) hU64)
              by_cases h0 : 0 < k
              · have q3 : (0 : Int) < k := by omega
                have q4 : ((C : Int) == 0) = false := by rw [beq_eq_false_iff_ne]; omega
                clear h9 p9 hp63 HG hD hkl hlt hU hB hp56 h128 hm h0
                go_wp2
                go_ret3
                have ho := HO.out
                exact ⟨by rw [HV.out, grpV, ← ho]; rfl, 0, rfl⟩
              · have q3 : ¬ (0 : Int) < k := by omega
                clear h9 p9 hp63 HG hD hkl hlt hU hB hp56 h128 hm h0
                go_wp2
                go_ret3
                have ho := HO.out
                exact ⟨by rw [HV.out, grpV, ← ho]; rfl, 0, rfl⟩
            · have q5 : ¬ (C : Int) < 128 := by omega
              have HV : Hid (grp (k + 1) (U + (C - 128) * 2 ^ (7 * k)) (xs.drop (k + 1)) = G) := by show _ = _; rw [← HG.out, if_neg (by omega), if_neg hB, if_neg h128]
              have hm : (C - 128) * 2 ^ (7 * k) ≤ 127 * 2 ^ (7 * k) := Nat.mul_le_mul_right _ (by omega)
              have HO := hid (or_shift U (C - 128) k ((C : Int) - 128) (by omega) hU (by omega) hU64)
              have HU' : Hid (U + (C - 128) * 2 ^ (7 * k) < 2 ^ (7 * (k + 1))) := by
                show _ < _
                rw [show 7 * (k + 1) = 7 * k + 7 by omega, Nat.pow_add]; omega
              have q4 : ((C : Int) == 0) = false := by rw [beq_eq_false_iff_ne]; omega
              have HK : Hid (k + 1 ≤ xs.length ∧ k + 1 ≤ 9) := ⟨by omega, by omega⟩
              by_cases h0 : 0 < k
              · have q3 : (0 : Int) < k := by omega
                clear h9 p9 hp63 HG hD hkl hU hB hp56 h128 hm h0
                go_wp2
                exact ⟨⟨k + 1, U + (C - 128) * 2 ^ (7 * k), HK.out.1, HK.out.2, by go_num, congrArg (Value.int .u64) HO.out, HU'.out, trivial, HV⟩, by simp [intOf]; omega⟩
              · have q3 : ¬ (0 : Int) < k := by omega
                clear h9 p9 hp63 HG hD hkl hU hB hp56 h128 hm h0
                go_wp2
                exact ⟨⟨k + 1, U + (C - 128) * 2 ^ (7 * k), HK.out.1, HK.out.2, by go_num, congrArg (Value.int .u64) HO.out, HU'.out, trivial, HV⟩, by simp [intOf]; omega⟩
      · have HV : Hid (G = (0, 0, 5)) := by
          have := hg.out
          rw [List.drop_of_length_le (by omega)] at this
          exact this.symm
        have hi : ¬ (k : Int) < xs.length := by omega
        clear hg
        go_wp2
        go_ret3
        exact ⟨by rw [HV.out]; rfl, 0, rfl⟩
  · have hi10 : (10 : Int) < xs.length := by omega
    go_enter Try.func46, Try.ntmps46
    go_wp2
    go_loopw [5, 14] (fun x i wr => ∃ k U : Nat, k ≤ 10 ∧ k ≤ 9 ∧ i = .int .i64 (k : Int) ∧ x = .int .u64 (U : Int) ∧ U < 2 ^ (7 * k) ∧ wr = w ∧ Hid (grp k U (xs.drop k) = G))
      (fun x i _ => 10 - (intOf i).toNat)
    case atStart => exact ⟨0, 0, Nat.zero_le _, by omega, rfl, rfl, by simp, rfl, HD⟩
    case round =>
      obtain ⟨k, U, hkN, hk9, rfl, rfl, hU, rfl, hg⟩ := hrel
      by_cases hlt : k < 10
      · have hi : (k : Int) < 10 := by omega
        have hkl : k < xs.length := by omega
        obtain ⟨g, off, rfl, hgb, hcell⟩ := HR.out.at hkl
        have hcl := hcell k hkl
        have h256 := getD_lt hx k
        have hg2 := hg.out
        rw [drop_next xs k hkl, grp_form] at hg2
        have HG := hid hg2
        obtain ⟨C, hC⟩ : ∃ C, Hid (xs.getD k 0 = C) := ⟨_, rfl⟩
        rw [hC.out] at hcl h256 HG
        have hD : Hid (xs.drop (k + 1) = xs.drop (k + 1)) := rfl
        clear hcell hg hg2 HR hC
        have p9 : (128 : Nat) ^ k = 2 ^ (7 * k) := by rw [show (128 : Nat) = 2 ^ 7 from rfl, ← Nat.pow_mul]
        rw [p9] at HG
        have hp63 : 2 ^ (7 * k) ≤ 2 ^ 63 := Nat.pow_le_pow_right (by omega) (by omega)
        have hU64 : U < 18446744073709551616 := by omega
        by_cases h9 : k = 9
        · have q1 : ((k : Int) == 9) = true := by rw [beq_iff_eq]; omega
          have q3 : (0 : Int) < k := by omega
          by_cases h1 : 1 < C
          · have q2 : (1 : Int) < C := by omega
            have HV : Hid (G = (0, 0, 4)) := by show _ = _; rw [← HG.out, if_pos ⟨h9, h1⟩]
            clear h9 h1 p9 hp63 HG hD hkl hlt hU
            go_wp2
            go_ret3
            exact ⟨by rw [HV.out]; rfl, 0, rfl⟩
          · have q2 : ¬ (1 : Int) < C := by omega
            by_cases h0 : C = 0
            · have q4 : ((C : Int) == 0) = true := by rw [beq_iff_eq]; omega
              have HV : Hid (G = (0, 0, 4)) := by show _ = _; rw [← HG.out, if_neg (by omega), if_pos (by omega)]
              clear h9 h1 p9 hp63 HG hD hkl hlt h0 hU
              go_wp2
              go_ret3
              exact ⟨by rw [HV.out]; rfl, 0, rfl⟩
            · have q4 : ((C : Int) == 0) = false := by rw [beq_eq_false_iff_ne]; omega
              have q5 : (C : Int) < 128 := by omega
              have HV : Hid (G = (U + C * 2 ^ (7 * k), k + 1, 0)) := by show _ = _; rw [← HG.out, if_neg (by omega), if_neg (by omega), if_pos (by omega)]
              have hm : C * 2 ^ (7 * k) ≤ 1 * 2 ^ (7 * k) := Nat.mul_le_mul_right _ (by omega)
              have HO := hid (or_shift U C k C rfl hU (by omega) hU64)
              clear h9 h1 p9 HG hD hkl hlt h0 hm hp63 hU
              go_wp2
              go_ret3
              have ho := HO.out
              exact ⟨by rw [HV.out, grpV, ← ho]; rfl, 0, rfl⟩
        · have q1 : ((k : Int) == 9) = false := by rw [beq_eq_false_iff_ne]; omega
          have hp56 : 2 ^ (7 * k) ≤ 2 ^ 56 := Nat.pow_le_pow_right (by omega) (by omega)
          by_cases hB : 0 < k ∧ C = 0
          · have q3 : (0 : Int) < k := by omega
            have q4 : ((C : Int) == 0) = true := by rw [beq_iff_eq]; omega
            have HV : Hid (G = (0, 0, 4)) := by show _ = _; rw [← HG.out, if_neg (by omega), if_pos hB]
            clear h9 p9 hp63 HG hD hkl hlt hU hB hp56
            go_wp2
            go_ret3
            exact ⟨by rw [HV.out]; rfl, 0, rfl⟩
          · by_cases h128 : C < 128
            · have q5 : (C : Int) < 128 := by omega
              have HV : Hid (G = (U + C * 2 ^ (7 * k), k + 1, 0)) := by show _ = _; rw [← HG.out, if_neg (by omega), if_neg hB, if_pos h128]
              have hm : C * 2 ^ (7 * k) ≤ 128 * 2 ^ (7 * k) := Nat.mul_le_mul_right _ (by omega)
              have HO := hid (or_shift U C k C rfl hU (by omega) hU64)
              by_cases h0 : 0 < k
              · have q3 : (0 : Int) < k := by omega
                have q4 : ((C : Int) == 0) = false := by rw [beq_eq_false_iff_ne]; omega
                clear h9 p9 hp63 HG hD hkl hlt hU hB hp56 h128 hm h0
                go_wp2
                go_ret3
                have ho := HO.out
                exact ⟨by rw [HV.out, grpV, ← ho]; rfl, 0, rfl⟩
              · have q3 : ¬ (0 : Int) < k := by omega
                clear h9 p9 hp63 HG hD hkl hlt hU hB hp56 h128 hm h0
                go_wp2
                go_ret3
                have ho := HO.out
                exact ⟨by rw [HV.out, grpV, ← ho]; rfl, 0, rfl⟩
            · have q5 : ¬ (C : Int) < 128 := by omega
              have HV : Hid (grp (k + 1) (U + (C - 128) * 2 ^ (7 * k)) (xs.drop (k + 1)) = G) := by show _ = _; rw [← HG.out, if_neg (by omega), if_neg hB, if_neg h128]
              have hm : (C - 128) * 2 ^ (7 * k) ≤ 127 * 2 ^ (7 * k) := Nat.mul_le_mul_right _ (by omega)
              have HO := hid (or_shift U (C - 128) k ((C : Int) - 128) (by omega) hU (by omega) hU64)
              have HU' : Hid (U + (C - 128) * 2 ^ (7 * k) < 2 ^ (7 * (k + 1))) := by
                show _ < _
                rw [show 7 * (k + 1) = 7 * k + 7 by omega, Nat.pow_add]; omega
              have q4 : ((C : Int) == 0) = false := by rw [beq_eq_false_iff_ne]; omega
              have HK : Hid (k + 1 ≤ 10 ∧ k + 1 ≤ 9) := ⟨by omega, by omega⟩
              by_cases h0 : 0 < k
              · have q3 : (0 : Int) < k := by omega
                clear h9 p9 hp63 HG hD hkl hU hB hp56 h128 hm h0
                go_wp2
                exact ⟨⟨k + 1, U + (C - 128) * 2 ^ (7 * k), HK.out.1, HK.out.2, by go_num, congrArg (Value.int .u64) HO.out, HU'.out, trivial, HV⟩, by simp [intOf]; omega⟩
              · have q3 : ¬ (0 : Int) < k := by omega
                clear h9 p9 hp63 HG hD hkl hU hB hp56 h128 hm h0
                go_wp2
                exact ⟨⟨k + 1, U + (C - 128) * 2 ^ (7 * k), HK.out.1, HK.out.2, by go_num, congrArg (Value.int .u64) HO.out, HU'.out, trivial, HV⟩, by simp [intOf]; omega⟩
      · exact absurd hk9 (by omega)
end Go.Proofs.Ytbgbboldelpjbaa.pen
