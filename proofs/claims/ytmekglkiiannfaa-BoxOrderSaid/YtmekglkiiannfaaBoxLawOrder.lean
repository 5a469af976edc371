/- BoxOrder: for every list of strings and every room, what is put and for which there is room is taken, once, in order. No condition but that the list is one. -/
import Derived.Test.YtmekglkiiannfaaBoxsAll
import Derived.Test.YtmekglkiiannfaaBoxRef
import Derived.Test.YtmekglkiiannfaaBoxAwake
import Derived.Test.YtmekglkiiannfaaArgs
import Derived.BigQuiet
namespace Go.Proofs.Ytmekglkiiannfaa.boxOrder
open Go.RowKit Go.Proofs.Ytmekglkiiannfaa.box
set_option linter.unusedVariables false

theorem below_trans {w w1 w2 : World} (h : Below w.heap.size w w1) (k : Below w1.heap.size w1 w2) : Below w.heap.size w w2 := h.trans (k.mono h.size)
theorem vals_str {w : World} {a : Option Addr} {len : Nat} {ss : List ByteArray} (h : Vals w a len (ss.map Value.string)) {k : Nat} (hk : k < len) :
    ∃ b off x, a = some ⟨b, off, none⟩ ∧ b < w.heap.size ∧ ss[k]? = some x ∧ w.cell? ⟨b, off + k, none⟩ = some (.string x) := by
  obtain ⟨b, off, ha, hb, hc⟩ := h.at hk
  have hl : k < ss.length := by have := h.1; simp at this; omega
  exact ⟨b, off, _, ha, hb, List.getElem?_eq_getElem hl, hc k _ (by rw [List.getElem?_map, List.getElem?_eq_getElem hl]; rfl)⟩
theorem take_min {ss : List ByteArray} {k N : Nat} (hk : k < ss.length) (x : ByteArray) (hx : ss[k]? = some x) :
    (if (ss.take (min k N)).length < N then ss.take (min k N) ++ [x] else ss.take (min k N)) = ss.take (min (k + 1) N) ∧ decide ((ss.take (min k N)).length < N) = decide (k < N) := by
  have hl : (ss.take (min k N)).length = min k N := by rw [List.length_take]; omega
  rw [hl]
  by_cases h : k < N
  · rw [if_pos (by omega), show min k N = k by omega, show min (k + 1) N = k + 1 by omega, List.take_add_one, hx]
    exact ⟨rfl, by simp [h]⟩
  · rw [if_neg (by omega), show min k N = N by omega, show min (k + 1) N = N by omega]
    exact ⟨rfl, by simp [h]⟩

set_option maxRecDepth 8000 in
theorem walk (a : Option Addr) (cap : Nat) (ss : List ByteArray) (n : Int) (w : World) (hv : Vals w a ss.length (ss.map Value.string)) (hlc : ss.length ≤ cap) (hcm : cap ≤ maxLen) (h1 : -9223372036854775808 ≤ n) (h2 : n ≤ 9223372036854775807) :
    Calls Try.prog 4 #[.slice a ss.length cap, .int .i64 n] w (Yes w) := by
  clear h1 h2 hcm
  by_cases hbig : 200 < ss.length
  · have hb : (200 : Int) < (ss.length : Int) := by omega
    clear hv
    go_enter Try.func4, Try.ntmps4
    go_wp2_with (go_at_call 6; (with_reducible refine (awake_any _).mono ?_); rintro e w11 ⟨rfl, hb11⟩)
    go_ret
    exact ⟨rfl, hb11⟩
  · have hb : ¬ ((200 : Int) < (ss.length : Int)) := by omega
    have cN := boxs.new_any n w
    have HV := hid hv
    have cR := fun w1 => refNew_any n w1
    have hN : roomOf n ≤ 64 := by unfold roomOf; omega
    generalize roomOf n = N at *
    have hF : ∀ W, (Instr.field 29 (.agg #[.slice none 0 0, .int .i64 (N : Int)]) 1).run Try.prog W = .ok (.int .i64 (N : Int)) W := fun W => by kernel_rfl
    clear hv
    go_enter Try.func4, Try.ntmps4
    go_wp2_with (first
      | (go_at_call 17; (with_reducible refine cN.mono ?_); clear cN; rintro e w1 ⟨rfl, hB1, hb1⟩; have HB1 := hid hB1; have Hb1 := hid hb1; clear hB1 hb1)
      | (go_at_call 8; (with_reducible refine (cR _).mono ?_); clear cR; rintro e w2 ⟨rfl, hb2⟩; have HB2 := hid (HB1.out.later hb2); have Hb2 := hid (below_trans Hb1.out hb2); clear hb2 HB1 Hb1))
    go_loopw [7] (fun u wr => ∃ k : Nat, u = .int .i64 k ∧ k ≤ ss.length ∧ BoxAt 56 9 (w.heap.size + 1) w.heap.size N ((ss.take (min k N)).map Value.string) wr ∧ Below w.heap.size w wr)
      (fun u _ => ss.length - (intOf u).toNat)
    case atStart => exact ⟨0, rfl, Nat.zero_le _, by simpa using HB2.out, Hb2.out⟩
    case round =>
      clear HB2 Hb2
      obtain ⟨k, rfl, hk, hB, hbl⟩ := hrel
      by_cases hlt : k < ss.length
      · obtain ⟨g, off, x, rfl, hg, hx, hcell⟩ := vals_str (HV.out.below hbl) hlt
        obtain ⟨e1, e2⟩ := take_min (N := N) hlt x hx
        have cP := boxs.put_any (w.heap.size + 1) w.heap.size N (ss.take (min k N)) x wr hB
        rw [e1, e2] at cP
        have hki : (k : Int) < (ss.length : Int) := by omega
        obtain ⟨K, hK⟩ : ∃ K, Hid (decide (k < N) = K) := ⟨_, rfl⟩
        rw [hK.out] at cP
        have hd : (!(K == decide (k < N))) = false := by rw [hK.out]; simp
        have Hbl := hid hbl
        have hsz := hbl.size
        clear hB hbl e1 e2 hx
        go_wp2_with (go_at_call 18; (with_reducible refine cP.mono ?_); clear cP; rintro e w3 ⟨rfl, hB3, hb3⟩; have HB3 := hid hB3; have Hb3 := hid (but_below Hbl.out hb3 hsz (Nat.le_refl _)); clear hB3 hb3)
        exact ⟨⟨k + 1, by go_num, by omega, HB3.out, Hb3.out⟩, by simp [intOf]; omega⟩
      · obtain rfl : k = ss.length := by omega
        have hM : (ss.take (min ss.length N)).length = min ss.length N := by rw [List.length_take]; omega
        have cA := boxs.all_any (w.heap.size + 1) w.heap.size N (ss.take (min ss.length N)) (by omega) wr hB
        rw [hM] at cA
        have hsz := hbl.size
        have HV2 := hid (HV.out.below hbl)
        have Hbl := hid hbl
        clear hB hbl hlt
        obtain ⟨M, hMM⟩ : ∃ M, Hid (min ss.length N = M) := ⟨_, rfl⟩
        have hM1 : M ≤ ss.length := by rw [← hMM.out]; omega
        have hM2 : (ss.length ≤ N ∧ M = ss.length) ∨ (¬ ss.length ≤ N ∧ M = N) := by rw [← hMM.out]; omega
        have em : ∀ ts t W, (Builtin.min_ ts t #[.int .i64 (N : Int), .int .i64 (ss.length : Int)]).run Try.prog W = .ok (.int .i64 (M : Int)) W := fun ts t W => by
          rw [run_min_int2, show (if (ss.length : Int) < (N : Int) then (ss.length : Int) else (N : Int)) = (M : Int) by split <;> omega]
        rw [hMM.out] at cA
        clear hMM hM hk hM2
        go_wp2_with (go_at_call 19; (with_reducible refine cA.mono ?_); clear cA; rintro e w3 ⟨a3, k3, rfl, hv3, hB3, hb3⟩; have HV3 := hid hv3; have HB3 := hid hB3; have Hb3 := hid (but_below Hbl.out hb3 hsz (Nat.le_refl _)); clear hv3 hB3 hb3)
        go_loopw [9] (fun u wr => ∃ j : Nat, u = .int .i64 j ∧ j ≤ M ∧ Vals wr a3 M ((ss.take M).map Value.string) ∧ Vals wr a ss.length (ss.map Value.string) ∧ BoxAt 56 9 (w.heap.size + 1) w.heap.size N [] wr ∧ Below w.heap.size w wr)
          (fun u _ => M - (intOf u).toNat)
        case atStart => exact ⟨0, rfl, Nat.zero_le _, HV3.out, HV.out.below Hb3.out, HB3.out, Hb3.out⟩
        case round =>
          clear HV2 HV3 HB3 Hb3 Hbl hsz em
          rename_i wr2
          obtain ⟨j, rfl, hj, hv3, hvw, hB3, hb3⟩ := hrel
          by_cases hlt : j < M
          · obtain ⟨g3, off3, y, rfl, hg3, hy3, hcell3⟩ := vals_str hv3 hlt
            obtain ⟨g, off, x, rfl, hg, hx, hcell⟩ := vals_str hvw (k := j) (by omega)
            have exy : y = x := by
              rw [List.getElem?_take, if_pos hlt, hx] at hy3
              exact (Option.some.inj hy3).symm
            subst exy
            have hji : (j : Int) < (M : Int) := by omega
            have hjl : (j : Int) < (ss.length : Int) := by omega
            have HVA := hid hv3
            have HVB := hid hvw
            have HBB := hid hB3
            have Hbb := hid hb3
            clear hv3 hvw hB3 hb3 hx hy3 HV
            go_wp2
            go_quiet (fail)
            go_wp2
            exact ⟨⟨j + 1, by go_num, by omega, HVA.out.drewN _, HVB.out.drewN _, HBB.out.drewN _, below_drewN Hbb.out _⟩, by simp [intOf]; omega⟩
          · obtain rfl : j = M := by omega
            have cT := boxs.take_empty _ _ _ _ hB3
            have cL := boxs.len_any _ _ _ _ _ hB3
            have Hbb := hid hb3
            clear hv3 hvw hB3 hb3 HV
            go_wp2_with (first
              | (go_at_call 20; (with_reducible refine cT.mono ?_); rintro e w5 ⟨rfl, hw⟩; have hw' := hw.symm; clear hw; subst hw')
              | (go_at_call 21; (with_reducible refine cL.mono ?_); rintro e w6 ⟨rfl, hw⟩; have hw' := hw.symm; clear hw; subst hw')
              | (go_at_call 6; (with_reducible refine (awake_any _).mono ?_); rintro e w11 ⟨rfl, hb11⟩))
            go_ret
            exact ⟨rfl, Hbb.out.trans (hb11.mono Hbb.out.size)⟩
end Go.Proofs.Ytmekglkiiannfaa.boxOrder
