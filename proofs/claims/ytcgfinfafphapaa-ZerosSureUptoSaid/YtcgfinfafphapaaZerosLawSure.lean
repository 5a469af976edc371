/- ZerosSure: for every list of at most 1048576 words, sealed words are right, and with bits that went up they are right only if none did. Condition: at most 1048576 words. -/
import Derived.Test.YtcgfinfafphapaaZerosAwake
import Derived.Test.YtcgfinfafphapaaZerosRef
import Derived.Test.YtcgfinfafphapaaZerosMath
import Derived.Test.YtcgfinfafphapaaTail
namespace Go.Proofs.Ytcgfinfafphapaa.zerosSure
open Go.RowKit Go.Proofs.Ytcgfinfafphapaa.word Go.Proofs.Ytcgfinfafphapaa.zeros
set_option linter.unusedVariables false
theorem sealed_lt (xs : List Nat) (hx : ∀ x ∈ xs, x < 4294967296) : ∀ x ∈ sealed xs, x < 4294967296 := by
  intro x h
  unfold sealed at h
  rcases List.mem_append.1 h with h | h
  · exact hx x h
  · rw [List.mem_singleton] at h
    omega
set_option maxHeartbeats 3200000 in
theorem walk (a : Option Addr) (len cap : Nat) (xs : List Nat) (a1 : Option Addr) (len1 cap1 : Nat) (us : List Nat) (w : World)
    (hr : Reads .u32 w a len xs) (hx : ∀ x ∈ xs, x < 4294967296) (hlc : len ≤ cap) (hcap : cap * 4 ≤ 140737488351232) (hnil : a = none → cap = 0) (hsm : cap ≤ 1048576)
    (hr1 : Reads .u32 w a1 len1 us) (hx1 : ∀ x ∈ us, x < 4294967296) (hlc1 : len1 ≤ cap1) (hcap1 : cap1 * 4 ≤ 140737488351232) (hnil1 : a1 = none → cap1 = 0) (hsm1 : cap1 ≤ 1048576) :
    Calls Try.prog 5 #[.slice a len cap, .slice a1 len1 cap1] w (Yes w) := by
  obtain ⟨i0, hi, hz0, hz1, hz2⟩ := info_parts Tryinfo34
  have hz := zcount_le xs
  have hlen := hr.1
  have hlen1 := hr1.1
  have hmod : zcount xs % 4294967296 = zcount xs := Nat.mod_eq_of_lt (by omega)
  have hsl := sealed_lt xs hx
  have hse : sealed xs = xs ++ [zcount xs] := by unfold sealed; rw [hmod]
  have hsn : (sealed xs).length = len + 1 := by rw [hse]; simp [hlen]
  have hsr : rightB (sealed xs) = true := by rw [hse, rightB_snoc]; simp
  have hsure : ∀ u : List Nat, (∀ x ∈ u, x < 4294967296) → rightB (orL (sealed xs) u) = decide (orL (sealed xs) u = sealed xs) := fun u hu => by
    rw [hse]; exact sure xs u hx hu
  have HX := hid hx
  have HX1 := hid hx1
  have HL := hid hlen
  have HL1 := hid hlen1
  have HSN := hid hsn
  have HSL := hid hsl
  have HSU := hid hsure
  clear hx hx1 hlen hlen1 hmod hz hsn hsl hsure
  have q1 : ((len : Int) + 1 != (len : Int) + 1) = false := by simp
  go_enter Try.func5, Try.ntmps5
  go_wp2_with fail
  refine (seal_any a len cap xs _ hr HX.out (by omega)).mono ?_
  rintro e w1 ⟨v1, rfl, ho1, hb1⟩
  obtain ⟨g1, k1, rfl, hg1, hg1s, hk1, hk1m⟩ := ownsRow_form ho1 (by omega)
  have rs := Reads.own ho1
  have hu1 := hr1.below hb1
  generalize sealed xs = ss at *
  clear hse
  have c1 := fun w' (h : Reads .u32 w' (some ⟨g1, 0, none⟩) (len + 1) ss) => right_any (some ⟨g1, 0, none⟩) (len + 1) k1 ss w' h HSL.out (by omega) hk1 hk1m
  rw [hsr] at c1
  clear ho1 hsr
  go_wp2_with (first
    | (go_at_call 12; ((with_reducible refine (c1 _ rs).mono ?_); rintro e w' ⟨rfl, m1, rfl⟩))
    | (at_builtin; refine wpList_append_own _ rfl _ _ 22 rfl w1.heap.size 23 i0 (.int .u32 0) 1 4 Try.underlying22 hi hz0 hz1 hz2 rfl (by decide) (.slice none 0 0) 0 [] rfl (World.ownsRow_nil _ _ _ _) ⟨g1, 0, none⟩ (len + 1) k1 (ss.map fun x : Nat => Value.int .u32 (x : Int)) rfl (by simp [HSN.out]) (cells_of (rs.drewN m1)) (ints_one _ _) (by unfold maxLen; omega) (by omega) (by simp) ?_))
  intro v2 w2 ho2 hg2 _
  have hb2 : Below w1.heap.size w1 w2 := (below_drewN (Below.refl w1.heap.size w1) m1).grown hg2 (by simp) (fun k h => by cases h)
  obtain ⟨g2, k2, rfl, hg2a, hg2s, hk2, hk2m⟩ := ownsRow_form ho2 (by omega)
  have rs2 := rs.below hb2
  have hu2 := hu1.below hb2
  have z1 := hb1.size
  have HO2 := hid ho2
  clear ho2 hg2
  have hne : g1 ≠ g2 := by omega
  have hb02 : Below w.heap.size w w2 := hb1.trans (hb2.mono z1)
  have hbk : ∀ b, b < w1.heap.size → b ≠ g2 := fun b hb => by omega
  have HBK := hid hbk
  clear hbk
  go_wp2
  go_loopw [6, 8] (fun same i wr => ∃ k : Nat, k ≤ len + 1 ∧ k ≤ len1 ∧ i = .int .i64 k ∧ same = .bool (decide (orL ss (us.take k) = ss)) ∧
      wr.ownsRow w1.heap.size 23 1 (.slice (some ⟨g2, 0, none⟩) (len + 1) k2) (len + 1) ((orL ss (us.take k)).map fun x : Nat => Value.int .u32 (x : Int)) ∧ Below w1.heap.size w1 wr)
    (fun _ i _ => len + 1 - (intOf i).toNat)
  case atStart =>
    refine ⟨0, Nat.zero_le _, Nat.zero_le _, rfl, ?_, ?_, hb2⟩
    · rw [List.take_zero, orL_nil]; simp
    · rw [List.take_zero, orL_nil]; exact HO2.out
  case round =>
    obtain ⟨k, hk, hk1', rfl, rfl, ho, hb⟩ := hrel
    have hd0 : 0 ≤ (k : Int) := by omega
    by_cases hlt : k < len + 1
    · by_cases hlt1 : k < len1
      · obtain ⟨b, off, rfl, hbs, hc⟩ := hr1.at hlt1
        have hcu : wr.cell? ⟨b, off + k, none⟩ = some (.int .u32 ((us.getD k 0 : Nat) : Int)) := (hb.cell (p := ⟨b, off + k, none⟩) (Nat.lt_of_lt_of_le hbs z1)).trans ((hb1.cell (p := ⟨b, off + k, none⟩) hbs).trans (hc k hlt1))
        have hcs : wr.cell? ⟨g1, k, none⟩ = some (.int .u32 ((ss.getD k 0 : Nat) : Int)) := by
          obtain ⟨b', off', he, _, hc'⟩ := rs.at hlt
          cases he
          exact (hb.cell (p := ⟨g1, k, none⟩) hg1s).trans (by have h := hc' k hlt; rwa [Nat.zero_add] at h)
        have hct : wr.cell? ⟨g2, k, none⟩ = some (.int .u32 ((ss.getD k 0 : Nat) : Int)) := by
          rw [ho.cellAt _ (by omega), List.getElem?_map, ← orL_take_getD ss us k (by rw [HSN.out]; exact hlt), List.getD_eq_getElem?_getD, List.getElem?_eq_getElem (by rw [orL_length, HSN.out]; omega)]
          rfl
        have f2 := ho.frozenAt k
        have hys := getD32_lt us HX1.out k
        have hxs := getD32_lt ss HSL.out k
        have hor := u32_or_nat (ss.getD k 0) (us.getD k 0) hxs hys
        have HT := hid (orL_take_succ ss us k (by rw [HSN.out]; omega) (by rw [HL1.out]; omega))
        have HE := hid (set_eq_iff (orL ss (us.take k)) ss k (ss.getD k 0 ||| us.getD k 0) (by rw [HSN.out]; omega) (orL_length _ _) (orL_take_getD ss us k (by rw [HSN.out]; omega)))
        have HO := hid ho
        have i1 : (k : Int) < (len : Int) + 1 := by omega
        have i2 : (k : Int) < len1 := by omega
        have hbg : b ≠ g2 := HBK.out b (by omega)
        clear ho hc
        generalize ss.getD k 0 = x1 at *
        generalize us.getD k 0 = y1 at *
        generalize x1 ||| y1 = y2 at *
        generalize hsm2 : decide (orL ss (us.take k) = ss) = sm at *
        have HSM := hid hsm2
        clear hsm2
        go_wp2
        refine tail.region 12 (by kernel_rfl) (by kernel_rfl) ?_
        simp only [List.take_succ_cons, List.take_zero, List.drop_succ_cons, List.drop_zero]
        repeat (go_big_quiet_step (fail))
        refine wpQuiet_nil ?_
        rintro _ ⟨nq, rfl⟩
        go_wp2
        have hst := (HO.out.drewN nq).stored k (.int .u32 (y2 : Int))
        have hb3 : Below w1.heap.size w1 ((wr.drewN nq).setCell ⟨g2, k, none⟩ (.int .u32 (y2 : Int))) := (below_drewN hb nq).setCell (by simpa using hg2a) _
        have hs1 : ((wr.drewN nq).setCell ⟨g2, k, none⟩ (.int .u32 (y2 : Int))).ownsRow w1.heap.size 23 1 (.slice (some ⟨g2, 0, none⟩) (len + 1) k2) (len + 1) ((orL ss (us.take (k + 1))).map fun x : Nat => Value.int .u32 (x : Int)) := by
          rw [HT.out, List.map_set]; exact hst.1
        clear hst
        generalize (wr.drewN nq).setCell ⟨g2, k, none⟩ (.int .u32 (y2 : Int)) = w3 at *
        have hcs3 : w3.cell? ⟨g1, k, none⟩ = some (.int .u32 (x1 : Int)) := by
          rw [← hcs, hb3.cell (p := ⟨g1, k, none⟩) hg1s, hb.cell (p := ⟨g1, k, none⟩) hg1s]
        have hct3 : w3.cell? ⟨g2, k, none⟩ = some (.int .u32 (y2 : Int)) := by
          rw [hs1.cellAt _ (by omega), HT.out, List.map_set, List.getElem?_set_self (by rw [List.length_map, orL_length, HSN.out]; exact hlt)]
        have HR : ∀ b' : Bool, ((orL ss (us.take k) = ss ∧ y2 = x1) ↔ b' = true) → Value.bool b' = Value.bool (decide (orL ss (us.take (k + 1)) = ss)) := fun b' h => by
          rw [HT.out]; congr 1; rw [Bool.eq_iff_iff, decide_eq_true_eq, HE.out]; exact h.symm
        have HRR := hid HR
        have HS1 := hid hs1
        clear HR hs1 hcs hct hcu f2 hor
        cases sm with
        | false =>
          have hno := HSM.out
          rw [decide_eq_false_iff_not] at hno
          have HNO := hid hno
          clear hno
          go_quiet (fail)
          go_wp2
          exact ⟨⟨k + 1, by omega, by omega, by go_num, HRR.out _ ⟨fun h => absurd h.1 HNO.out, fun h => by cases h⟩, HS1.out.drewN _, below_drewN hb3 _⟩, by simp [intOf]; omega⟩
        | true =>
          have hyes := HSM.out
          rw [decide_eq_true_eq] at hyes
          have HYES := hid hyes
          clear hyes
          by_cases hyx : y2 = x1
          · have HYX := hid hyx
            have hq : ((y2 : Int) == x1) = true := by rw [beq_iff_eq]; omega
            clear hyx
            go_quiet (fail)
            go_wp2
            exact ⟨⟨k + 1, by omega, by omega, by go_num, HRR.out _ ⟨fun _ => rfl, fun _ => ⟨HYES.out, HYX.out⟩⟩, HS1.out.drewN _, below_drewN hb3 _⟩, by simp [intOf]; omega⟩
          · have HYX := hid hyx
            have hq : ((y2 : Int) == x1) = false := by rw [beq_eq_false_iff_ne]; omega
            clear hyx
            go_quiet (fail)
            go_wp2
            exact ⟨⟨k + 1, by omega, by omega, by go_num, HRR.out _ ⟨fun h => absurd h.2 HYX.out, fun h => by cases h⟩, HS1.out.drewN _, below_drewN hb3 _⟩, by simp [intOf]; omega⟩
      · have hto : orL ss (us.take k) = orL ss us := by rw [List.take_of_length_le (by rw [HL1.out]; omega)]
        have rv := Reads.own ho
        have hsr2 : rightB (orL ss us) = decide (orL ss us = ss) := HSU.out us HX1.out
        rw [hto] at rv ho ⊢
        have c2 := fun w' (h : Reads .u32 w' (some ⟨g2, 0, none⟩) (len + 1) (orL ss us)) => right_any (some ⟨g2, 0, none⟩) (len + 1) k2 (orL ss us) w' h (orL_lt _ _ HSL.out HX1.out) (by omega) hk2 hk2m
        rw [hsr2] at c2
        clear hsr2 ho hto
        generalize decide (orL ss us = ss) = sm at *
        have hq : (sm == sm) = true := by cases sm <;> rfl
        have i1 : (k : Int) < (len : Int) + 1 := by omega
        have i2 : ¬ (k : Int) < len1 := by omega
        go_wp2_with (first
          | (go_at_call 12; ((with_reducible refine (c2 _ rv).mono ?_); rintro e w' ⟨rfl, m6, rfl⟩))
          | (go_at_call 14; ((with_reducible refine (awake_any _).mono ?_); rintro e w' ⟨rfl, hbe⟩)))
        go_ret
        exact ⟨rfl, (below_drewN (hb1.trans (hb.mono z1)) _).trans (hbe.mono (by have := hb.size; simp; omega))⟩
    · have hto : orL ss (us.take k) = orL ss us := orL_take_all _ _ _ (by rw [HSN.out]; omega)
      have rv := Reads.own ho
      have hsr2 : rightB (orL ss us) = decide (orL ss us = ss) := HSU.out us HX1.out
      rw [hto] at rv ho ⊢
      have c2 := fun w' (h : Reads .u32 w' (some ⟨g2, 0, none⟩) (len + 1) (orL ss us)) => right_any (some ⟨g2, 0, none⟩) (len + 1) k2 (orL ss us) w' h (orL_lt _ _ HSL.out HX1.out) (by omega) hk2 hk2m
      rw [hsr2] at c2
      clear hsr2 ho hto
      generalize decide (orL ss us = ss) = sm at *
      have hq : (sm == sm) = true := by cases sm <;> rfl
      have i1 : ¬ (k : Int) < (len : Int) + 1 := by omega
      go_wp2_with (first
        | (go_at_call 12; ((with_reducible refine (c2 _ rv).mono ?_); rintro e w' ⟨rfl, m6, rfl⟩))
        | (go_at_call 14; ((with_reducible refine (awake_any _).mono ?_); rintro e w' ⟨rfl, hbe⟩)))
      go_ret
      exact ⟨rfl, (below_drewN (hb1.trans (hb.mono z1)) _).trans (hbe.mono (by have := hb.size; simp; omega))⟩
end Go.Proofs.Ytcgfinfafphapaa.zerosSure
