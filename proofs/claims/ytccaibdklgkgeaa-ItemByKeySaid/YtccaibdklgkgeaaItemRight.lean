/- Contract of layer 18: Right. No condition. -/
import Derived.Test.YtccaibdklgkgeaaItemRow
import Derived.BigQuiet
namespace Go.Proofs.Ytccaibdklgkgeaa.item
open Go.RowKit
set_option linter.unusedVariables false

theorem right_any (a : Option Addr) (c : Nat) (L : List It) (w : World) (h : Its w a L) (hL : L.length ≤ maxLen) :
    Calls Try.prog 19 #[.slice a L.length c] w (Gives (.bool (decide (Right L))) w) := by
  have hml : (L.length : Int) ≤ 9223372036854775807 := by unfold maxLen at hL; omega
  have HF := hid h
  obtain ⟨r, hr⟩ : ∃ r : Bool, Hid (decide (Right L) = r) := ⟨_, rfl⟩
  rw [hr.out]
  unfold Gives
  clear h hL
  go_enter Try.func19, Try.ntmps19
  go_wp2
  go_loopw [7] (fun n wr => ∃ k : Nat, k ≤ L.length ∧ n = .int .i64 (k : Int) ∧ Hid (∀ i < k, okAt L i = true) ∧ Hid (Below w.heap.size w wr)) (fun n _ => L.length - (intOf n).toNat)
  case atStart => exact ⟨0, Nat.zero_le _, rfl, hid (fun i hi => absurd hi (by omega)), hid (Below.refl _ _)⟩
  case round =>
    obtain ⟨k, hk, rfl, HO, HB⟩ := hrel
    by_cases hlt : k < L.length
    · obtain ⟨g, off, p, rfl, hbl, hp, c0, c1⟩ := it_at HF.out HB.out hlt
      have HB1 := hid (HB.out.alloc HB.out.size (.cells #[.int .u32 (p.key : Nat), .string p.data] 37))
      obtain ⟨_, _, p2, he, hbl1, hp2, e0, e1⟩ := it_at HF.out HB1.out hlt
      cases he
      cases hp.symm.trans hp2
      clear hp2
      have i1 : (k : Int) < L.length := by omega
      have HO1 := hid (fun (ho : okAt L k = true) => show ∀ i < k + 1, okAt L i = true from fun i hi => by
        rcases Nat.lt_succ_iff_lt_or_eq.1 hi with h | rfl
        · exact HO.out i h
        · exact ho)
      have HN := hid (fun (ho : okAt L k = false) => show r = false from by rw [← hr.out]; exact decide_eq_false (fun hR => by rw [hR k hlt] at ho; exact absurd ho (by simp)))
      by_cases hs : p.data.size ≤ 64
      · have ds : decide (64 < (p.data.size : Int)) = false := decide_eq_false (by omega)
        by_cases h0 : k = 0
        · subst h0
          have ok : okAt L 0 = true := by unfold okAt; rw [hp]; simp [hs]
          clear hp hs
          simp only [Nat.zero_mul, Nat.add_zero] at c0 c1 e0 e1
          go_wp2
          go_quiet (fail)
          go_wp2
          exact ⟨⟨1, by omega, by go_num, hid (HO1.out ok), hid (below_drewN HB1.out _)⟩, by simp [intOf]; omega⟩
        · obtain ⟨_, _, q, he, hbq, hq, d0, d1⟩ := it_at HF.out HB1.out (k := k - 1) (by omega)
          cases he
          have hk1 : ((k : Int) - 1) = ((k - 1 : Nat) : Int) := by omega
          have hk0 : decide (0 < k) = true := decide_eq_true (by omega)
          generalize hkm : k - 1 = j at *
          have i2 : (j : Int) < L.length := by omega
          by_cases hqp : q.key < p.key
          · have ok : okAt L k = true := by unfold okAt; rw [hp, hkm]; simp [hs, hq, hqp]
            have dk : decide (p.key ≤ q.key) = false := decide_eq_false (by omega)
            clear hp hq hkm hs hqp h0
            go_wp2
            go_quiet (fail)
            go_wp2
            exact ⟨⟨k + 1, by omega, by go_num, hid (HO1.out ok), hid (below_drewN HB1.out _)⟩, by simp [intOf]; omega⟩
          · have ok : okAt L k = false := by unfold okAt; rw [hp, hkm]; simp [hs, hq, hqp, h0]
            obtain rfl := HN.out ok
            have dk : decide (p.key ≤ q.key) = true := decide_eq_true (by omega)
            clear hp hq hkm hs hqp h0
            go_wp2
            go_quiet (fail)
            go_wp2
            go_ret
            exact ⟨rfl, below_drewN HB1.out _⟩
      · have ok : okAt L k = false := by unfold okAt; rw [hp]; simp [hs]
        obtain rfl := HN.out ok
        have ds : decide (64 < (p.data.size : Int)) = true := decide_eq_true (by omega)
        clear hp hs
        go_wp2
        go_quiet (fail)
        go_wp2
        go_ret
        exact ⟨rfl, below_drewN HB1.out _⟩
    · obtain rfl : k = L.length := by omega
      obtain rfl : true = r := by rw [← hr.out]; exact (decide_eq_true (show Right L from HO.out)).symm
      go_wp2
      go_ret
      exact ⟨rfl, HB.out⟩
end Go.Proofs.Ytccaibdklgkgeaa.item
