/- Contracts of layer 18: Same and slices.Equal at items. No condition. -/
import Derived.Test.YtccaibdklgkgeaaItemRow
import Derived.BigQuiet
namespace Go.Proofs.Ytccaibdklgkgeaa.item
open Go.RowKit
set_option linter.unusedVariables false

theorem eq_take_succ {L M : List It} {k : Nat} {p q : It} (hp : L[k]? = some p) (hq : M[k]? = some q) : L.take (k + 1) = M.take (k + 1) ↔ L.take k = M.take k ∧ p = q := by
  rw [take_succ_at hp, take_succ_at hq]
  constructor
  · intro h
    have := List.append_inj' h rfl
    exact ⟨this.1, by simpa using this.2⟩
  · rintro ⟨h, rfl⟩; rw [h]
theorem equal_any (a : Option Addr) (c : Nat) (L : List It) (b : Option Addr) (d : Nat) (M : List It) (w : World) (h : Its w a L) (h' : Its w b M) (hL : L.length ≤ maxLen) (hM : M.length ≤ maxLen) :
    Calls Try.prog 30 #[.slice a L.length c, .slice b M.length d] w (Gives (.bool (decide (L = M))) w) := by
  have hml : (L.length : Int) ≤ 9223372036854775807 := by unfold maxLen at hL; omega
  have hmm : (M.length : Int) ≤ 9223372036854775807 := by unfold maxLen at hM; omega
  have HF := hid h
  have HG := hid h'
  obtain ⟨r, hr⟩ : ∃ r : Bool, Hid (decide (L = M) = r) := ⟨_, rfl⟩
  rw [hr.out]
  unfold Gives
  clear h h' hL hM
  by_cases hlen : L.length = M.length
  · have HLEN := hid hlen
    rw [← hlen]
    clear hlen hmm
    go_enter Try.func30, Try.ntmps30
    go_wp2
    go_loopw [13] (fun n wr => ∃ k : Nat, k ≤ L.length ∧ n = .int .i64 (k : Int) ∧ Hid (L.take k = M.take k) ∧ Hid (Below w.heap.size w wr)) (fun n _ => L.length - (intOf n).toNat)
    case atStart => exact ⟨0, Nat.zero_le _, rfl, hid rfl, hid (Below.refl _ _)⟩
    case round =>
      obtain ⟨k, hk, rfl, HEQ, HB⟩ := hrel
      by_cases hlt : k < L.length
      · obtain ⟨g, off, p, rfl, hbl, hp, c0, c1⟩ := it_at HF.out HB.out hlt
        obtain ⟨g', off', q, rfl, hbl', hq, d0, d1⟩ := it_at HG.out HB.out (k := k) (by rw [← HLEN.out]; exact hlt)
        have i1 : (k : Int) < L.length := by omega
        have HS := hid (eq_take_succ hp hq)
        have hne := fun W => neq_it p q W
        have hng := fun x y W => eqgn_it x y p q W
        have HNE := hid (fun (hpq : ¬ p = q) => show ¬ L = M from fun e => by rw [e] at hp; exact hpq (Option.some.inj (hp.symm.trans hq)))
        clear hp hq
        by_cases hpq : p = q
        · rw [decide_eq_true hpq] at hne
          have HPQ := hid hpq
          clear hpq
          go_wp2
          go_quiet (fail)
          go_wp2
          exact ⟨⟨k + 1, by omega, by go_num, hid (HS.out.2 ⟨HEQ.out, HPQ.out⟩), hid (below_drewN HB.out _)⟩, by simp [intOf]; omega⟩
        · rw [decide_eq_false hpq] at hne
          obtain rfl : false = r := by rw [← hr.out]; exact (decide_eq_false (HNE.out hpq)).symm
          clear hpq
          go_wp2
          go_quiet (fail)
          go_wp2
          go_ret
          exact ⟨rfl, below_drewN HB.out _⟩
      · obtain rfl : k = L.length := by omega
        obtain rfl : true = r := by
          rw [← hr.out]
          have := HEQ.out
          rw [List.take_of_length_le (Nat.le_refl _), List.take_of_length_le (by rw [HLEN.out]; exact Nat.le_refl _)] at this
          exact (decide_eq_true this).symm
        go_wp2
        go_ret
        exact ⟨rfl, HB.out⟩
  · obtain rfl : false = r := by rw [← hr.out]; exact (decide_eq_false (fun e => hlen (by rw [e]))).symm
    have hd : ((L.length : Int) == (M.length : Int)) = false := by rw [beq_eq_false_iff_ne]; omega
    clear hlen
    go_enter Try.func30, Try.ntmps30
    go_wp2
    go_ret
    exact ⟨rfl, Below.refl _ _⟩
theorem same_any (a : Option Addr) (c : Nat) (L : List It) (b : Option Addr) (d : Nat) (M : List It) (w : World) (h : Its w a L) (h' : Its w b M) (hL : L.length ≤ maxLen) (hM : M.length ≤ maxLen) :
    Calls Try.prog 21 #[.slice a L.length c, .slice b M.length d] w (Gives (.bool (decide (L = M))) w) := by
  have cE := equal_any a c L b d M w h h' hL hM
  generalize decide (L = M) = r at *
  clear h h'
  unfold Gives at *
  go_enter Try.func21, Try.ntmps21
  go_wp2_with (go_at_call 30; ((with_reducible refine cE.mono ?_); rintro e w' ⟨rfl, hb⟩))
  go_ret
  exact ⟨rfl, hb⟩
end Go.Proofs.Ytccaibdklgkgeaa.item
