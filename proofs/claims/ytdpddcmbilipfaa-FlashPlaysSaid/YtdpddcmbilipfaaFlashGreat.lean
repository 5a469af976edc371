/- Contract of the law file's great of layer 7 (flash), for every list of acts. No condition. -/
import Derived.Test.YtdpddcmbilipfaaFlashOpen
namespace Go.Proofs.Ytdpddcmbilipfaa.flash
open Go.RowKit
set_option linter.unusedVariables false

def bigL (l : List FAct) : Bool := (l.take 101).any (fun q => decide (100 < q.len)) || decide (100 < l.length)
theorem not_big {l : List FAct} (h : bigL l = false) : l.length ≤ 100 ∧ ∀ q ∈ l, q.len ≤ 100 := by
  unfold bigL at h
  rw [Bool.or_eq_false_iff] at h
  obtain ⟨h1, h2⟩ := h
  have h3 : l.length ≤ 100 := by simpa using h2
  refine ⟨h3, fun q hq => ?_⟩
  rw [List.take_of_length_le (by omega), List.any_eq_false] at h1
  have := h1 q hq
  simpa using this
set_option maxHeartbeats 1600000 in
theorem great_any (a0 : Option Addr) (cap : Nat) (l : List FAct) (w : World) (ac : FActs w a0 l) (hcap : l.length ≤ maxLen) : Calls Try.prog 6 #[.slice a0 l.length cap] w (Quiet (.bool (bigL l)) w) := by
  have hml : (l.length : Int) ≤ 9223372036854775807 := by unfold maxLen at hcap; omega
  go_enter Try.func6, Try.ntmps6
  go_wp2
  go_loopw [3] (fun i wr => ∃ k : Nat, k ≤ l.length ∧ k ≤ 101 ∧ i = .int .i64 (k : Int) ∧ wr = w ∧ Hid ((l.take k).any (fun q => decide (100 < q.len)) = false)) (fun i _ => 101 - (intOf i).toNat)
  case atStart => exact ⟨0, Nat.zero_le _, Nat.zero_le _, rfl, rfl, hid (by simp)⟩
  case round =>
    obtain ⟨k, hk, hk2, rfl, rfl, hno⟩ := hrel
    by_cases h1 : k < l.length
    · by_cases h2 : k < 101
      · obtain ⟨b, off, p, rfl, hlt, hp, c0, c1, c2, c3⟩ := ac.at h1
        have i1 : (k : Int) < l.length := by omega
        have hstep : (l.take (k + 1)).any (fun q => decide (100 < q.len)) = ((l.take k).any (fun q => decide (100 < q.len)) || decide (100 < p.len)) := by
          rw [List.take_add_one, hp]; simp
        rw [hno.out, Bool.false_or] at hstep
        have HST := hid hstep
        have HP := hid hp
        clear hstep hp ac c0 c1 c2
        by_cases h3 : 100 < p.len
        · go_wp2
          go_ret
          refine ⟨ret_bool ?_, 0, rfl⟩
          unfold bigL
          rw [show (l.take 101).any (fun q => decide (100 < q.len)) = true from ?_, Bool.true_or]
          rw [List.any_eq_true]
          exact ⟨p, List.mem_of_getElem? (i := k) (by rw [List.getElem?_take, if_pos h2]; exact HP.out), by simpa using h3⟩
        · go_wp2
          exact ⟨⟨k + 1, by omega, by omega, by go_num, trivial, hid (by rw [HST.out]; simpa using h3)⟩, by simp [intOf]; omega⟩
      · obtain rfl : k = 101 := by omega
        have h4 : (100 : Int) < l.length := by omega
        have HE : Hid (bigL l = true) := hid (by unfold bigL; rw [show decide (100 < l.length) = true from decide_eq_true (by omega), Bool.or_true])
        clear ac
        go_wp2
        go_ret
        exact ⟨ret_bool HE.out.symm, 0, rfl⟩
    · obtain rfl : k = l.length := by omega
      have HE : Hid (bigL l = decide (100 < l.length)) := hid (by
        unfold bigL
        have := hno.out
        rw [List.take_of_length_le (Nat.le_refl _)] at this
        rw [List.take_of_length_le hk2, this, Bool.false_or])
      clear ac
      generalize l.length = n at *
      go_wp2
      go_ret
      exact ⟨ret_bool (by rw [HE.out]; by_cases h : 100 < n <;> simp <;> omega), 0, rfl⟩
end Go.Proofs.Ytdpddcmbilipfaa.flash
