/- Contract of layer 18's reference: Between. No condition but a list of at most 4294967296 items. -/
import Derived.Test.YtccaibdklgkgeaaItemPush
namespace Go.Proofs.Ytccaibdklgkgeaa.item
open Go.RowKit
set_option linter.unusedVariables false


theorem between_any (a : Option Addr) (c : Nat) (L : List It) (lo hi : Nat) (w : World) (h : Its w a L) (hL : L.length ≤ 4294967296) :
    Calls Try.prog 33 #[.slice a L.length c, .int .u32 (lo : Int), .int .u32 (hi : Int)] w (Lists (between lo hi L) w) := by
  have hml : (L.length : Int) ≤ 9223372036854775807 := by omega
  have HF := hid h
  have HL := hid hL
  obtain ⟨R, hR⟩ : ∃ R, Hid (L.filter (fun p => decide (lo ≤ p.key) && decide (p.key ≤ hi)) = R) := ⟨_, rfl⟩
  unfold Lists between
  rw [hR.out]
  clear h hL
  go_enter Try.func33, Try.ntmps33
  go_wp2
  go_loopw [7, 8] (fun v n wr => ∃ k : Nat, k ≤ L.length ∧ n = .int .i64 (k : Int) ∧ Hid (Row w ((L.take k).filter (fun p => decide (lo ≤ p.key) && decide (p.key ≤ hi))) v wr)) (fun _ n _ => L.length - (intOf n).toNat)
  case atStart => exact ⟨0, Nat.zero_le _, rfl, hid (Row.nil w)⟩
  case round =>
    obtain ⟨k, hk, rfl, HR⟩ := hrel
    by_cases hlt : k < L.length
    · obtain ⟨b, off, p, rfl, hbl, hp, c0, c1⟩ := it_at HF.out HR.out.2 hlt
      have i1 : (k : Int) < L.length := by omega
      have HYES := hid (fun (hf : (fun p => decide (lo ≤ p.key) && decide (p.key ≤ hi)) p = true) => filter_yes (f := fun p => decide (lo ≤ p.key) && decide (p.key ≤ hi)) hp hf)
      have HNO := hid (fun (hf : (fun p => decide (lo ≤ p.key) && decide (p.key ≤ hi)) p = false) => filter_no (f := fun p => decide (lo ≤ p.key) && decide (p.key ≤ hi)) hp hf)
      have HSM : Hid (((L.take k).filter (fun p => decide (lo ≤ p.key) && decide (p.key ≤ hi))).length ≤ 8589934592) := by
        show _ ≤ _
        have := List.length_filter_le (fun p => decide (lo ≤ p.key) && decide (p.key ≤ hi)) (L.take k)
        rw [List.length_take] at this
        have := HL.out
        omega
      clear hp
      by_cases h1 : lo ≤ p.key
      · have d1 : decide (lo ≤ p.key) = true := decide_eq_true h1
        by_cases h2 : p.key ≤ hi
        · have d2 : decide (p.key ≤ hi) = true := decide_eq_true h2
          simp only [d1, d2] at HYES
          clear h1 h2 HNO
          go_wp2_with (at_builtin; refine wpList_append_it rfl _ _ rfl _ p _ rfl rfl HR HSM ?_; intro v3 w3 HR3; skip)
          exact ⟨⟨k + 1, by omega, by go_num, hid (by rw [HYES.out (by simp)]; exact HR3.out)⟩, by simp [intOf]; omega⟩
        · have d2 : decide (p.key ≤ hi) = false := decide_eq_false h2
          simp only [d1, d2] at HNO
          clear h1 h2 HYES
          go_wp2
          exact ⟨⟨k + 1, by omega, by go_num, hid (by rw [HNO.out rfl]; exact HR.out)⟩, by simp [intOf]; omega⟩
      · have d1 : decide (lo ≤ p.key) = false := decide_eq_false h1
        simp only [d1] at HNO
        clear h1 HYES
        go_wp2
        exact ⟨⟨k + 1, by omega, by go_num, hid (by rw [HNO.out rfl]; exact HR.out)⟩, by simp [intOf]; omega⟩
    · obtain rfl : k = L.length := by omega
      have hF := HR.out
      rw [List.take_of_length_le (Nat.le_refl _), hR.out] at hF
      obtain ⟨a9, c9, rfl, _⟩ := hF.form
      have HF9 := hid hF
      clear hF
      go_wp2
      go_ret
      exact ⟨a9, c9, rfl, HF9.out.1, HF9.out.2⟩
end Go.Proofs.Ytccaibdklgkgeaa.item
