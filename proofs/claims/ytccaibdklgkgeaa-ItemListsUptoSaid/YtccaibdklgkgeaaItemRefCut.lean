/- Contract of layer 18's reference: Cut. No condition but a list of at most 4294967296 items. -/
import Derived.Test.YtccaibdklgkgeaaItemPush
namespace Go.Proofs.Ytccaibdklgkgeaa.item
open Go.RowKit
set_option linter.unusedVariables false


theorem refCut_any (a : Option Addr) (c : Nat) (L : List It) (x : Nat) (w : World) (h : Its w a L) (hL : L.length ≤ 4294967296) :
    Calls Try.prog 17 #[.slice a L.length c, .int .u32 (x : Int)] w (Lists2 (cut L x) (.bool (decide ((cut L x).length < L.length))) w) := by
  have hml : (L.length : Int) ≤ 9223372036854775807 := by omega
  have HF := hid h
  have HL := hid hL
  obtain ⟨R, hR⟩ : ∃ R, Hid (L.filter (fun p => !(p.key == x)) = R) := ⟨_, rfl⟩
  unfold Lists2 cut
  rw [hR.out]
  obtain ⟨d, hd⟩ : ∃ d : Bool, Hid (decide (R.length < L.length) = d) := ⟨_, rfl⟩
  rw [hd.out]
  clear h hL
  go_enter Try.func17, Try.ntmps17
  go_wp2
  go_loopw [6, 7] (fun v n wr => ∃ k : Nat, k ≤ L.length ∧ n = .int .i64 (k : Int) ∧ Hid (Row w ((L.take k).filter (fun p => !(p.key == x))) v wr)) (fun _ n _ => L.length - (intOf n).toNat)
  case atStart => exact ⟨0, Nat.zero_le _, rfl, hid (Row.nil w)⟩
  case round =>
    obtain ⟨k, hk, rfl, HR⟩ := hrel
    by_cases hlt : k < L.length
    · obtain ⟨b, off, p, rfl, hbl, hp, c0, c1⟩ := it_at HF.out HR.out.2 hlt
      have i1 : (k : Int) < L.length := by omega
      have HYES := hid (fun (hf : (fun p => !(p.key == x)) p = true) => filter_yes (f := fun p => !(p.key == x)) hp hf)
      have HNO := hid (fun (hf : (fun p => !(p.key == x)) p = false) => filter_no (f := fun p => !(p.key == x)) hp hf)
      have HSM : Hid (((L.take k).filter (fun p => !(p.key == x))).length ≤ 8589934592) := by
        show _ ≤ _
        have := List.length_filter_le (fun p => !(p.key == x)) (L.take k)
        rw [List.length_take] at this
        have := HL.out
        omega
      clear hp
      by_cases h1 : p.key = x
      · have d1 : ((p.key : Int) != (x : Int)) = false := by simp [h1]
        have HH := hid h1
        clear h1
        go_wp2
        exact ⟨⟨k + 1, by omega, by go_num, hid (by rw [HNO.out (by simp [HH.out])]; exact HR.out)⟩, by simp [intOf]; omega⟩
      · have d1 : ((p.key : Int) != (x : Int)) = true := by simp; omega
        have HH := hid h1
        clear h1
        go_wp2_with (at_builtin; refine wpList_append_it rfl _ _ rfl _ p _ rfl rfl HR HSM ?_; intro v3 w3 HR3; skip)
        exact ⟨⟨k + 1, by omega, by go_num, hid (by rw [HYES.out (by simp [HH.out])]; exact HR3.out)⟩, by simp [intOf]; omega⟩
    · obtain rfl : k = L.length := by omega
      have hF := HR.out
      rw [List.take_of_length_le (Nat.le_refl _), hR.out] at hF
      obtain ⟨a9, c9, rfl, _⟩ := hF.form
      have HF9 := hid hF
      have hd9 : decide (R.length < L.length) = d := hd.out
      clear hF
      go_wp2
      go_ret2
      exact ⟨a9, c9, by first | rfl | simp [hd.out], HF9.out.1, HF9.out.2⟩
end Go.Proofs.Ytccaibdklgkgeaa.item
