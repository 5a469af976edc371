/- Contract of the law file's great of layer 13. No condition. -/
import Derived.Test.YtacigmnnekphmaaSchemaRight
namespace Go.Proofs.Ytacigmnnekphmaa.schema
open Go.RowKit
open Go.Proofs.Ytacigmnnekphmaa.field (Gives newB)
set_option linter.unusedVariables false

def big (p : Form) : Bool := decide (40 < p.2.length)
def greatB (P : List Form) : Bool := (P.take 41).any big || decide (40 < P.length)
theorem greatB_no {P : List Form} (h : greatB P = false) : P.length ≤ 40 ∧ ∀ p ∈ P, p.2.length ≤ 40 := by
  unfold greatB at h
  rw [Bool.or_eq_false_iff] at h
  have h1 : P.length ≤ 40 := by have := h.2; simp at this; omega
  refine ⟨h1, fun p hp => ?_⟩
  have h2 := h.1
  rw [List.take_of_length_le (by omega), List.any_eq_false] at h2
  have := h2 p hp
  unfold big at this
  simp at this
  omega
theorem great_any (v : Int) (a : Option Addr) (cap : Nat) (F : List Fm) (w : World) (h : FmL w a F) (hF : F.length ≤ maxLen) : Calls Try.prog 6 #[.agg #[.int .i64 v, .slice a F.length cap]] w (Gives (.bool (greatB (forms F))) w) := by
  have hml : (F.length : Int) ≤ 9223372036854775807 := by unfold maxLen at hF; omega
  have HX := hid (boxS v a F cap w)
  have HF := hid (h.below (newB w (.cells #[.int .i64 v, .slice a F.length cap] 24)))
  have HL := hid (forms_length F)
  obtain ⟨r, hr⟩ : ∃ r : Bool, Hid (greatB (forms F) = r) := ⟨_, hid rfl⟩
  rw [hr.out]
  unfold Gives
  clear h hF
  go_enter Try.func6, Try.ntmps6
  go_wp2
  generalize (w.alloc (.cells #[.int .i64 v, .slice a F.length cap] 24)) = W0 at *
  go_loopw [3] (fun n wr => ∃ k : Nat, k ≤ F.length ∧ k ≤ 41 ∧ n = .int .i64 (k : Int) ∧ W0 = wr ∧ Hid (((forms F).take k).any big = false)) (fun n _ => 41 - (intOf n).toNat)
  case atStart => exact ⟨0, Nat.zero_le _, Nat.zero_le _, rfl, rfl, hid (by simp)⟩
  case round =>
    obtain ⟨k, hk, hk2, rfl, rfl, hno⟩ := hrel
    obtain ⟨z0, z1, hbo⟩ := HX.out _ (Below.refl _ _)
    have HBO := hid hbo
    clear hbo
    by_cases h1 : k < F.length
    · by_cases h2 : k < 41
      · obtain ⟨b, off, p, rfl, hbl, hp, c0, c1, _, hfl⟩ := form_at HF.out (Below.refl _ _) h1
        have i1 : (k : Int) < F.length := by omega
        have i2 : (k : Int) < 41 := by omega
        have hpl : (p.fL.length : Int) ≤ 9223372036854775807 := by unfold maxLen at hfl; omega
        have hstep : ((forms F).take (k + 1)).any big = (((forms F).take k).any big || big p.p) := by
          rw [take_succ_at (forms_at hp)]; simp
        rw [hno.out, Bool.false_or] at hstep
        have HST := hid hstep
        have HBG : Hid (big p.p = true → greatB (forms F) = true) := hid fun hb => by
          unfold greatB
          rw [show ((forms F).take 41).any big = true from ?_, Bool.true_or]
          rw [List.any_eq_true]
          exact ⟨p.p, List.mem_of_getElem? (i := k) (by rw [List.getElem?_take, if_pos h2]; exact forms_at hp), hb⟩
        clear hstep hp c0
        by_cases h3 : 40 < p.fL.length
        · obtain rfl : true = r := by rw [← hr.out]; exact (HBG.out (by unfold big; exact decide_eq_true h3)).symm
          have hd : decide ((p.fL.length : Int) > 40) = true := decide_eq_true (by omega)
          go_wp2
          go_ret
          exact ⟨rfl, HBO.out⟩
        · have HNO := hid (show big p.p = false by unfold big; exact decide_eq_false h3)
          have hd : decide ((p.fL.length : Int) > 40) = false := decide_eq_false (by omega)
          clear h3
          go_wp2
          exact ⟨⟨k + 1, by omega, by omega, by go_num, trivial, hid (by rw [HST.out]; exact HNO.out)⟩, by simp [intOf]; omega⟩
      · obtain rfl : k = 41 := by omega
        obtain rfl : true = r := by rw [← hr.out]; unfold greatB; rw [show decide (40 < (forms F).length) = true from decide_eq_true (by rw [forms_length]; omega), Bool.or_true]
        have hd : decide ((F.length : Int) > 40) = true := decide_eq_true (by omega)
        have i1 : (41 : Int) < F.length := by omega
        go_wp2
        go_ret
        exact ⟨rfl, HBO.out⟩
    · obtain rfl : k = F.length := by omega
      obtain rfl : decide ((F.length : Int) > 40) = r := by
        rw [← hr.out]
        unfold greatB
        have := hno.out
        rw [List.take_of_length_le (by rw [forms_length]; exact Nat.le_refl _)] at this
        rw [List.take_of_length_le (by rw [forms_length]; exact hk2), this, Bool.false_or, forms_length]
        exact decide_eq_decide.2 (by omega)
      go_wp2
      go_ret
      exact ⟨rfl, HBO.out⟩
end Go.Proofs.Ytacigmnnekphmaa.schema
