/- Contract of layer 18: Find. No condition. -/
import Derived.Test.YtccaibdklgkgeaaItemRow
namespace Go.Proofs.Ytccaibdklgkgeaa.item
open Go.RowKit
set_option linter.unusedVariables false

/-- what Find answers -/
def Finds (o : Option It) (w : World) (e : Ending) (w' : World) : Prop := e = .returned (.tuple #[.string (data o), .bool o.isSome]) ∧ Below w.heap.size w w'
theorem find_any (a : Option Addr) (c : Nat) (L : List It) (x : Nat) (w : World) (h : Its w a L) (hL : L.length ≤ maxLen) :
    Calls Try.prog 14 #[.slice a L.length c, .int .u32 (x : Int)] w (Finds (find x L) w) := by
  have hml : (L.length : Int) ≤ 9223372036854775807 := by unfold maxLen at hL; omega
  have HF := hid h
  obtain ⟨r, hr⟩ : ∃ r, Hid (find x L = r) := ⟨_, rfl⟩
  rw [hr.out]
  unfold Finds
  clear h hL
  go_enter Try.func14, Try.ntmps14
  go_wp2
  go_loopw [10] (fun n wr => ∃ k : Nat, k ≤ L.length ∧ n = .int .i64 (k : Int) ∧ Hid (find x (L.take k) = none) ∧ Hid (Below w.heap.size w wr)) (fun n _ => L.length - (intOf n).toNat)
  case atStart => exact ⟨0, Nat.zero_le _, rfl, hid rfl, hid (Below.refl _ _)⟩
  case round =>
    obtain ⟨k, hk, rfl, HN, HB⟩ := hrel
    by_cases hlt : k < L.length
    · obtain ⟨g, off, p, rfl, hbl, hp, c0, c1⟩ := it_at HF.out HB.out hlt
      have i1 : (k : Int) < L.length := by omega
      have HB1 := hid (HB.out.alloc HB.out.size (.cells #[.int .u32 (p.key : Nat), .string p.data] 37))
      by_cases hpx : p.key = x
      · obtain rfl : some p = r := by rw [← hr.out]; exact (find_yes (f := fun p : It => p.key == x) hp HN.out (by simp [hpx])).symm
        have hd : ((p.key : Int) == (x : Int)) = true := by simp [hpx]
        clear hp hpx
        go_wp2
        go_ret2
        exact ⟨rfl, HB1.out⟩
      · have HN1 := hid (find_no (f := fun p : It => p.key == x) hp HN.out (by simp [hpx]))
        have hd : ((p.key : Int) == (x : Int)) = false := by rw [beq_eq_false_iff_ne]; omega
        clear hp hpx
        go_wp2
        exact ⟨⟨k + 1, by omega, by go_num, hid HN1.out, HB1⟩, by simp [intOf]; omega⟩
    · obtain rfl : k = L.length := by omega
      obtain rfl : none = r := by rw [← hr.out, ← HN.out, List.take_of_length_le (Nat.le_refl _)]
      go_wp2
      go_ret2
      exact ⟨rfl, HB.out⟩
end Go.Proofs.Ytccaibdklgkgeaa.item
