/- Contracts of the reference's Twin and Told of layer 2. -/
import Derived.Test.YtcgfinfafphapaaZerosTwin
namespace Go.Proofs.Ytcgfinfafphapaa.zeros
open Go.RowKit
set_option linter.unusedVariables false

theorem refTwin_any (n : Nat) (hn : n < 65536) (w : World) :
    Calls Try.prog 18 #[.int .i64 n] w (Quiet (.int .u32 (twinN n)) w) := by
  have HT : Hid (twinN n = (65535 - n) * 65536 + n) := rfl
  generalize twinN n = t at *
  go_enter Try.func18, Try.ntmps18
  go_wp2
  go_ret
  refine ⟨ret_int ?_, 0, rfl⟩
  rw [HT.out]
  omega
theorem refTold_any (x : Nat) (hx : x < 4294967296) (w : World) :
    Calls Try.prog 16 #[.int .u32 x] w (Quiet (toldV x) w) := by
  have c := fun w' => refTwin_any (x % 65536) (by omega) w'
  simp only [Int.natCast_emod, Int.cast_ofNat_Int] at c
  have ht : twinN (x % 65536) < 4294967296 := twinN_lt _ (by omega)
  unfold toldV toldN
  by_cases h : twinN (x % 65536) = x
  · rw [if_pos h]
    rw [h] at c
    have hq : ((x : Int) != x) = false := by simp
    clear h ht
    go_enter Try.func16, Try.ntmps16
    go_wp2_with (go_at_call 18; (with_reducible refine (c _).mono ?_); rintro e w' ⟨rfl, m2, rfl⟩)
    go_ret2
    exact ⟨by simp, _, rfl⟩
  · rw [if_neg h]
    generalize twinN (x % 65536) = t at *
    have hq : ((t : Int) != x) = true := by rw [bne_iff_ne]; omega
    clear h ht
    go_enter Try.func16, Try.ntmps16
    go_wp2_with (go_at_call 18; (with_reducible refine (c _).mono ?_); rintro e w' ⟨rfl, m2, rfl⟩)
    go_ret2
    exact ⟨rfl, _, rfl⟩
end Go.Proofs.Ytcgfinfafphapaa.zeros
