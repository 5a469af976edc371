/- BoxNone: for every number, a box that is none takes nothing and has nothing. No condition. -/
import Derived.Test.YtmekglkiiannfaaBoxAwake
namespace Go.Proofs.Ytmekglkiiannfaa.boxNone
open Go.RowKit Go.Proofs.Ytmekglkiiannfaa.box
set_option linter.unusedVariables false

set_option maxRecDepth 8000 in
theorem walk (n : Int) (w : World) (h1 : -9223372036854775808 ≤ n) (h2 : n ≤ 9223372036854775807) : Calls Try.prog 5 #[.int .i64 n] w (Yes w) := by
  clear h1 h2
  go_enter Try.func5, Try.ntmps5
  go_wp2_with (first
    | (go_at_call 11; (with_reducible refine (take_nil _).mono ?_); rintro e w1 ⟨rfl, hw⟩; have hw' := hw.symm; clear hw; subst hw')
    | (go_at_call 13; (with_reducible refine (first_nil _).mono ?_); rintro e w1 ⟨rfl, hw⟩; have hw' := hw.symm; clear hw; subst hw')
    | (go_at_call 9; (with_reducible refine (put_nil _ _).mono ?_); rintro e w2 ⟨rfl, hb2⟩)
    | (go_at_call 15; (with_reducible refine (len_nil _).mono ?_); rintro e w1 ⟨rfl, hw⟩; have hw' := hw.symm; clear hw; subst hw')
    | (go_at_call 16; (with_reducible refine (room_nil _).mono ?_); rintro e w1 ⟨rfl, hw⟩; have hw' := hw.symm; clear hw; subst hw')
    | (go_at_call 14; (with_reducible refine (all_nil _).mono ?_); rintro e w1 ⟨rfl, hw⟩; have hw' := hw.symm; clear hw; subst hw')
    | (go_at_call 6; (with_reducible refine (awake_any _).mono ?_); rintro e w11 ⟨rfl, hb11⟩))
  go_ret
  exact ⟨rfl, hb2.trans (hb11.mono hb2.size)⟩
end Go.Proofs.Ytmekglkiiannfaa.boxNone
