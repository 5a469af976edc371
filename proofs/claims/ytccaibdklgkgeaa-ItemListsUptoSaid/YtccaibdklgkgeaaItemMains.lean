/- Contracts of layer 18: Mains, Sides, Cut. No condition but a list of at most 4294967296 items. -/
import Derived.Test.YtccaibdklgkgeaaItemFilterMain
import Derived.Test.YtccaibdklgkgeaaItemFilterSide
namespace Go.Proofs.Ytccaibdklgkgeaa.item
open Go.RowKit
set_option linter.unusedVariables false

theorem mains_any (a : Option Addr) (c : Nat) (L : List It) (w : World) (h : Its w a L) (hL : L.length ≤ 4294967296) : Calls Try.prog 24 #[.slice a L.length c] w (Lists (mains L) w) := by
  have cF := filter_main a c L w h hL
  unfold mains
  generalize L.filter (fun p => decide (p.key < 16777216)) = R at *
  unfold Lists at *
  clear h
  go_enter Try.func24, Try.ntmps24
  go_wp2_with (go_at_call 28; ((with_reducible refine cF.mono ?_); rintro e w1 ⟨x, xc, rfl, ho, hb⟩; have HO := hid ho; have HB := hid hb; clear ho hb))
  go_ret
  exact ⟨x, xc, rfl, HO.out, HB.out⟩
theorem sides_any (a : Option Addr) (c : Nat) (L : List It) (w : World) (h : Its w a L) (hL : L.length ≤ 4294967296) : Calls Try.prog 26 #[.slice a L.length c] w (Lists (sides L) w) := by
  have cF := filter_side a c L w h hL
  unfold sides
  generalize L.filter (fun p => !(decide (p.key < 16777216))) = R at *
  unfold Lists at *
  clear h
  go_enter Try.func26, Try.ntmps26
  go_wp2_with (go_at_call 28; ((with_reducible refine cF.mono ?_); rintro e w1 ⟨x, xc, rfl, ho, hb⟩; have HO := hid ho; have HB := hid hb; clear ho hb))
  go_ret
  exact ⟨x, xc, rfl, HO.out, HB.out⟩
end Go.Proofs.Ytccaibdklgkgeaa.item
