/- Contracts of layer 18's reference: Mains, Sides. No condition but a list of at most 4294967296 items. -/
import Derived.Test.YtccaibdklgkgeaaItemRefBetween
namespace Go.Proofs.Ytccaibdklgkgeaa.item
open Go.RowKit
set_option linter.unusedVariables false

theorem refMains_any (a : Option Addr) (c : Nat) (L : List It) (w : World) (h : Its w a L) (hL : L.length ≤ 4294967296) : Calls Try.prog 25 #[.slice a L.length c] w (Lists (mains L) w) := by
  have cF : Calls Try.prog 33 #[.slice a L.length c, .int .u32 0, .int .u32 16777215] w (Lists (mains L) w) := by rw [← between_mains]; exact between_any a c L 0 16777215 w h hL
  generalize mains L = R at *
  unfold Lists at *
  clear h
  go_enter Try.func25, Try.ntmps25
  go_wp2_with (go_at_call 33; ((with_reducible refine cF.mono ?_); rintro e w1 ⟨x, xc, rfl, ho, hb⟩; have HO := hid ho; have HB := hid hb; clear ho hb))
  go_ret
  exact ⟨x, xc, rfl, HO.out, HB.out⟩
theorem refSides_any (a : Option Addr) (c : Nat) (L : List It) (w : World) (h : Its w a L) (hL : L.length ≤ 4294967296) (hg : ∀ p ∈ L, p.key < 4294967296) : Calls Try.prog 27 #[.slice a L.length c] w (Lists (sides L) w) := by
  have cF : Calls Try.prog 33 #[.slice a L.length c, .int .u32 16777216, .int .u32 4294967295] w (Lists (sides L) w) := by rw [← between_sides hg]; exact between_any a c L 16777216 4294967295 w h hL
  generalize sides L = R at *
  unfold Lists at *
  clear h hg
  go_enter Try.func27, Try.ntmps27
  go_wp2_with (go_at_call 33; ((with_reducible refine cF.mono ?_); rintro e w1 ⟨x, xc, rfl, ho, hb⟩; have HO := hid ho; have HB := hid hb; clear ho hb))
  go_ret
  exact ⟨x, xc, rfl, HO.out, HB.out⟩
end Go.Proofs.Ytccaibdklgkgeaa.item
