/- Contract of layer 18's reference: Told. No condition. -/
import Derived.Test.YtccaibdklgkgeaaItemTold
namespace Go.Proofs.Ytccaibdklgkgeaa.item
open Go.RowKit
set_option linter.unusedVariables false

theorem refTold_any (k : Nat) (w : World) (hk : k < 4294967296) : Calls Try.prog 9 #[.int .u32 (k : Int)] w (Tells k w) := by
  unfold Tells
  go_enter Try.func9, Try.ntmps9
  go_wp2
  go_ret3
  exact ⟨by go_num, Below.refl _ _⟩
end Go.Proofs.Ytccaibdklgkgeaa.item
