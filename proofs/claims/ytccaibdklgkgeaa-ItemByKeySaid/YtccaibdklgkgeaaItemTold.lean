/- What a key says; contract of layer 18: Told. No condition. -/
import Derived.Test.YtccaibdklgkgeaaItemRow
namespace Go.Proofs.Ytccaibdklgkgeaa.item
open Go.RowKit
set_option linter.unusedVariables false

/-- what a key says -/
def Tells (k : Nat) (w : World) (e : Ending) (w' : World) : Prop := e = .returned (.tuple #[.int .i64 ((k / 16777216 : Nat) - 1 : Int), .int .i64 ((k % 16777216 / 65536 : Nat) : Int), .int .i64 ((k % 65536 : Nat) : Int)]) ∧ Below w.heap.size w w'
theorem told_any (k : Nat) (w : World) (hk : k < 4294967296) : Calls Try.prog 8 #[.int .u32 (k : Int)] w (Tells k w) := by
  unfold Tells
  go_enter Try.func8, Try.ntmps8
  go_wp2
  go_ret3
  exact ⟨by go_num, Below.refl _ _⟩
end Go.Proofs.Ytccaibdklgkgeaa.item
