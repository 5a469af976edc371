/- Two digests are equal. No condition. -/
import Derived.Test.YtlpbfkfamanaiaaDoorShaMixed
namespace Go.Proofs.YtlpbfkfamanaiaaDoor.sha
open Go.RowKit Go.Proofs.YtlpbfkfamanaiaaDoor.word
set_option linter.unusedVariables false

theorem eql8 (c0 c1 c2 c3 c4 c5 c6 c7 : Int) (w : World) :
    (Op.equalIn 10000 25 (.agg #[.int .u32 c0, .int .u32 c1, .int .u32 c2, .int .u32 c3, .int .u32 c4, .int .u32 c5, .int .u32 c6, .int .u32 c7]) (.agg #[.int .u32 c0, .int .u32 c1, .int .u32 c2, .int .u32 c3, .int .u32 c4, .int .u32 c5, .int .u32 c6, .int .u32 c7])).run Tryd.prog w = .ok true w := by
  have ha : (isAgg 24).run Tryd.prog w = .ok false w := by kernel_rfl
  have hp : ∀ (i : Nat) (xs : Array Value) (v : Value), xs[i]? = some v → (Go.part 24 xs i).run Tryd.prog w = .ok v w := by
    intro i xs v h
    simp [Go.part, Sem.run_bind, ha, h]
  have hs : (sizeOf 24).run Tryd.prog w = .ok 1 w := by kernel_rfl
  have he : ∀ a : Int, (Op.equalIn 9999 24 (.int .u32 a) (.int .u32 a)).run Tryd.prog w = .ok true w := fun a => by
    have := run_equalIn_int (P := Tryd.prog) w 9998 24 .u32 .u32 a a Tryd.underlying24
    simpa using this
  show (Op.equalIn (9999 + 1) _ _ _).run _ _ = _
  unfold Op.equalIn
  simp only [Sem.run_bind, run_underlying Tryd.underlying25, Result.andThen_ok, hs]
  simp [Std.Legacy.Range.forIn_eq_forIn_range', Std.Legacy.Range.size, List.range', hp, he, Sem.run_bind]
theorem same_eq (D : List Nat) (h : D.length = 8) (w : World) : (Op.equalIn 10000 25 (.agg (u32s D).toArray) (.agg (u32s D).toArray)).run Tryd.prog w = .ok true w := by
  match D, h with
  | [_, _, _, _, _, _, _, _], _ => exact eql8 _ _ _ _ _ _ _ _ w
end Go.Proofs.YtlpbfkfamanaiaaDoor.sha
