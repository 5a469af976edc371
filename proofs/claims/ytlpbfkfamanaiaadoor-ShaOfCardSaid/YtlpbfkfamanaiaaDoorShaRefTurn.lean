/- Contracts of the reference's turn, rounds and first of layer 3. -/
import Derived.Test.YtlpbfkfamanaiaaDoorShaMixed
namespace Go.Proofs.YtlpbfkfamanaiaaDoor.sha
open Go.RowKit Go.Proofs.YtlpbfkfamanaiaaDoor.word
set_option linter.unusedVariables false

theorem turn_any (x n : Nat) (hx : x < 4294967296) (h1 : 1 ≤ n) (h2 : n ≤ 31) (w : World) :
    Calls Tryd.prog 19 #[.int .u32 x, .int .i64 n] w (Quiet (.int .u32 (rotr x n)) w) := by
  have hs : (32 : Int) - n = (32 - n : Nat) := by omega
  go_enter Tryd.func19, Tryd.ntmps19
  go_wp2
  go_ret
  refine ⟨ret_int ?_, 0, rfl⟩
  unfold rotr
  have e1 : (x : Int) * 2 ^ (32 - n) % 4294967296 = ((x * 2 ^ (32 - n) % 4294967296 : Nat) : Int) := by simp
  have e2 : (x : Int) / 2 ^ n = ((x / 2 ^ n : Nat) : Int) := by simp
  rw [e1, e2, u32_or_nat _ _ (div_lt n hx) (mod_lt _)]

theorem wpList_buildSlice {P : Program} {w : World} {ops : Array Oper} {rest : List Oper} {o : Oper} {a : Act} {Q : Exit → Act → World → Prop} (hgd : o.guard = none) (t : TypeId) (n : Nat) (parts : Array (Nat × Operand)) (ho : o.op = .buildSlice t n parts)
    (v : Value) (w' : World) (hr : (Instr.buildSlice t n (parts.map fun (i, x) => (i, a.eval x))).run P w = .ok v w') (h : wpList P ops Q rest (a.put o.dst v) w') : wpList P ops Q (o :: rest) a w := by
  refine wpList_plain hgd fun K hK => ?_
  unfold Oper.wp
  simp only [execOp, ho, Sem.run_bind, hr, Result.andThen]
  exact hK _ _ h
set_option maxRecDepth 10000 in
theorem rounds_any (w : World) : Calls Tryd.prog 16 #[] w fun e w' => e = .returned (.slice (some ⟨w.heap.size, 0, none⟩) 64 64) ∧ Block w' w.heap.size 24 (u32s kTab) ∧ Below w.heap.size w w' := by
  go_enter Tryd.func16, Tryd.ntmps16
  go_wp2_with (with_reducible refine wpList_buildSlice rfl 37 64 _ rfl (.slice (some ⟨w.heap.size, 0, none⟩) 64 64) (w.alloc (.cells (u32s kTab).toArray 24)) (by kernel_rfl) ?_)
  go_ret
  exact ⟨rfl, Block.new w _ _, (Below.refl _ _).alloc (Nat.le_refl _) _⟩
theorem first_any (w : World) : Calls Tryd.prog 17 #[] w fun e w' => e = .returned (.slice (some ⟨w.heap.size, 0, none⟩) 8 8) ∧ Block w' w.heap.size 24 (u32s h0) ∧ Below w.heap.size w w' := by
  go_enter Tryd.func17, Tryd.ntmps17
  go_wp2_with (with_reducible refine wpList_buildSlice rfl 37 8 _ rfl (.slice (some ⟨w.heap.size, 0, none⟩) 8 8) (w.alloc (.cells (u32s h0).toArray 24)) (by kernel_rfl) ?_)
  go_ret
  exact ⟨rfl, Block.new w _ _, (Below.refl _ _).alloc (Nat.le_refl _) _⟩
end Go.Proofs.YtlpbfkfamanaiaaDoor.sha
