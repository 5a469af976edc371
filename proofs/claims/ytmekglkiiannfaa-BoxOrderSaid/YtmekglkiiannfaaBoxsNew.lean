/- Contracts of New, First and All for boxes of strings. No condition. -/
import Derived.Test.YtmekglkiiannfaaBoxsTake
import Derived.Maps.AppendAt
namespace Go.Proofs.Ytmekglkiiannfaa.boxs
open Go.Proofs.Ytmekglkiiannfaa.box
open Go.Conc Go.RowKit
set_option linter.unusedVariables false

theorem info_ptr : (Try.prog.info? 57).map (·.bytes) = some 8 := by kernel_rfl
theorem mk_any (n : Int) (w : World) : (Instr.makeChan 54 (.int .i64 (min (max n 0) 64))).run Try.prog w = .ok (.chan (some w.heap.size)) (w.alloc (.chan (roomOf n) #[] false 0 0 false)) := by
  obtain ⟨i, hi, hb⟩ := Option.map_eq_some_iff.1 info_ptr
  have h : min (max n 0) 64 = ((roomOf n : Nat) : Int) := by unfold roomOf; omega
  rw [h]
  exact run_makeChan (P := Try.prog) (w := w) Try.underlying54 hi .i64 (roomOf n) (by omega) (by rw [hb]; omega)
theorem new_any (n : Int) (w : World) : Calls Try.prog 17 #[.int .i64 n] w fun e w' => e = .returned (.pointer (some ⟨w.heap.size + 1, 0, none⟩)) ∧ BoxAt 56 9 (w.heap.size + 1) w.heap.size (roomOf n) (([] : List ByteArray).map Value.string) w' ∧ Below w.heap.size w w' := by
  have hmk := mk_any n w
  have HB : Hid (BoxAt 56 9 (w.heap.size + 1) w.heap.size (roomOf n) [] ((w.alloc (.chan (roomOf n) #[] false 0 0 false)).alloc (.cells #[.chan (some w.heap.size)] 56))) := by
    refine ⟨?_, [], 0, 0, ?_, rfl, fun i p v h _ => by simp at h⟩
    · have := Block.new (w.alloc (.chan (roomOf n) #[] false 0 0 false)) 56 [.chan (some w.heap.size)]
      rwa [show (w.alloc (.chan (roomOf n) #[] false 0 0 false)).heap.size = w.heap.size + 1 by simp] at this
    · exact (Below.heap_alloc _ _ _ (by simp)).trans (heap_alloc_new w _)
  have H0 : Hid (Below w.heap.size w ((w.alloc (.chan (roomOf n) #[] false 0 0 false)).alloc (.cells #[.chan (some w.heap.size)] 56))) := ((Below.refl _ w).alloc (Nat.le_refl _) _).alloc (by simp) _
  generalize roomOf n = N at *
  by_cases h1 : 0 ≤ n
  · by_cases h2 : n ≤ 64
    · rw [show min (max n 0) 64 = n by omega] at hmk
      go_enter Try.func17, Try.ntmps17
      go_wp2
      go_ret
      exact ⟨rfl, HB.out, H0.out⟩
    · rw [show min (max n 0) 64 = 64 by omega] at hmk
      go_enter Try.func17, Try.ntmps17
      go_wp2
      go_ret
      exact ⟨rfl, HB.out, H0.out⟩
  · rw [show min (max n 0) 64 = 0 by omega] at hmk
    go_enter Try.func17, Try.ntmps17
    go_wp2
    go_ret
    exact ⟨rfl, HB.out, H0.out⟩
end Go.Proofs.Ytmekglkiiannfaa.boxs
