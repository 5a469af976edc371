/- Contracts of New, First and All for boxes of ints. No condition. -/
import Derived.Test.YtmekglkiiannfaaBoxTake
import Derived.Maps.AppendAt
namespace Go.Proofs.Ytmekglkiiannfaa.box
open Go.Conc Go.RowKit
set_option linter.unusedVariables false

theorem info_ptr : (Try.prog.info? 52).map (·.bytes) = some 8 := by kernel_rfl
theorem mk_any (n : Int) (w : World) : (Instr.makeChan 49 (.int .i64 (min (max n 0) 64))).run Try.prog w = .ok (.chan (some w.heap.size)) (w.alloc (.chan (roomOf n) #[] false 0 0 false)) := by
  obtain ⟨i, hi, hb⟩ := Option.map_eq_some_iff.1 info_ptr
  have h : min (max n 0) 64 = ((roomOf n : Nat) : Int) := by unfold roomOf; omega
  rw [h]
  exact run_makeChan (P := Try.prog) (w := w) Try.underlying49 hi .i64 (roomOf n) (by omega) (by rw [hb]; omega)
theorem new_any (n : Int) (w : World) : Calls Try.prog 7 #[.int .i64 n] w fun e w' => e = .returned (.pointer (some ⟨w.heap.size + 1, 0, none⟩)) ∧ BoxAt 51 3 (w.heap.size + 1) w.heap.size (roomOf n) (([] : List Int).map (Value.int .i64)) w' ∧ Below w.heap.size w w' := by
  have hmk := mk_any n w
  have HB : Hid (BoxAt 51 3 (w.heap.size + 1) w.heap.size (roomOf n) [] ((w.alloc (.chan (roomOf n) #[] false 0 0 false)).alloc (.cells #[.chan (some w.heap.size)] 51))) := by
    refine ⟨?_, [], 0, 0, ?_, rfl, fun i p v h _ => by simp at h⟩
    · have := Block.new (w.alloc (.chan (roomOf n) #[] false 0 0 false)) 51 [.chan (some w.heap.size)]
      rwa [show (w.alloc (.chan (roomOf n) #[] false 0 0 false)).heap.size = w.heap.size + 1 by simp] at this
    · exact (Below.heap_alloc _ _ _ (by simp)).trans (heap_alloc_new w _)
  have H0 : Hid (Below w.heap.size w ((w.alloc (.chan (roomOf n) #[] false 0 0 false)).alloc (.cells #[.chan (some w.heap.size)] 51))) := ((Below.refl _ w).alloc (Nat.le_refl _) _).alloc (by simp) _
  generalize roomOf n = N at *
  by_cases h1 : 0 ≤ n
  · by_cases h2 : n ≤ 64
    · rw [show min (max n 0) 64 = n by omega] at hmk
      go_enter Try.func7, Try.ntmps7
      go_wp2
      go_ret
      exact ⟨rfl, HB.out, H0.out⟩
    · rw [show min (max n 0) 64 = 64 by omega] at hmk
      go_enter Try.func7, Try.ntmps7
      go_wp2
      go_ret
      exact ⟨rfl, HB.out, H0.out⟩
  · rw [show min (max n 0) 64 = 0 by omega] at hmk
    go_enter Try.func7, Try.ntmps7
    go_wp2
    go_ret
    exact ⟨rfl, HB.out, H0.out⟩
end Go.Proofs.Ytmekglkiiannfaa.box
