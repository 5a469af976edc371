/- Parts of a slice of bytes: where they lie and what they read as. No condition. -/
import Derived.Test.YthpiffafakoheaaOpen
namespace Go.Proofs.Ythpiffafakoheaa.cut
open Go.RowKit
set_option linter.unusedVariables false

/-- where a part of a slice from k on lies -/
def shift (a : Option Addr) (k cap : Nat) : Option Addr := if cap = k then a else a.map (·.add k)
theorem cut_from (W : World) (a : Option Addr) (len cap k : Nat) (h : k ≤ len) : (Instr.slice 33 (.slice a len cap) (some (.int .i64 (k : Int))) none none).run Try.prog W = .ok (.slice (shift a k cap) (len - k) (cap - k)) W := by
  rw [run_slice_l W 33 a len cap (by kernel_rfl) .i64 k (by omega) (by omega)]
  rw [show (sizeOf (Try.prog.elem 33)).run Try.prog W = .ok 1 W by kernel_rfl]
  simp [Result.andThen, sliced, shift]
theorem cut_to (W : World) (a : Option Addr) (len cap k : Nat) (h : k ≤ cap) : (Instr.slice 33 (.slice a len cap) none (some (.int .i64 (k : Int))) none).run Try.prog W = .ok (.slice (shift a 0 cap) k cap) W := by
  rw [run_slice_h W 33 a len cap (by kernel_rfl) .i64 k (by omega) (by omega)]
  rw [show (sizeOf (Try.prog.elem 33)).run Try.prog W = .ok 1 W by kernel_rfl]
  simp [Result.andThen, sliced, shift]
theorem cut_both (W : World) (a : Option Addr) (len cap j k : Nat) (hj : j ≤ k) (h : k ≤ cap) : (Instr.slice 33 (.slice a len cap) (some (.int .i64 (j : Int))) (some (.int .i64 (k : Int))) none).run Try.prog W = .ok (.slice (shift a j cap) (k - j) (cap - j)) W := by
  rw [run_slice_lh W 33 a len cap (by kernel_rfl) .i64 .i64 j k (by omega) (by omega) (by omega)]
  rw [show (sizeOf (Try.prog.elem 33)).run Try.prog W = .ok 1 W by kernel_rfl]
  simp [Result.andThen, sliced, shift]
theorem reads_shift {w : World} {a : Option Addr} {len cap k : Nat} {xs : List Nat} (h : Reads .u8 w a len xs) (hk : k ≤ len) (hc : len ≤ cap) : Reads .u8 w (shift a k cap) (len - k) (xs.drop k) := by
  refine ⟨by rw [List.length_drop, h.1], ?_⟩
  by_cases h0 : len - k = 0
  · exact .inl h0
  · obtain ⟨b, off, rfl, hb, hcell⟩ := h.at (i := 0) (by omega)
    refine .inr ⟨b, off + k, ?_, hb, fun i hi => ?_⟩
    · rw [shift, if_neg (by omega), Option.map_some, Addr.add_lit]
    · have := hcell (k + i) (by omega)
      rw [Nat.add_assoc, this, List.getD_eq_getElem?_getD, List.getD_eq_getElem?_getD, List.getElem?_drop]
theorem reads_take {w : World} {a : Option Addr} {len cap k : Nat} {xs : List Nat} (h : Reads .u8 w a len xs) (hk : k ≤ len) : Reads .u8 w (shift a 0 cap) k (xs.take k) := by
  refine ⟨by rw [List.length_take, h.1]; omega, ?_⟩
  by_cases h0 : k = 0
  · exact .inl h0
  · obtain ⟨b, off, rfl, hb, hcell⟩ := h.at (i := 0) (by omega)
    refine .inr ⟨b, off, ?_, hb, fun i hi => ?_⟩
    · unfold shift; split <;> rfl
    · have := hcell i (by omega)
      rw [this, List.getD_eq_getElem?_getD, List.getD_eq_getElem?_getD, List.getElem?_take, if_pos hi]
theorem reads_pre {k : IntKind} {w : World} {a : Option Addr} {len n : Nat} {xs : List Nat} (h : Reads k w a len xs) (hn : n ≤ len) : Reads k w a n (xs.take n) := by
  refine ⟨by rw [List.length_take, h.1]; omega, ?_⟩
  by_cases h0 : n = 0
  · exact .inl h0
  · obtain ⟨b, off, rfl, hb, hcell⟩ := h.at (i := 0) (by omega)
    refine .inr ⟨b, off, rfl, hb, fun i hi => ?_⟩
    have := hcell i (by omega)
    rw [this, List.getD_eq_getElem?_getD, List.getD_eq_getElem?_getD, List.getElem?_take, if_pos hi]
end Go.Proofs.Ythpiffafakoheaa.cut
