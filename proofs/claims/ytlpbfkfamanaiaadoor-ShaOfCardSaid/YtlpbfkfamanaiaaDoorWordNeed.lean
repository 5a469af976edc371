/- Contracts of Need, shift and byteAt of layer 1 (word), for every argument. -/
import Derived.Test.YtlpbfkfamanaiaaDoorKit
namespace Go.Proofs.YtlpbfkfamanaiaaDoor.word
open Go.RowKit
set_option linter.unusedVariables false

/-- how many words n bytes need -/
def need (n : Int) : Int := if n < 1 then 0 else (n - 1) / 4 + 1
theorem need_nat (n : Nat) : need n = ((n + 3) / 4 : Nat) := by
  unfold need; split <;> omega

theorem need_any (n : Int) (h1 : -9223372036854775808 ≤ n) (h2 : n ≤ 9223372036854775807) (w : World) :
    Calls Tryd.prog 29 #[.int .i64 n] w (Quiet (.int .i64 (need n)) w) := by
  by_cases h : n < 1
  · go_enter Tryd.func29, Tryd.ntmps29
    go_wp2
    go_ret
    exact ⟨ret_int (by unfold need; rw [if_pos h]), 0, rfl⟩
  · have h3 : 0 ≤ n - 1 := by omega
    go_enter Tryd.func29, Tryd.ntmps29
    go_wp2
    go_ret
    exact ⟨ret_int (by unfold need; rw [if_neg (by omega)]), 0, rfl⟩
theorem shift_any (i : Nat) (h : i ≤ 9223372036854775807) (w : World) :
    Calls Tryd.prog 35 #[.int .i64 i] w (Quiet (.int .i64 (8 * (3 - i % 4) : Nat)) w) := by
  go_enter Tryd.func35, Tryd.ntmps35
  go_wp2
  go_ret
  exact ⟨ret_int (by omega), 0, rfl⟩

/-- byte i of a list of words -/
def byteOf (xs : List Nat) (i : Nat) : Nat := xs.getD (i / 4) 0 / 2 ^ (8 * (3 - i % 4)) % 256
theorem byteAt_any (a : Option Addr) (len cap : Nat) (xs : List Nat) (w : World) (hr : Reads .u32 w a len xs) (hx : ∀ x ∈ xs, x < 4294967296) (i : Nat) (hi : i / 4 < len) (hl : len ≤ 140737488355328) :
    Calls Tryd.prog 31 #[.slice a len cap, .int .i64 i] w (Quiet (.int .u8 (byteOf xs i)) w) := by
  obtain ⟨b, off, rfl, hb, hc⟩ := hr.at hi
  have hcell := hc (i / 4) hi
  have hlt : xs.getD (i / 4) 0 < 4294967296 := by
    rw [List.getD_eq_getElem?_getD, List.getElem?_eq_getElem (by rw [hr.1]; exact hi)]
    exact hx _ (List.getElem_mem _)
  have hI : (i : Int) / 4 < len := by omega
  have hJ : 0 ≤ (i : Int) / 4 := by omega
  clear hc hx
  go_enter Tryd.func31, Tryd.ntmps31
  go_wp2
  go_quiet ((go_at_call 35; exact quietAt (shift_any i (by omega) _)))
  go_wp2
  go_ret
  exact ⟨ret_int (by unfold byteOf; simp), nq, rfl⟩
end Go.Proofs.YtlpbfkfamanaiaaDoor.word
