/- Contract of the reference's Pack of layer 1, for every slice of bytes of at most 2^47 - 4096 bytes. -/
import Derived.Test.YtlpbfkfamanaiaaDoorWordPack
import Derived.Test.YtlpbfkfamanaiaaDoorOpen
namespace Go.Proofs.YtlpbfkfamanaiaaDoor.word
open Go.RowKit
set_option linter.unusedVariables false

/-- what is in hand after k of the four bytes from place i on -/
def accOf (xs : List Nat) (i : Nat) : Nat → Nat
  | 0 => 0
  | k + 1 => accOf xs i k * 256 + xs.getD (i + k) 0
theorem accOf_lt (xs : List Nat) (hx : ∀ x ∈ xs, x < 256) (i k : Nat) : accOf xs i k < 256 ^ k := by
  induction k with
  | zero => simp [accOf]
  | succ k ih =>
    have := getD_lt xs hx (i + k)
    rw [accOf, Nat.pow_succ]
    omega
theorem accOf_four (xs : List Nat) (j : Nat) : accOf xs (4 * j) 4 = wordOf xs j := by
  simp only [accOf, wordOf, Nat.add_zero]; omega
theorem packed_snoc (xs : List Nat) (j : Nat) : packed xs (j + 1) = packed xs j ++ [wordOf xs j] := by
  unfold packed; rw [List.range_succ, List.map_append]; rfl

set_option maxHeartbeats 1600000 in
theorem refPack_n (a : Option Addr) (len cap N : Nat) (xs : List Nat) (w : World) (hr : Reads .u8 w a len xs) (hx : ∀ x ∈ xs, x < 256) (hl : len ≤ 140737488351232) (hN1 : (len : Int) ≤ 4 * N) (hN2 : 4 * (N : Int) ≤ len + 3) :
    Calls Tryd.prog 23 #[.slice a len cap] w fun e w' => ∃ v, e = .returned v ∧ w'.ownsRow w.heap.size 24 1 v N ((packed xs N).map fun x : Nat => Value.int .u32 (x : Int)) ∧ Below w.heap.size w w' := by
  obtain ⟨i0, hi, hz0, hz1, hz2⟩ := info_parts Trydinfo34
  have hxl := hr.1
  have HX := hid hx
  clear hx
  go_enter Tryd.func23, Tryd.ntmps23
  go_wp2
  go_loopw [3, 4] (fun v i wr => ∃ j : Nat, j ≤ N ∧ i = .int .i64 (4 * (j : Int)) ∧ wr.ownsRow w.heap.size 24 1 v j ((packed xs j).map fun x : Nat => Value.int .u32 (x : Int)) ∧ Below w.heap.size w wr)
    (fun _ i _ => 4 * N - (intOf i).toNat)
  case atStart => exact ⟨0, Nat.zero_le _, rfl, World.ownsRow_nil _ _ _ _, Below.refl _ _⟩
  case round =>
    obtain ⟨j, hj, rfl, ho, hb⟩ := hrel
    by_cases hlt : j < N
    · have ht : 4 * (j : Int) < len := by omega
      have HO := hid ho
      clear ho
      go_wp2
      go_loop [5, 6] (fun x k => ∃ q : Nat, q ≤ 4 ∧ k = .int .i64 q ∧ x = .int .u32 (accOf xs (4 * j) q)) (fun _ k => 4 - (intOf k).toNat)
      case atStart => exact ⟨0, by decide, rfl, rfl⟩
      case round =>
        obtain ⟨q, hq, rfl, rfl⟩ := hrel
        have hal := accOf_lt xs HX.out (4 * j) q
        by_cases hq4 : q < 4
        · have hq5 : q = 0 ∨ q = 1 ∨ q = 2 ∨ q = 3 := by omega
          have hal2 : accOf xs (4 * j) q < 16777216 := Nat.lt_of_lt_of_le hal (by rcases hq5 with rfl | rfl | rfl | rfl <;> decide)
          have hx1 := getD_lt xs HX.out (4 * j + q)
          have HS : Hid (accOf xs (4 * j) (q + 1) = accOf xs (4 * j) q * 256 + xs.getD (4 * j + q) 0) := rfl
          clear hal
          generalize accOf xs (4 * j) q = x2 at *
          by_cases hin : 4 * j + q < len
          · obtain ⟨b, off, rfl, hbs, hc⟩ := hr.at hin
            have c1 : wr.cell? ⟨b, off + (4 * j + q), none⟩ = some (.int .u8 ((xs.getD (4 * j + q) 0 : Nat) : Int)) := (hb.cell (p := ⟨b, off + (4 * j + q), none⟩) hbs).trans (hc _ hin)
            have i1 : 4 * (j : Int) + q < len := by omega
            have i2 : 0 ≤ 4 * (j : Int) + q := by omega
            have i3 : (4 * (j : Int) + q).toNat = 4 * j + q := by omega
            clear hc
            generalize xs.getD (4 * j + q) 0 = x1 at *
            go_wp2
            exact ⟨⟨q + 1, by omega, by go_num, congrArg (Value.int .u32) (by rw [HS.out]; omega)⟩, by simp [intOf]; omega⟩
          · have i1 : (len : Int) ≤ 4 * (j : Int) + q := by omega
            have hx0 : xs.getD (4 * j + q) 0 = 0 := by rw [List.getD_eq_getElem?_getD, List.getElem?_eq_none (by omega)]; rfl
            rw [hx0] at HS
            clear hx0 hx1
            go_wp2
            exact ⟨⟨q + 1, by omega, by go_num, congrArg (Value.int .u32) (by rw [HS.out]; omega)⟩, by simp [intOf]; omega⟩
        · obtain rfl : q = 4 := by omega
          rw [accOf_four] at *
          go_wp2_with (at_builtin; refine wpList_append_own _ rfl _ _ 37 rfl w.heap.size 24 i0 (.int .u32 0) 1 4 Tryd.underlying37 hi hz0 hz1 hz2 rfl (by decide) _ _ _ rfl (HO.out.alloc _) ⟨wr.heap.size, 0, none⟩ 1 1 [.int .u32 ((wordOf xs j : Nat) : Int)] rfl rfl (one_new _ _ _) (one_cell rfl) (by unfold maxLen; omega) (by omega) (by have := hb.size; simp; omega) ?_)
          intro v' w1 ho1 hg1 _
          go_wp2
          refine ⟨⟨j + 1, by omega, by go_num, ?_, (hb.alloc hb.size _).grown hg1 (by have := hb.size; simp; omega) (fun k hk => (HO.out.lt k hk).1)⟩, by simp [intOf]; omega⟩
          rw [packed_snoc, List.map_append]
          exact ho1
    · obtain rfl : j = N := by omega
      have hge : (len : Int) ≤ 4 * j := by omega
      go_wp2
      go_ret
      exact ⟨_, rfl, ho, hb⟩
end Go.Proofs.YtlpbfkfamanaiaaDoor.word
