/- Contracts of layNumber and takeNumber of layer 12 (field). No condition but at most six bytes. -/
import Derived.Test.YthpiffafakoheaaFieldSmall
import Derived.Test.YthpiffafakoheaaAppend
namespace Go.Proofs.Ythpiffafakoheaa.field
open Go.RowKit
set_option linter.unusedVariables false

theorem bits_or_i64_nat (a b : Nat) (ha : a < 9223372036854775808) (hb : b < 9223372036854775808) :
    bits .or .i64 (a : Int) (b : Int) = ((a ||| b : Nat) : Int) := by
  have hx : a ||| b < 2 ^ 63 := Nat.or_lt_two_pow (by omega) (by omega)
  have h1 : (BitVec.ofInt 64 (a : Int)).toNat = a := by
    rw [BitVec.ofInt_natCast, BitVec.toNat_ofNat]; exact Nat.mod_eq_of_lt (by omega)
  have h2 : (BitVec.ofInt 64 (b : Int)).toNat = b := by
    rw [BitVec.ofInt_natCast, BitVec.toNat_ofNat]; exact Nat.mod_eq_of_lt (by omega)
  show IntKind.i64.wrap ((BitVec.ofInt 64 (a : Int) ||| BitVec.ofInt 64 (b : Int)).toNat : Int) = _
  rw [BitVec.toNat_or, h1, h2, IntWalk.i64_in _ (by omega)]
theorem or_low (a b : Nat) (hb : b < 256) (ha : a < 36028797018963968) : bits .or .i64 ((a : Int) * 256) (b : Int) = ((256 * a + b : Nat) : Int) := by
  have e : (a : Int) * 256 = ((2 ^ 8 * a : Nat) : Int) := by omega
  rw [e, bits_or_i64_nat (2 ^ 8 * a) b (by omega) (by omega), ← Nat.two_pow_add_eq_or_of_lt (by omega)]
theorem num_take_succ (xs : List Nat) (k : Nat) (hk : k < xs.length) : num (xs.take (k + 1)) = 256 * num (xs.take k) + xs.getD k 0 := by
  rw [List.take_add_one, List.getElem?_eq_getElem hk]
  simp only [Option.toList, num_snoc]
  rw [List.getD_eq_getElem?_getD, List.getElem?_eq_getElem hk]; rfl
theorem takeNumber_any (a : Option Addr) (len cap : Nat) (xs : List Nat) (w : World) (hr : Reads .u8 w a len xs) (hx : ∀ x ∈ xs, x < 256) (hl : len ≤ 6) : Calls Try.prog 32 #[.slice a len cap] w (Quiet (.int .i64 (num xs : Int)) w) := by
  have hlen := hr.1
  have hall : num xs = num (xs.take len) := by rw [List.take_of_length_le (by omega)]
  rw [hall]
  clear hall
  go_enter Try.func32, Try.ntmps32
  go_wp2
  go_loopw [3, 8] (fun n i wr => ∃ (k : Nat), n = .int .i64 (num (xs.take k) : Int) ∧ i = .int .i64 (k : Int) ∧ k ≤ len ∧ w = wr) (fun n i wr => len - (intOf i).toNat)
  case atStart => exact ⟨0, by simp [num], rfl, Nat.zero_le _, rfl⟩
  case round =>
    obtain ⟨k, rfl, rfl, hk, rfl⟩ := hrel
    by_cases hlt : k < len
    · obtain ⟨b, off, rfl, hbb, hc⟩ := hr.at (i := k) hlt
      have hck := hc k hlt
      have hn1 := num_lt k (xs.take k) (by rw [List.length_take]; omega) (fun x hm => hx x (List.mem_of_mem_take hm))
      have hp : (256 : Nat) ^ k ≤ 256 ^ 5 := Nat.pow_le_pow_right (by omega) (by omega)
      have hs := num_take_succ xs k (by omega)
      have hxk : xs.getD k 0 < 256 := by
        rw [List.getD_eq_getElem?_getD, List.getElem?_eq_getElem (by omega)]
        exact hx _ (List.getElem_mem (by omega))
      generalize xs.getD k 0 = X at *
      generalize hN : num (xs.take k) = N at *
      have hN5 : N < 1099511627776 := by have : (256 : Nat) ^ 5 = 1099511627776 := by decide
                                         omega
      have ho := or_low N X hxk (by omega)
      rw [← hs] at ho
      clear hs hp hn1 hc
      have HO := hid ho
      clear ho
      go_wp2
      go_round
      · exact ⟨k + 1, by rw [HO.out], by simp, by omega, trivial⟩
      · simp [intOf]; omega
    · obtain rfl : k = len := by omega
      clear hlt
      go_wp2
      go_ret
      exact ⟨rfl, 0, rfl⟩

/-- the first i of the last bytes are laid -/
def part (size n i : Nat) : List Nat := (List.range size).map fun p => if size - i ≤ p then n / 256 ^ (size - 1 - p) % 256 else 0
theorem part_zero (size n : Nat) : part size n 0 = List.replicate size 0 := by
  apply List.ext_getElem?
  intro j
  unfold part
  by_cases hj : j < size
  · simp [hj]; intro h; omega
  · simp [hj]
theorem part_all (size n : Nat) : part size n size = digits size n := by
  unfold part digits
  apply List.map_congr_left
  intro p hp
  rw [if_pos (by omega)]
theorem part_set (size n i : Nat) (hi : i < size) : (part size n i).set (size - 1 - i) (n / 256 ^ i % 256) = part size n (i + 1) := by
  apply List.ext_getElem?
  intro j
  unfold part
  rw [List.getElem?_set]
  by_cases hj : j < size
  · by_cases h : size - 1 - i = j
    · subst h
      simp [hj]
      rw [if_pos (by omega), show size - 1 - (size - 1 - i) = i by omega]
    · rw [if_neg h, List.getElem?_map, List.getElem?_map, List.getElem?_range hj]
      simp only [Option.map_some]
      by_cases hq : size - i ≤ j
      · rw [if_pos hq, if_pos (by omega)]
      · rw [if_neg hq, if_neg (by omega)]
  · rw [if_neg (by omega)]; simp [hj]
def u8v (xs : List Nat) : List Value := xs.map fun x : Nat => Value.int .u8 (x : Int)
theorem u8v_length (xs : List Nat) : (u8v xs).length = xs.length := by simp [u8v]
theorem u8v_get (xs : List Nat) (i : Nat) (h : i < xs.length) : (u8v xs)[i]? = some (.int .u8 ((xs.getD i 0 : Nat) : Int)) := by
  simp only [u8v, List.getElem?_map, List.getD_eq_getElem?_getD, List.getElem?_eq_getElem h]; rfl
theorem u8v_set (xs : List Nat) (i x : Nat) : (u8v xs).set i (.int .u8 (x : Int)) = u8v (xs.set i x) := by simp [u8v, List.map_set]
theorem u8_info : (Try.prog.info? 5).map (fun i => (i.zero, i.size, i.bytes)) = some (some (.int .u8 0), 1, 1) := by kernel_rfl
theorem layNumber_any (n size : Nat) (hn : n < 281474976710656) (hs : size ≤ 6) (w : World) : Calls Try.prog 30 #[.int .i64 (n : Int), .int .i64 (size : Int)] w fun e w' => ∃ v, e = .returned v ∧ w'.ownsRow w.heap.size 5 1 v size (u8v (digits size n)) ∧ Below w.heap.size w w' := by
  obtain ⟨i0, hi, hz0, hz1, hz2⟩ := info_parts u8_info
  go_enter Try.func30, Try.ntmps30
  go_wp2_with (at_make; refine wpList_make_full _ rfl _ _ 33 rfl w.heap.size 5 i0 (.int .u8 0) 1 Try.underlying33 hi hz0 hz1 _ _ _ _ size rfl rfl rfl rfl (by rw [hz2]; omega) (by unfold maxLen; omega) (Nat.le_refl _) ?_)
  intro w1 hown hgrow
  go_wp2
  go_loopw [11] (fun i wr => ∃ k : Nat, k ≤ size ∧ i = .int .i64 k ∧ wr.ownsRow w.heap.size 5 1 (.slice (some ⟨w.heap.size, 0, none⟩) size size) size (u8v (part size n k)) ∧ Below w.heap.size w wr)
    (fun i _ => size - (intOf i).toNat)
  case atStart =>
    refine ⟨0, Nat.zero_le _, rfl, ?_, Below.grown (Below.refl _ _) hgrow (Nat.le_refl _) (fun k h => by cases h)⟩
    rw [part_zero, u8v, List.map_replicate]
    rw [toList_madeCells_one] at hown
    exact hown
  case round =>
    obtain ⟨k, hk, rfl, ho, hb⟩ := hrel
    by_cases hlt : k < size
    · have f2 := ho.frozenAt (size - 1 - k)
      have c2 : wr.cell? ⟨w.heap.size, size - 1 - k, none⟩ = some (.int .u8 0) := by
        rw [ho.cellAt _ (by omega)]
        unfold u8v part
        rw [List.getElem?_map, List.getElem?_map, List.getElem?_range (by omega)]
        simp
        omega
      have HO := hid ho
      clear ho
      obtain ⟨D, hD⟩ : ∃ D : Nat, Hid (size - 1 - k = D) := ⟨_, rfl⟩
      rw [hD.out] at f2 c2
      obtain ⟨x, hx⟩ : ∃ x : Nat, Hid (n / 256 ^ k % 256 = x) := ⟨_, rfl⟩
      have hx256 : x < 256 := by rw [← hx.out]; exact Nat.mod_lt _ (by omega)
      have hDs : size = D + 1 + k := by have := hD.out; omega
      subst hDs
      have e1 : ((D + 1 + k : Nat) : Int) - 1 - (k : Int) = (D : Int) := by omega
      go_wp2
      have e2 : (n : Int) / 2 ^ (8 * k) % 256 = ((n / 256 ^ k % 256 : Nat) : Int) := by
        have h : (256 : Nat) ^ k = 2 ^ (8 * k) := by rw [Nat.pow_mul]
        rw [h]
        simp
      rw [e2]
      have hst := HO.out.stored D (.int .u8 ((n / 256 ^ k % 256 : Nat) : Int))
      rw [u8v_set] at hst
      have hps := part_set (D + 1 + k) n k (by omega)
      rw [hD.out] at hps
      rw [hps] at hst
      exact ⟨⟨k + 1, by omega, by simp, hst.1, hb.grown hst.2 (by simp [hb.size]) (fun j h => by cases h; exact Nat.le_refl _)⟩, by simp [intOf]; omega⟩
    · obtain rfl : k = size := by omega
      go_wp2
      go_ret
      rw [part_all] at ho
      exact ⟨_, rfl, ho, hb⟩
end Go.Proofs.Ythpiffafakoheaa.field
