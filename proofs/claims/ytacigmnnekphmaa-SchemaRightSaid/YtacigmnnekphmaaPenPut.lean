/- Contracts of the pen's calls that write: varint, Count, Num. No condition but that the row stays shorter than 2^47 bytes. -/
import Derived.Test.YtacigmnnekphmaaPenHold
import Derived.Test.YtacigmnnekphmaaStr
import Derived.Lib.ConvBytes
import Derived.Lib.Zigzag
namespace Go.Proofs.Ytacigmnnekphmaa.pen
open Go.RowKit Go.Proofs.Ytacigmnnekphmaa.texts
set_option linter.unusedVariables false

theorem Wrote.more {lo b : Nat} {v v1 : Value} {xs ys zs : List Nat} {bad : Int} {w w1 w' : World} {e : Ending} (ht : Turns w b v w1 v1) (h : Wrote lo b v1 (xs ++ ys) zs bad w1 e w') : Wrote lo b v xs (ys ++ zs) bad w e w' := by
  obtain ⟨he, v', hp, h2⟩ := h
  exact ⟨he, v', by rw [← List.append_assoc]; exact hp, ht.trans h2⟩
/-- put of a row that was just built -/
theorem put_new (lo b : Nat) (v : Value) (xs : List Nat) (bad : Int) (w : World) (h : PenAt lo b v xs bad w) (hlo : lo ≤ w.heap.size) (ys : List Nat) (hn : xs.length + ys.length ≤ 140737488355328) (vals : Array Value) (hv : vals = (u8v ys).toArray) (m : Nat) (hm : m = ys.length) :
    Calls Try.prog 71 #[.pointer (some ⟨b, 0, none⟩), .slice (some ⟨w.heap.size, 0, none⟩) m m] (w.alloc (.cells vals 5)) (Wrote lo b v xs ys bad w) := by
  subst hv hm
  have hb : Below w.heap.size w (w.alloc (.cells (u8v ys).toArray 5)) := (Below.refl _ _).alloc (Nat.le_refl _) _
  refine (put_any lo b v xs bad _ (h.later hb) (Nat.le_trans hlo hb.size) _ _ _ ys (Reads.new w _ ys) hn).mono ?_
  rintro e w' ⟨he, v', hp, ht⟩
  exact ⟨he, v', hp, (turns_later hb).trans ht⟩

set_option maxRecDepth 8000 in
set_option maxHeartbeats 800000 in
theorem varint_any (lo b : Nat) (v : Value) (xs : List Nat) (bad : Int) (w : World) (h : PenAt lo b v xs bad w) (hlo : lo ≤ w.heap.size) (x : Nat) (hx : x < 18446744073709551616) (hn : xs.length + 10 ≤ 140737488355328) :
    Calls Try.prog 56 #[.pointer (some ⟨b, 0, none⟩), .int .u64 (x : Int)] w (Wrote lo b v xs (vb x) bad w) := by
  have hlen := vb_ten x hx
  obtain ⟨X, hX⟩ : ∃ X, Hid (vb x = X) := ⟨_, rfl⟩
  rw [hX.out] at hlen ⊢
  have HX : Hid (([] : List Nat) ++ vb x = X) := hX.out
  have HP := hid h
  clear h
  go_enter Try.func56, Try.ntmps56
  go_wp2
  go_loopw [1] (fun i wr => ∃ (y : Nat) (ys : List Nat) (v' : Value), i = .int .u64 (y : Int) ∧ y < 18446744073709551616 ∧ PenAt lo b v' (xs ++ ys) bad wr ∧ Turns w b v wr v' ∧ Hid (ys ++ vb y = X))
    (fun i _ => (intOf i).toNat)
  case atStart => exact ⟨x, [], v, rfl, hx, by rw [List.append_nil]; exact HP.out, Turns.refl _ _ _, HX⟩
  case round =>
    obtain ⟨y, ys, v', rfl, hy, hp, ht, he⟩ := hrel
    have hlo' := Nat.le_trans hlo ht.size
    have HT := hid ht
    have hl : ys.length + (vb y).length = X.length := by rw [← he.out, List.length_append]
    have hpos := vb_pos y
    by_cases h128 : y < 128
    · have hi : ((y : Int) < 128) := by omega
      have hE : Hid (ys ++ [y] = X) := by show _ = _; rw [← he.out, vb_small h128]
      have c1 := put_new lo b v' (xs ++ ys) bad wr hp hlo' [y] (by simp; omega) #[.int .u8 (y : Int)] rfl 1 rfl
      clear hp ht hl hpos
      go_wp2_with (go_at_call 71; (with_reducible refine c1.mono ?_); rintro e w2 ⟨rfl, v2, hp2, ht2⟩)
      exact ret0 rfl rfl ⟨rfl, v2, by rw [← hE.out, ← List.append_assoc]; exact hp2, HT.out.trans ht2⟩
    · have hi : ¬ ((y : Int) < 128) := by omega
      have hE : Hid ((ys ++ [128 + y % 128]) ++ vb (y / 128) = X) := by show _ = _; rw [← he.out, vb_big h128]; simp
      have c1 : ∀ z : Int, z = ((128 + y % 128 : Nat) : Int) → Calls Try.prog 71 #[.pointer (some ⟨b, 0, none⟩), .slice (some ⟨wr.heap.size, 0, none⟩) 1 1] (wr.alloc (.cells #[.int .u8 z] 5)) (Wrote lo b v' (xs ++ ys) [128 + y % 128] bad wr) := by
        rintro z rfl
        exact put_new lo b v' (xs ++ ys) bad wr hp hlo' [128 + y % 128] (by simp; omega) _ rfl 1 rfl
      clear hp ht hl hpos he
      go_wp2_with (go_at_call 71; (with_reducible refine (c1 _ (by omega)).mono ?_); rintro e w2 ⟨rfl, v2, hp2, ht2⟩)
      exact ⟨⟨y / 128, ys ++ [128 + y % 128], v2, by go_num, by omega, by rw [← List.append_assoc]; exact hp2, HT.out.trans ht2, hE⟩, by simp [intOf]; omega⟩

theorem i64_not (n : Int) (h1 : -9223372036854775808 ≤ n) (h2 : n ≤ 9223372036854775807) : bits .xor .i64 (-1) n = -n - 1 := by
  show IntKind.i64.wrap ((BitVec.ofInt 64 (-1) ^^^ BitVec.ofInt 64 n).toNat : Int) = _
  have e1 : (BitVec.ofInt 64 (-1)).toNat = 2 ^ 64 - 1 := by decide
  rw [BitVec.toNat_xor, e1, Lib.xor_ones64 _ (BitVec.isLt _), BitVec.toNat_ofInt, IntKind.wrap_i64]
  omega
theorem i64_low (n : Int) (j : Nat) (hj : j ≤ 32) (m : Int) (hm : (BitVec.ofInt 64 m).toNat = 2 ^ j - 1) : bits .and .i64 n m = n % (2 ^ j : Nat) := by
  show IntKind.i64.wrap ((BitVec.ofInt 64 n &&& BitVec.ofInt 64 m).toNat : Int) = _
  have hp : 2 ^ j ∣ 2 ^ 64 := Nat.pow_dvd_pow 2 (by omega)
  have hl : 2 ^ j ≤ 2 ^ 32 := Nat.pow_le_pow_right (by decide) hj
  have h0 : 0 < 2 ^ j := Nat.two_pow_pos j
  rw [BitVec.toNat_and, hm, Nat.and_two_pow_sub_one_eq_mod, BitVec.toNat_ofInt, IntKind.wrap_i64]
  have e : ((n % ((2 ^ 64 : Nat) : Int)).toNat % 2 ^ j : Nat) = (n % ((2 ^ j : Nat) : Int)) := by
    rw [Int.natCast_emod, Int.toNat_of_nonneg (Int.emod_nonneg _ (by decide)), Int.emod_emod_of_dvd _ (by exact_mod_cast hp)]
  rw [e]
  have a1 := Int.emod_nonneg n (show ((2 ^ j : Nat) : Int) ≠ 0 by omega)
  have a2 := Int.emod_lt_of_pos n (show (0 : Int) < ((2 ^ j : Nat) : Int) by omega)
  generalize n % ((2 ^ j : Nat) : Int) = q at *
  omega
theorem i64_low8 (n : Int) : bits .and .i64 n 255 = n % 256 := i64_low n 8 (by decide) 255 (by decide)
theorem i64_low32 (n : Int) : bits .and .i64 n 4294967295 = n % 4294967296 := i64_low n 32 (by decide) 4294967295 (by decide)
theorem zigzag_any (n : Int) (h1 : -9223372036854775808 ≤ n) (h2 : n ≤ 9223372036854775807) (w : World) : Calls Try.prog 72 #[.int .i64 n] w (Quiet (.int .u64 (zig n : Int)) w) := by
  have hn := i64_not n h1 h2
  have hsg : IntKind.i64.signed = true := rfl
  by_cases h0 : n < 0
  · have hz : (zig n : Int) = 2 * (-n - 1) + 1 := by unfold zig; rw [if_pos h0]; omega
    rw [hz]
    go_enter Try.func72, Try.ntmps72
    go_wp2
    go_ret
    exact ⟨rfl, 0, rfl⟩
  · have hz : (zig n : Int) = 2 * n := by unfold zig; rw [if_neg h0]; omega
    rw [hz]
    go_enter Try.func72, Try.ntmps72
    go_wp2
    go_ret
    exact ⟨rfl, 0, rfl⟩

theorem count_any (lo b : Nat) (v : Value) (xs : List Nat) (bad : Int) (w : World) (h : PenAt lo b v xs bad w) (hlo : lo ≤ w.heap.size) (n : Nat) (hn63 : n ≤ 9223372036854775807) (hn : xs.length + 10 ≤ 140737488355328) :
    Calls Try.prog 38 #[.pointer (some ⟨b, 0, none⟩), .int .i64 (n : Int)] w (Wrote lo b v xs (vb n) bad w) := by
  have c1 := varint_any lo b v xs bad w h hlo n (by omega) hn
  obtain ⟨X, hX⟩ : ∃ X, Hid (vb n = X) := ⟨_, rfl⟩
  rw [hX.out] at c1 ⊢
  clear h
  go_enter Try.func38, Try.ntmps38
  go_wp2_with (go_at_call 56; (with_reducible refine c1.mono ?_); rintro e w2 ⟨rfl, v2, hp2, ht2⟩)
  exact ret0 rfl rfl ⟨rfl, v2, hp2, ht2⟩
theorem count_neg (lo b : Nat) (v : Value) (xs : List Nat) (bad : Int) (w : World) (h : PenAt lo b v xs bad w) (n : Int) (h1 : -9223372036854775808 ≤ n) (hn : n < 0) :
    Calls Try.prog 38 #[.pointer (some ⟨b, 0, none⟩), .int .i64 n] w fun e w' => e = .returned (.tuple #[]) ∧ PenAt lo b v xs 2 w' ∧ Turns w b v w' v := by
  have c1 := h.err
  have f1 := h.1.frozen 1
  have hf := hid (h.fail 2)
  clear h
  go_enter Try.func38, Try.ntmps38
  go_wp2
  exact ret0 rfl rfl ⟨rfl, hf.out.1, hf.out.2⟩
theorem num_any (lo b : Nat) (v : Value) (xs : List Nat) (bad : Int) (w : World) (h : PenAt lo b v xs bad w) (hlo : lo ≤ w.heap.size) (n : Int) (h1 : -9223372036854775808 ≤ n) (h2 : n ≤ 9223372036854775807) (hn : xs.length + 10 ≤ 140737488355328) :
    Calls Try.prog 57 #[.pointer (some ⟨b, 0, none⟩), .int .i64 n] w (Wrote lo b v xs (vb (zig n)) bad w) := by
  have c0 := zigzag_any n h1 h2 w
  have c1 : ∀ m, Calls Try.prog 56 #[.pointer (some ⟨b, 0, none⟩), .int .u64 (zig n : Int)] (w.drewN m) (Wrote lo b v xs (vb (zig n)) bad w) := fun m =>
    (varint_any lo b v xs bad (w.drewN m) h hlo (zig n) (zig_lt n h1 h2) hn).mono fun e w' ⟨he, v', hp, ht⟩ => ⟨he, v', hp, (turns_later (below_drewN (Below.refl _ _) m)).trans ht⟩
  obtain ⟨X, hX⟩ : ∃ X, Hid (vb (zig n) = X) := ⟨_, rfl⟩
  rw [hX.out] at c1 ⊢
  clear h
  obtain ⟨Z, hZ⟩ : ∃ Z, Hid (zig n = Z) := ⟨_, rfl⟩
  rw [hZ.out] at c0 c1
  go_enter Try.func57, Try.ntmps57
  go_wp2_with (first
    | (go_at_call 72; (with_reducible refine c0.mono ?_); clear c0; rintro e w1 ⟨rfl, m, rfl⟩)
    | (go_at_call 56; (with_reducible refine (c1 _).mono ?_); rintro e w2 ⟨rfl, v2, hp2, ht2⟩))
  exact ret0 rfl rfl ⟨rfl, v2, hp2, ht2⟩
end Go.Proofs.Ytacigmnnekphmaa.pen
