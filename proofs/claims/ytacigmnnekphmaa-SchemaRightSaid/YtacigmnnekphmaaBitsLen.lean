/- Contract of bits.Len: how many bytes hold a number, in bits. No condition but a number below 2^48. -/
import Derived.Test.YtacigmnnekphmaaFieldMath
import Derived.Test.YtacigmnnekphmaaTail
import Derived.IntWalk
namespace Go.Proofs.Ytacigmnnekphmaa.field
open Go.RowKit
set_option linter.unusedVariables false

theorem dec_no {p : Prop} [Decidable p] (h : ¬ p) : decide p = false := decide_eq_false h
theorem wrap_u8 {x : Int} {n : Nat} (h : x = (n : Int)) (hn : n < 256) : IntKind.u8.wrap x = (n : Int) := by subst h; simp [IntKind.wrap, IntKind.bits, IntKind.signed]; omega
theorem len_sum {q : Nat} (a : Int) (h0 : 0 ≤ a) (ha : a ≤ 40) (hq : q ≤ 8) : wrap64 (a + wrap64 (q : Int)) = a + (q : Int) := by
  rw [IntWalk.wrap64_in (q : Int) (by omega), IntWalk.wrap64_in _ (by omega)]
theorem len_one {q : Nat} (hq : q ≤ 8) : wrap64 (wrap64 (q : Int)) = (q : Int) := by
  rw [IntWalk.wrap64_in (q : Int) (by omega), IntWalk.wrap64_in _ (by omega)]
set_option maxRecDepth 1000000 in
set_option maxHeartbeats 4000000 in
theorem len64_any (x : Nat) (hx : x < 281474976710656) (w : World) :
    Calls Try.prog 69 #[.int .u64 (x : Int)] w fun e w' => ∃ L : Nat, e = .returned (.int .i64 (L : Int)) ∧ L ≤ 64 ∧ (L + 7) / 8 = wide x ∧ ∃ n, w' = w.drewN n := by
  go_enter Try.func69, Try.ntmps69
  generalize hT : ByteArray.mk _ = T
  have hs : T.size = 256 := by rw [← hT]; decide +kernel
  have ht0 : ∀ i : Fin 256, (T.data.getD i.val 0).toNat ≤ 8 ∧ ((T.data.getD i.val 0).toNat = 0 ↔ i.val = 0) := by rw [← hT]; decide +kernel
  have ht : ∀ (i : Nat) (h : i < T.size), i < 256 → (T[i]'h).toNat ≤ 8 ∧ ((T[i]'h).toNat = 0 ↔ i = 0) := fun i h hi => by
    have := ht0 ⟨i, hi⟩
    have h' : i < T.data.size := h
    simp only [Array.getD, h', dif_pos] at this
    exact this
  have HT := hid ht
  have HS := hid hs
  have hT1 : ∀ i : Nat, i < 256 → (i : Int) < T.size := fun i hi => by rw [hs]; omega
  have HT1 := hid hT1
  have HX := hid hx
  clear hT hs ht ht0 hT1 hx
  by_cases c0 : x < 256
  · have hw : wide x = if x = 0 then 0 else 1 := by unfold wide; rw [if_pos c0]
    have HW := hid hw
    obtain ⟨y, hy⟩ : ∃ y, Hid (x / 1 = y) := ⟨_, rfl⟩
    have hy256 : y < 256 := by have := hy.out; have := HX.out; omega
    have j0 : (0 : Int) ≤ (y : Int) := by omega
    have j1 := HT1.out y hy256
    have t4294967296 : ¬ (x : Int) ≥ 4294967296 := by have := HX.out; omega
    have u4294967296 := dec_no t4294967296
    have t65536 : ¬ (x : Int) ≥ 65536 := by have := HX.out; omega
    have u65536 := dec_no t65536
    have t256 : ¬ (x : Int) ≥ 256 := by have := HX.out; omega
    have u256 := dec_no t256
    have hwr : IntKind.u8.wrap ((x : Int)) = (y : Int) := wrap_u8 (by have := hy.out; omega) hy256
    clear hw
    clear c0
    go_wp2
    go_ret
    have b := HT.out y (by have := HS.out; omega) hy256
    refine ⟨0 + (T[y]'(by have := HS.out; omega)).toNat, ret_int ((len_one b.1).trans (by omega)), by omega, ?_, 0, rfl⟩
    rw [HW.out]
    have := hy.out
    split <;> omega
  by_cases c1 : x < 65536
  · have hw : wide x = 2 := by have := HX.out; unfold wide; rw [if_neg (by omega)]; rw [if_neg (by omega)]; rw [if_pos (by omega)]
    have HW := hid hw
    obtain ⟨y, hy⟩ : ∃ y, Hid (x / 256 = y) := ⟨_, rfl⟩
    have hy256 : y < 256 := by have := hy.out; have := HX.out; omega
    have j0 : (0 : Int) ≤ (y : Int) := by omega
    have j1 := HT1.out y hy256
    have t4294967296 : ¬ (x : Int) ≥ 4294967296 := by have := HX.out; omega
    have u4294967296 := dec_no t4294967296
    have t65536 : ¬ (x : Int) ≥ 65536 := by have := HX.out; omega
    have u65536 := dec_no t65536
    have t256 : (x : Int) ≥ 256 := by have := HX.out; omega
    have hwr : IntKind.u8.wrap ((x : Int) / 256) = (y : Int) := wrap_u8 (by have := hy.out; omega) hy256
    clear hw
    clear c0 c1
    go_wp2
    go_ret
    have b := HT.out y (by have := HS.out; omega) hy256
    refine ⟨8 + (T[y]'(by have := HS.out; omega)).toNat, ret_int ((len_sum 8 (by omega) (by omega) b.1).trans (by omega)), by omega, ?_, 0, rfl⟩
    rw [HW.out]
    have := hy.out
    omega
  by_cases c2 : x < 16777216
  · have hw : wide x = 3 := by have := HX.out; unfold wide; rw [if_neg (by omega)]; rw [if_neg (by omega)]; rw [if_neg (by omega)]; rw [if_pos (by omega)]
    have HW := hid hw
    obtain ⟨y, hy⟩ : ∃ y, Hid (x / 65536 = y) := ⟨_, rfl⟩
    have hy256 : y < 256 := by have := hy.out; have := HX.out; omega
    have j0 : (0 : Int) ≤ (y : Int) := by omega
    have j1 := HT1.out y hy256
    have t4294967296 : ¬ (x : Int) ≥ 4294967296 := by have := HX.out; omega
    have u4294967296 := dec_no t4294967296
    have t65536 : (x : Int) ≥ 65536 := by have := HX.out; omega
    have t256 : ¬ (x : Int) / 65536 ≥ 256 := by have := HX.out; omega
    have u256 := dec_no t256
    have hwr : IntKind.u8.wrap ((x : Int) / 65536) = (y : Int) := wrap_u8 (by have := hy.out; omega) hy256
    clear hw
    clear c0 c1 c2
    go_wp2
    go_ret
    have b := HT.out y (by have := HS.out; omega) hy256
    refine ⟨16 + (T[y]'(by have := HS.out; omega)).toNat, ret_int ((len_sum 16 (by omega) (by omega) b.1).trans (by omega)), by omega, ?_, 0, rfl⟩
    rw [HW.out]
    have := hy.out
    omega
  by_cases c3 : x < 4294967296
  · have hw : wide x = 4 := by have := HX.out; unfold wide; rw [if_neg (by omega)]; rw [if_neg (by omega)]; rw [if_neg (by omega)]; rw [if_neg (by omega)]; rw [if_pos (by omega)]
    have HW := hid hw
    obtain ⟨y, hy⟩ : ∃ y, Hid (x / 16777216 = y) := ⟨_, rfl⟩
    have hy256 : y < 256 := by have := hy.out; have := HX.out; omega
    have j0 : (0 : Int) ≤ (y : Int) := by omega
    have j1 := HT1.out y hy256
    have t4294967296 : ¬ (x : Int) ≥ 4294967296 := by have := HX.out; omega
    have u4294967296 := dec_no t4294967296
    have t65536 : (x : Int) ≥ 65536 := by have := HX.out; omega
    have t256 : (x : Int) / 65536 ≥ 256 := by have := HX.out; omega
    have hwr : IntKind.u8.wrap ((x : Int) / 65536 / 256) = (y : Int) := wrap_u8 (by have := hy.out; omega) hy256
    clear hw
    clear c0 c1 c2 c3
    go_wp2
    go_ret
    have b := HT.out y (by have := HS.out; omega) hy256
    refine ⟨24 + (T[y]'(by have := HS.out; omega)).toNat, ret_int ((len_sum 24 (by omega) (by omega) b.1).trans (by omega)), by omega, ?_, 0, rfl⟩
    rw [HW.out]
    have := hy.out
    omega
  by_cases c4 : x < 1099511627776
  · have hw : wide x = 5 := by have := HX.out; unfold wide; rw [if_neg (by omega)]; rw [if_neg (by omega)]; rw [if_neg (by omega)]; rw [if_neg (by omega)]; rw [if_neg (by omega)]; rw [if_pos (by omega)]
    have HW := hid hw
    obtain ⟨y, hy⟩ : ∃ y, Hid (x / 4294967296 = y) := ⟨_, rfl⟩
    have hy256 : y < 256 := by have := hy.out; have := HX.out; omega
    have j0 : (0 : Int) ≤ (y : Int) := by omega
    have j1 := HT1.out y hy256
    have t4294967296 : (x : Int) ≥ 4294967296 := by have := HX.out; omega
    have t65536 : ¬ (x : Int) / 4294967296 ≥ 65536 := by have := HX.out; omega
    have u65536 := dec_no t65536
    have t256 : ¬ (x : Int) / 4294967296 ≥ 256 := by have := HX.out; omega
    have u256 := dec_no t256
    have hwr : IntKind.u8.wrap ((x : Int) / 4294967296) = (y : Int) := wrap_u8 (by have := hy.out; omega) hy256
    clear hw
    clear c0 c1 c2 c3 c4
    go_wp2
    go_ret
    have b := HT.out y (by have := HS.out; omega) hy256
    refine ⟨32 + (T[y]'(by have := HS.out; omega)).toNat, ret_int ((len_sum 32 (by omega) (by omega) b.1).trans (by omega)), by omega, ?_, 0, rfl⟩
    rw [HW.out]
    have := hy.out
    omega
  have hw : wide x = 6 := by have := HX.out; unfold wide; rw [if_neg (by omega)]; rw [if_neg (by omega)]; rw [if_neg (by omega)]; rw [if_neg (by omega)]; rw [if_neg (by omega)]; rw [if_neg (by omega)]
  have HW := hid hw
  obtain ⟨y, hy⟩ : ∃ y, Hid (x / 1099511627776 = y) := ⟨_, rfl⟩
  have hy256 : y < 256 := by have := hy.out; have := HX.out; omega
  have j0 : (0 : Int) ≤ (y : Int) := by omega
  have j1 := HT1.out y hy256
  have t4294967296 : (x : Int) ≥ 4294967296 := by have := HX.out; omega
  have t65536 : ¬ (x : Int) / 4294967296 ≥ 65536 := by have := HX.out; omega
  have u65536 := dec_no t65536
  have t256 : (x : Int) / 4294967296 ≥ 256 := by have := HX.out; omega
  have hwr : IntKind.u8.wrap ((x : Int) / 4294967296 / 256) = (y : Int) := wrap_u8 (by have := hy.out; omega) hy256
  clear hw
  clear c0 c1 c2 c3 c4
  go_wp2
  go_ret
  have b := HT.out y (by have := HS.out; omega) hy256
  refine ⟨40 + (T[y]'(by have := HS.out; omega)).toNat, ret_int ((len_sum 40 (by omega) (by omega) b.1).trans (by omega)), by omega, ?_, 0, rfl⟩
  rw [HW.out]
  have := hy.out
  omega
theorem len_any (x : Nat) (hx : x < 281474976710656) (w : World) :
    Calls Try.prog 52 #[.int .u64 (x : Int)] w fun e w' => ∃ L : Nat, e = .returned (.int .i64 (L : Int)) ∧ L ≤ 64 ∧ (L + 7) / 8 = wide x ∧ ∃ n, w' = w.drewN n := by
  have cl := len64_any x hx
  have HX := hid hx
  clear hx
  go_enter Try.func52, Try.ntmps52
  go_wp2_with (go_at_call 69; (with_reducible refine (cl _).mono ?_); rintro e w' ⟨L, rfl, h1, h2, m, rfl⟩)
  go_ret
  exact ⟨L, rfl, h1, h2, m, rfl⟩
end Go.Proofs.Ytacigmnnekphmaa.field
