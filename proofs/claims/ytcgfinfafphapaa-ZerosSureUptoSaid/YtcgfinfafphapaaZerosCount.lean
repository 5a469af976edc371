/- Contracts of count, Sum and Right of layer 2 (zeros), for every slice of words of at most 2^45 words. -/
import Derived.Test.YtcgfinfafphapaaWordOnes
import Derived.Test.YtcgfinfafphapaaOpen
namespace Go.Proofs.Ytcgfinfafphapaa.zeros
open Go.RowKit Go.Proofs.Ytcgfinfafphapaa.word
set_option linter.unusedVariables false

/-- how many bits of the words are 0 -/
def zcount : List Nat → Nat
  | [] => 0
  | x :: r => (32 - ones x) + zcount r
theorem zcount_append (a b : List Nat) : zcount (a ++ b) = zcount a + zcount b := by
  induction a with
  | nil => simp [zcount]
  | cons x a ih => simp only [List.cons_append, zcount, ih]; omega
theorem zcount_le (a : List Nat) : zcount a ≤ 32 * a.length := by
  induction a with
  | nil => simp [zcount]
  | cons x a ih => simp only [zcount, List.length_cons]; omega
theorem take_snoc (xs : List Nat) (k : Nat) (h : k < xs.length) : xs.take (k + 1) = xs.take k ++ [xs.getD k 0] := by
  rw [List.take_succ_eq_append_getElem h, List.getD_eq_getElem?_getD, List.getElem?_eq_getElem h]; rfl
theorem zcount_snoc (xs : List Nat) (k : Nat) (h : k < xs.length) : zcount (xs.take (k + 1)) = zcount (xs.take k) + (32 - ones (xs.getD k 0)) := by
  rw [take_snoc xs k h, zcount_append]; simp [zcount]
theorem onesN_compl (k x : Nat) (h : x < 2 ^ k) : onesN k (2 ^ k - 1 - x) = k - onesN k x := by
  induction k generalizing x with
  | zero => simp [onesN]
  | succ k ih =>
    have hk : x / 2 < 2 ^ k := by rw [Nat.pow_succ] at h; omega
    have h1 := ih (x / 2) hk
    have h2 := onesN_le k (x / 2)
    have e1 : (2 ^ (k + 1) - 1 - x) % 2 = 1 - x % 2 := by rw [Nat.pow_succ] at h ⊢; omega
    have e2 : (2 ^ (k + 1) - 1 - x) / 2 = 2 ^ k - 1 - x / 2 := by rw [Nat.pow_succ] at h ⊢; omega
    simp only [onesN, e1, e2, h1]
    omega
theorem ones_compl (x : Nat) (h : x < 4294967296) : ones (4294967295 - x) = 32 - ones x := onesN_compl 32 x h
theorem u32_not_nat (x : Nat) (h : x < 4294967296) : bits .xor .u32 IntKind.u32.max (x : Int) = ((4294967295 - x : Nat) : Int) := by
  have h1 := u32_xor_nat 4294967295 x (by decide) h
  have h2 : 4294967295 ^^^ x = 4294967295 - x := by
    apply Nat.eq_of_testBit_eq
    intro i
    rw [Nat.testBit_xor, show 4294967295 = 2 ^ 32 - 1 from rfl, Nat.testBit_two_pow_sub_one, show 2 ^ 32 - 1 - x = 2 ^ 32 - (x + 1) from by omega, Nat.testBit_two_pow_sub_succ (n := 32) h]
    by_cases hi : i < 32
    · simp [hi]
    · have : x < 2 ^ i := Nat.lt_of_lt_of_le h (Nat.pow_le_pow_right (n := 2) (by decide) (by omega : 32 ≤ i))
      simp [hi, Nat.testBit_lt_two_pow this]
  rw [h2] at h1
  exact h1

theorem getD32_lt (xs : List Nat) (hx : ∀ x ∈ xs, x < 4294967296) (i : Nat) : xs.getD i 0 < 4294967296 := by
  rw [List.getD_eq_getElem?_getD]
  by_cases h : i < xs.length
  · rw [List.getElem?_eq_getElem h]; exact hx _ (List.getElem_mem _)
  · rw [List.getElem?_eq_none (by omega)]; decide
set_option maxHeartbeats 1600000 in
theorem count_any (a : Option Addr) (len cap : Nat) (xs : List Nat) (w : World) (hr : Reads .u32 w a len xs) (hx : ∀ x ∈ xs, x < 4294967296) (hl : len ≤ 35184372088832) :
    Calls Try.prog 19 #[.slice a len cap] w (Quiet (.int .u64 (zcount xs)) w) := by
  have hlen := hr.1
  go_enter Try.func19, Try.ntmps19
  go_wp2
  go_loopw [3, 8] (fun n i wr => ∃ k : Nat, k ≤ len ∧ i = .int .i64 k ∧ n = .int .u64 (zcount (xs.take k)) ∧ ∃ m, wr = w.drewN m) (fun _ i _ => len - (intOf i).toNat)
  case atStart => exact ⟨0, Nat.zero_le _, rfl, rfl, 0, rfl⟩
  case round =>
    obtain ⟨k, hk, rfl, rfl, m, rfl⟩ := hrel
    by_cases hlt : k < len
    · obtain ⟨b, off, rfl, hbs, hc⟩ := hr.at hlt
      have c1 : (w.drewN m).cell? ⟨b, off + k, none⟩ = some (.int .u32 ((xs.getD k 0 : Nat) : Int)) := hc k hlt
      have hx1 := getD32_lt xs hx k
      have HS := hid (zcount_snoc xs k (by omega))
      have hz := zcount_le (xs.take k)
      have hzl : (xs.take k).length ≤ k := List.length_take_le _ _
      have hb : zcount (xs.take k) ≤ 32 * k := by omega
      clear hc hz hzl hlen
      generalize zcount (xs.take k) = z at *
      generalize xs.getD k 0 = x1 at *
      have hn := u32_not_nat x1 hx1
      have ho := ones_le x1
      have c := fun w' => ones_any (4294967295 - x1) (by omega) w'
      rw [ones_compl x1 hx1] at c
      have hy1 : 4294967295 - x1 < 4294967296 := by omega
      generalize 4294967295 - x1 = y at *
      generalize ones x1 = o at *
      clear hx hr
      go_wp2_with (go_at_call 22; (with_reducible refine (c _).mono ?_); rintro e w' ⟨rfl, m2, rfl⟩)
      exact ⟨⟨k + 1, by omega, by go_num, congrArg (Value.int .u64) (by rw [HS.out]; omega), ⟨_, rfl⟩⟩, by simp [intOf]; omega⟩
    · obtain rfl : k = len := by omega
      go_wp2
      go_ret
      exact ⟨ret_int (by rw [List.take_of_length_le (by omega)]), _, rfl⟩
theorem sum_any (a : Option Addr) (len cap : Nat) (xs : List Nat) (w : World) (hr : Reads .u32 w a len xs) (hx : ∀ x ∈ xs, x < 4294967296) (hl : len ≤ 35184372088832) :
    Calls Try.prog 7 #[.slice a len cap] w (Quiet (.int .u32 (zcount xs % 4294967296 : Nat)) w) := by
  have c := fun w' (h : Reads .u32 w' a len xs) => count_any a len cap xs w' h hx hl
  have hz := zcount_le xs
  have hlen := hr.1
  have hb : zcount xs ≤ 1125899906842624 := by omega
  clear hz
  generalize zcount xs = z at *
  go_enter Try.func7, Try.ntmps7
  go_wp2_with (go_at_call 19; refine (c _ hr).mono ?_; rintro e w' ⟨rfl, m2, rfl⟩)
  go_ret
  exact ⟨ret_int (by omega), _, rfl⟩

/-- is the last word the number of zero bits of the words before it? -/
def rightB (xs : List Nat) : Bool := decide (xs.length ≠ 0) && (xs.getD (xs.length - 1) 0 == zcount (xs.take (xs.length - 1)))
theorem right_zero (a : Option Addr) (cap : Nat) (w : World) :
    Calls Try.prog 12 #[.slice a 0 cap] w (Quiet (.bool false) w) := by
  go_enter Try.func12, Try.ntmps12
  go_wp2
  go_ret
  exact ⟨rfl, 0, rfl⟩
theorem readsTake {k : IntKind} {w : World} {a : Option Addr} {len : Nat} {xs : List Nat} (h : Reads k w a len xs) (n : Nat) (hn : n ≤ len) : Reads k w a n (xs.take n) := by
  refine ⟨by rw [List.length_take, h.1]; omega, ?_⟩
  rcases h.2 with h0 | ⟨b, off, ha, hlt, hc⟩
  · exact .inl (by omega)
  · refine .inr ⟨b, off, ha, hlt, fun i hi => ?_⟩
    rw [hc i (by omega)]
    simp only [List.getD_eq_getElem?_getD, List.getElem?_take, if_pos hi]
set_option maxHeartbeats 1600000 in
theorem right_any (a : Option Addr) (len cap : Nat) (xs : List Nat) (w : World) (hr : Reads .u32 w a len xs) (hx : ∀ x ∈ xs, x < 4294967296) (hl : len ≤ 35184372088832) (hlc : len ≤ cap) (hcap : cap ≤ maxLen) :
    Calls Try.prog 12 #[.slice a len cap] w (Quiet (.bool (rightB xs)) w) := by
  have hlen := hr.1
  unfold maxLen at hcap
  by_cases h0 : len = 0
  · subst h0
    obtain rfl : xs = [] := List.eq_nil_of_length_eq_zero hlen
    exact right_zero a cap w
  · obtain ⟨n, rfl⟩ : ∃ n, len = n + 1 := ⟨len - 1, by omega⟩
    obtain ⟨b, off, rfl, hbs, hc⟩ := hr.at (show n < n + 1 by omega)
    have c1 := hc n (by omega)
    have hx1 := getD32_lt xs hx n
    have hp := readsTake hr n (by omega)
    have c := fun w' (h : Reads .u32 w' (some ⟨b, off, none⟩) n (xs.take n)) => count_any (some ⟨b, off, none⟩) n cap (xs.take n) w' h (fun x h => hx x (List.mem_of_mem_take h)) (by omega)
    have hz := zcount_le (xs.take n)
    have hR : rightB xs = (xs.getD n 0 == zcount (xs.take n)) := by unfold rightB; rw [hlen]; simp
    rw [hR]
    have hbz : zcount (xs.take n) ≤ 1125899906842624 := by rw [hp.1] at hz; omega
    clear hR hz hc
    generalize zcount (xs.take n) = z at *
    generalize xs.getD n 0 = x1 at *
    go_enter Try.func12, Try.ntmps12
    go_wp2
    go_quiet ((go_at_call 19; exact quietAt (c _ hp)))
    go_wp2
    go_ret
    exact ⟨ret_bool (by rw [Bool.eq_iff_iff]; simp; omega), nq, rfl⟩
end Go.Proofs.Ytcgfinfafphapaa.zeros
