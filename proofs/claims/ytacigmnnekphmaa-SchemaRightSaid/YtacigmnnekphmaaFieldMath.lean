/- Fields and their values by plain numbers: when a field is right, what belongs to it, how a value is written and read. No condition. -/
import Derived.Test.YtacigmnnekphmaaFieldOpen
import Derived.Test.YtacigmnnekphmaaValueOpen
import Derived.Lib.AppendStr
namespace Go.Proofs.Ytacigmnnekphmaa.field
open Go.RowKit
set_option linter.unusedVariables false

/-- the bytes of a string -/
def bytesOf (s : ByteArray) : List Nat := s.data.toList.map UInt8.toNat
theorem bytesOf_length (s : ByteArray) : (bytesOf s).length = s.size := by unfold bytesOf; rw [List.length_map, Array.length_toList]; rfl
theorem bytesOf_lt (s : ByteArray) : ∀ x ∈ bytesOf s, x < 256 := by
  intro x hx
  obtain ⟨b, _, rfl⟩ := List.mem_map.1 hx
  exact b.toNat_lt
theorem strOf_nil : strOf [] = ⟨#[]⟩ := rfl
theorem strOf_bytes (s : ByteArray) : strOf (bytesOf s) = s := by
  obtain ⟨l⟩ := s
  unfold strOf strOfNums bytesOf
  congr 1
  apply Array.ext'
  simp [List.map_map, Function.comp_def]
theorem bytes_strOf {xs : List Nat} (h : ∀ x ∈ xs, x < 256) : bytesOf (strOf xs) = xs := by
  unfold strOf strOfNums bytesOf
  simp only [List.map_map]
  conv => rhs; rw [← List.map_id xs]
  apply List.map_congr_left
  intro x hx
  have := h x hx
  simp [UInt8.toNat_ofNat', Nat.mod_eq_of_lt this]
theorem strOf_size (xs : List Nat) : (strOf xs).size = xs.length := by unfold strOf; rw [strOfNums_size]; simp
theorem strCells_bytes (s : ByteArray) : Lib.strCells s = (bytesOf s).map fun x : Nat => Value.int .u8 (x : Int) := by
  simp [Lib.strCells, bytesOf, List.map_map, Function.comp_def]

def Fd.Right (f : Fd) : Prop :=
  (0 ≤ f.id ∧ f.id ≤ 255) ∧ ((f.kind = 1 ∧ f.lo ≤ f.hi ∧ -1099511627776 ≤ f.lo ∧ f.hi ≤ 1099511627776 ∧ f.most = 0) ∨ (f.kind = 2 ∧ (f.lo = 0 ∧ f.hi = 0) ∧ f.most = 0) ∨
    (f.kind = 3 ∧ (f.lo = 0 ∧ f.hi = 0) ∧ 1 ≤ f.most ∧ f.most ≤ 1000) ∨ (f.kind = 4 ∧ (f.lo = 0 ∧ f.hi = 0) ∧ 0 ≤ f.most ∧ f.most ≤ 32))
instance (f : Fd) : Decidable f.Right := by unfold Fd.Right; infer_instance
/-- the greatest number, and the length of the longest text -/
def Fd.great (f : Fd) : Int := if f.kind = 1 then f.hi else if f.kind = 2 then 1 else if f.kind = 3 then f.most - 1 else 0
def Fd.long (f : Fd) : Int := if f.kind = 4 then f.most else 0
def Fd.Has (f : Fd) (v : Va) : Prop := f.Right ∧ (f.lo ≤ v.n ∧ v.n ≤ f.great) ∧ (v.s.size : Int) ≤ f.long
instance (f : Fd) (v : Va) : Decidable (f.Has v) := by unfold Fd.Has; infer_instance
def Fd.least (f : Fd) : Int := if f.Right then f.lo else 0
def Fd.Wider (f g : Fd) : Prop := f.Right ∧ g.Right ∧ f.kind = g.kind ∧ g.lo ≤ f.lo ∧ f.hi ≤ g.hi ∧ f.most ≤ g.most
instance (f g : Fd) : Decidable (f.Wider g) := by unfold Fd.Wider; infer_instance

/-- how many bytes hold numbers up to n -/
def wide (n : Nat) : Nat := if n = 0 then 0 else if n < 256 then 1 else if n < 65536 then 2 else if n < 16777216 then 3 else if n < 4294967296 then 4 else if n < 1099511627776 then 5 else 6
theorem wide_le (n : Nat) : wide n ≤ 6 := by
  unfold wide
  repeat' split
  all_goals omega
theorem wide_div {n : Nat} (h : 0 < n) (hn : n < 281474976710656) : wide n = wide (n / 256) + 1 := by
  unfold wide
  repeat' split
  all_goals omega
theorem wide_lt {n : Nat} (hn : n < 281474976710656) : n < 256 ^ wide n := by
  unfold wide
  repeat' split
  all_goals first | omega | (simp; omega)
def Fd.size (f : Fd) : Nat := if f.Right then (if f.kind = 4 then 1 + f.most.toNat else wide (f.great - f.lo).toNat) else 0
theorem Fd.size_le (f : Fd) : f.size ≤ 33 := by
  unfold Fd.size
  split
  · rename_i h
    unfold Fd.Right at h
    have := wide_le (f.great - f.lo).toNat
    split <;> omega
  · omega

/-- the last k bytes of n, the greatest first -/
def digits (k n : Nat) : List Nat := (List.range k).map fun p => n / 256 ^ (k - 1 - p) % 256
theorem digits_length (k n : Nat) : (digits k n).length = k := by simp [digits]
theorem digits_lt (k n : Nat) : ∀ x ∈ digits k n, x < 256 := by
  intro x hx
  obtain ⟨p, _, rfl⟩ := List.mem_map.1 hx
  exact Nat.mod_lt _ (by omega)
theorem digits_snoc (k n : Nat) : digits (k + 1) n = digits k (n / 256) ++ [n % 256] := by
  unfold digits
  rw [List.range_succ, List.map_append]
  congr 1
  · apply List.map_congr_left
    intro p hp
    have hp := List.mem_range.1 hp
    rw [show k + 1 - 1 - p = (k - 1 - p) + 1 by omega, Nat.pow_succ, Nat.mul_comm, ← Nat.div_div_eq_div_mul]
  · simp
theorem digits_cons (k n : Nat) : digits (k + 1) n = (n / 256 ^ k % 256) :: digits k n := by
  unfold digits
  rw [List.range_succ_eq_map, List.map_cons, List.map_map]
  congr 1
  apply List.map_congr_left
  intro p hp
  simp only [Function.comp]
  rw [show k + 1 - 1 - Nat.succ p = k - 1 - p by omega]
/-- the number that bytes are -/
def num (xs : List Nat) : Nat := xs.foldl (fun a x => 256 * a + x) 0
theorem num_snoc (xs : List Nat) (x : Nat) : num (xs ++ [x]) = 256 * num xs + x := by simp [num, List.foldl_append]
theorem num_digits : ∀ (k n : Nat), num (digits k n) = n % 256 ^ k
  | 0, n => by simp [digits, num, Nat.mod_one]
  | k + 1, n => by
    rw [digits_snoc, num_snoc, num_digits k, Nat.pow_succ, Nat.mul_comm (256 ^ k) 256, Nat.mod_mul]
    omega
theorem num_lt : ∀ (k : Nat) (xs : List Nat), xs.length = k → (∀ x ∈ xs, x < 256) → num xs < 256 ^ k
  | 0, xs, h, _ => by
    obtain rfl := List.eq_nil_of_length_eq_zero h
    simp [num]
  | k + 1, xs, h, hx => by
    have hne : xs ≠ [] := by intro h0; simp [h0] at h
    have hd := List.dropLast_concat_getLast hne
    have hl : xs.dropLast.length = k := by simp [h]
    have h1 := num_lt k xs.dropLast hl (fun x hm => hx x ((List.dropLast_sublist xs).subset hm))
    have h2 := hx _ (List.getLast_mem hne)
    rw [← hd, num_snoc, Nat.pow_succ]
    omega
theorem digits_num : ∀ (k : Nat) (xs : List Nat), xs.length = k → (∀ x ∈ xs, x < 256) → digits k (num xs) = xs
  | 0, xs, h, _ => by
    obtain rfl := List.eq_nil_of_length_eq_zero h
    simp [digits]
  | k + 1, xs, h, hx => by
    have hne : xs ≠ [] := by intro h0; simp [h0] at h
    have hd := List.dropLast_concat_getLast hne
    have hl : xs.dropLast.length = k := by simp [h]
    have h1 := digits_num k xs.dropLast hl (fun x hm => hx x ((List.dropLast_sublist xs).subset hm))
    have h2 := hx _ (List.getLast_mem hne)
    conv => lhs; rw [← hd, num_snoc]
    rw [digits_snoc, show (256 * num xs.dropLast + xs.getLast hne) / 256 = num xs.dropLast by omega, show (256 * num xs.dropLast + xs.getLast hne) % 256 = xs.getLast hne by omega, h1]
    exact hd

/-- what Lay answers: the bytes and the error -/
def Fd.layE (f : Fd) (v : Va) : Int := if ¬ f.Right then 2 else if ¬ f.Has v then 16 else 0
def Fd.layB (f : Fd) (v : Va) : List Nat := if ¬ f.Has v then [] else if f.kind = 4 then v.s.size :: bytesOf v.s else digits f.size (v.n - f.lo).toNat
/-- what Take answers: the number and the bytes of the text, how many bytes it took, the error -/
structure Tk where
  (n : Int) (s : List Nat) (c : Nat) (e : Int)
def Fd.take (f : Fd) (xs : List Nat) : Tk :=
  if ¬ f.Right then ⟨0, [], 0, 2⟩ else if f.kind = 4 then
    (if xs.length < 1 then ⟨0, [], 0, 5⟩ else if f.most < (xs.getD 0 0 : Nat) then ⟨0, [], 0, 16⟩ else if xs.length < 1 + xs.getD 0 0 then ⟨0, [], 0, 5⟩ else ⟨0, (xs.drop 1).take (xs.getD 0 0), 1 + xs.getD 0 0, 0⟩)
  else if xs.length < f.size then ⟨0, [], 0, 5⟩ else if f.great - f.lo < (num (xs.take f.size) : Nat) then ⟨0, [], 0, 16⟩ else ⟨f.lo + (num (xs.take f.size) : Nat), [], f.size, 0⟩

theorem Fd.Right.span {f : Fd} (h : f.Right) : f.lo ≤ f.great ∧ f.great - f.lo ≤ 2199023255552 ∧ -1099511627776 ≤ f.lo ∧ f.lo ≤ 1099511627776 ∧ 0 ≤ f.long ∧ f.long ≤ 32 := by
  unfold Fd.Right at h
  unfold Fd.great Fd.long
  obtain ⟨_, h⟩ := h
  rcases h with h | h | h | h <;> obtain ⟨h1, h2⟩ := h <;> rw [h1] <;> simp <;> omega
theorem Fd.layB_lt (f : Fd) (v : Va) : ∀ x ∈ f.layB v, x < 256 := by
  unfold Fd.layB
  split
  · simp
  · rename_i h
    have h' : f.Has v := Classical.not_not.1 h
    obtain ⟨hr, _, h3⟩ := h'
    have := hr.span
    split
    · intro x hx
      rcases List.mem_cons.1 hx with rfl | hx
      · omega
      · exact bytesOf_lt _ x hx
    · exact digits_lt _ _
/-- a written value is read again, whatever stands behind it -/
theorem Fd.take_lay {f : Fd} {v : Va} (h : f.Has v) (more : List Nat) : f.take (f.layB v ++ more) = ⟨v.n, bytesOf v.s, (f.layB v).length, 0⟩ ∧ (f.layB v).length ≤ f.size := by
  have hh := h
  obtain ⟨hr, ⟨h1, h2⟩, h3⟩ := h
  have hs := hr.span
  have hL : f.layB v = if f.kind = 4 then v.s.size :: bytesOf v.s else digits f.size (v.n - f.lo).toNat := by unfold Fd.layB; rw [if_neg (show ¬¬ f.Has v from fun h => h hh)]
  rw [hL]
  unfold Fd.take
  rw [if_neg (show ¬¬ f.Right from fun h => h hr)]
  by_cases hk : f.kind = 4
  · have hr' := hr
    unfold Fd.Right at hr'
    have hg : f.great = 0 ∧ f.long = f.most := by simp [Fd.great, Fd.long, hk]
    have hv : v.n = 0 := by omega
    have hb := bytesOf_length v.s
    rw [if_pos hk, if_pos hk]
    simp only [List.cons_append, List.length_cons, List.getD_cons_zero, List.length_append, List.drop_succ_cons, List.drop_zero]
    rw [if_neg (by omega), if_neg (by omega), if_neg (by omega)]
    refine ⟨?_, ?_⟩
    · rw [hv, List.take_append_of_le_length (by omega), List.take_of_length_le (by omega), hb]
      congr 1; omega
    · unfold Fd.size; rw [if_pos hr, if_pos hk]; omega
  · rw [if_neg hk, if_neg hk]
    have hl : f.long = 0 := by simp [Fd.long, hk]
    have hse : bytesOf v.s = [] := List.eq_nil_of_length_eq_zero (by rw [bytesOf_length]; omega)
    have hsz : f.size = wide (f.great - f.lo).toNat := by unfold Fd.size; rw [if_pos hr, if_neg hk]
    have hw := wide_lt (n := (f.great - f.lo).toNat) (by omega)
    rw [← hsz] at hw
    have ht : (digits f.size (v.n - f.lo).toNat ++ more).take f.size = digits f.size (v.n - f.lo).toNat := by
      rw [List.take_append_of_le_length (by rw [digits_length]; omega), List.take_of_length_le (by rw [digits_length]; omega)]
    have hn : num (digits f.size (v.n - f.lo).toNat) = (v.n - f.lo).toNat := by rw [num_digits, Nat.mod_eq_of_lt (by omega)]
    rw [ht, hn, List.length_append, digits_length, if_neg (by omega), if_neg (by omega), hse]
    refine ⟨?_, by omega⟩
    congr 1; omega
/-- what was read belongs to the field, and has the bytes that were read -/
theorem Fd.lay_take {f : Fd} {xs : List Nat} (hx : ∀ x ∈ xs, x < 256) (h : (f.take xs).e = 0) :
    f.Has ⟨(f.take xs).n, strOf (f.take xs).s⟩ ∧ (f.take xs).c ≤ xs.length ∧ f.layB ⟨(f.take xs).n, strOf (f.take xs).s⟩ = xs.take (f.take xs).c := by
  have hx' : ∀ x ∈ (f.take xs).s, x < 256 := by
    unfold Fd.take
    split
    · simp
    · split
      · split
        · simp
        · split
          · simp
          · split
            · simp
            · intro x hm; exact hx x (List.mem_of_mem_drop (List.mem_of_mem_take hm))
      · split
        · simp
        · split <;> simp
  by_cases hr : f.Right
  case neg => simp [Fd.take, hr] at h
  have hs := hr.span
  by_cases hk : f.kind = 4
  · have hr' := hr
    unfold Fd.Right at hr'
    have hg : f.great = 0 ∧ f.long = f.most := by simp [Fd.great, Fd.long, hk]
    by_cases h1 : xs.length < 1
    · unfold Fd.take at h; rw [if_neg (show ¬¬ f.Right from fun h => h hr), if_pos hk, if_pos h1] at h; simp at h
    by_cases h2 : f.most < (xs.getD 0 0 : Nat)
    · unfold Fd.take at h; rw [if_neg (show ¬¬ f.Right from fun h => h hr), if_pos hk, if_neg h1, if_pos h2] at h; simp at h
    by_cases h3 : xs.length < 1 + xs.getD 0 0
    · unfold Fd.take at h; rw [if_neg (show ¬¬ f.Right from fun h => h hr), if_pos hk, if_neg h1, if_neg h2, if_pos h3] at h; simp at h
    have ht : f.take xs = ⟨0, (xs.drop 1).take (xs.getD 0 0), 1 + xs.getD 0 0, 0⟩ := by
      unfold Fd.take; rw [if_neg (show ¬¬ f.Right from fun h => h hr), if_pos hk, if_neg h1, if_neg h2, if_neg h3]
    rw [ht] at hx' ⊢
    simp only at hx' ⊢
    have hsl : (strOf ((xs.drop 1).take (xs.getD 0 0))).size = xs.getD 0 0 := by rw [strOf_size, List.length_take, List.length_drop]; omega
    have hH : f.Has ⟨0, strOf ((xs.drop 1).take (xs.getD 0 0))⟩ := by
      refine ⟨hr, ⟨by simp only; omega, by simp only; omega⟩, ?_⟩
      simp only; rw [hsl]; omega
    refine ⟨hH, by omega, ?_⟩
    unfold Fd.layB
    rw [if_neg (show ¬¬ f.Has _ from fun h => h hH), if_pos hk]
    simp only
    rw [hsl, bytes_strOf hx']
    cases xs with
    | nil => simp at h1
    | cons y ys => simp [Nat.add_comm 1]
  · by_cases h1 : xs.length < f.size
    · unfold Fd.take at h; rw [if_neg (show ¬¬ f.Right from fun h => h hr), if_neg hk, if_pos h1] at h; simp at h
    by_cases h2 : f.great - f.lo < (num (xs.take f.size) : Nat)
    · unfold Fd.take at h; rw [if_neg (show ¬¬ f.Right from fun h => h hr), if_neg hk, if_neg h1, if_pos h2] at h; simp at h
    have ht : f.take xs = ⟨f.lo + (num (xs.take f.size) : Nat), [], f.size, 0⟩ := by
      unfold Fd.take; rw [if_neg (show ¬¬ f.Right from fun h => h hr), if_neg hk, if_neg h1, if_neg h2]
    rw [ht]
    simp only
    have hH : f.Has ⟨f.lo + (num (xs.take f.size) : Nat), strOf []⟩ := by
      refine ⟨hr, ⟨by simp only; omega, by simp only; omega⟩, ?_⟩
      simp only; rw [strOf_size]; simp; omega
    refine ⟨hH, by omega, ?_⟩
    unfold Fd.layB
    rw [if_neg (show ¬¬ f.Has _ from fun h => h hH), if_neg hk]
    simp only
    rw [show (f.lo + (num (xs.take f.size) : Nat) - f.lo).toNat = num (xs.take f.size) by omega]
    exact digits_num _ _ (by rw [List.length_take]; omega) (fun x hm => hx x (List.mem_of_mem_take hm))
theorem Fd.Wider.has {f g : Fd} {v : Va} (h : f.Wider g) (hv : f.Has v) : g.Has v := by
  obtain ⟨h1, h2, h3, h4, h5, h6⟩ := h
  obtain ⟨_, ⟨h7, h8⟩, h9⟩ := hv
  refine ⟨h2, ⟨by omega, ?_⟩, ?_⟩
  · unfold Fd.great at h8 ⊢
    rw [← h3]
    split <;> rename_i hk
    · simp [hk] at h8; omega
    · simp only [hk, if_false] at h8
      split <;> rename_i hk2
      · simp [hk2] at h8; omega
      · simp only [hk2, if_false] at h8
        split <;> rename_i hk3
        · simp [hk3] at h8; omega
        · simp only [hk3, if_false] at h8; omega
  · unfold Fd.long at h9 ⊢
    rw [← h3]
    split <;> rename_i hk
    · simp [hk] at h9; omega
    · simp only [hk, if_false] at h9; omega
theorem Fd.least_has (f : Fd) : f.Right ↔ f.Has ⟨f.least, ⟨#[]⟩⟩ := by
  constructor
  · intro h
    have hs := h.span
    refine ⟨h, ?_, ?_⟩
    · unfold Fd.least; rw [if_pos h]; simp only; omega
    · show ((0 : Nat) : Int) ≤ _; omega
  · exact fun h => h.1
theorem Fd.wider_self (f : Fd) : f.Right ↔ f.Wider f := ⟨fun h => ⟨h, h, rfl, Int.le_refl _, Int.le_refl _, Int.le_refl _⟩, fun h => h.1⟩
end Go.Proofs.Ytacigmnnekphmaa.field
