/- Contracts and lemmas that the claims of this seat share: FieldMath, PenMath, SchemaMath, RecordMath. Each says its own conditions. -/
import Derived.Test.YtegeeobfamjjpaaCmA
import Derived.Lib.AppendStr
import Derived.Laws.Strings
/- Fields and their values by plain numbers: when a field is right, what belongs to it, how a value is written and read. No condition. -/
namespace Go.Proofs.Ytegeeobfamjjpaa.field
open Go.RowKit
set_option linter.unusedVariables false

/-- the bytes of a string -/
def bytesOf (s : ByteArray) : List Nat := s.data.toList.map UInt8.toNat
theorem bytesOf_length (s : ByteArray) : (bytesOf s).length = s.size := by unfold bytesOf; rw [List.length_map, Array.length_toList]; rfl
theorem bytesOf_lt (s : ByteArray) : ∀ x ∈ bytesOf s, x < 256 := by
  intro x hx
  obtain ⟨b, _, rfl⟩ := List.mem_map.1 hx
  exact b.toNat_lt
theorem strOf_nil : strOf [] = ⟨#[]⟩ := rfl
theorem strOf_bytes (s : ByteArray) : strOf (bytesOf s) = s := by
  obtain ⟨l⟩ := s
  unfold strOf strOfNums bytesOf
  congr 1
  apply Array.ext'
  simp [List.map_map, Function.comp_def]
theorem bytes_strOf {xs : List Nat} (h : ∀ x ∈ xs, x < 256) : bytesOf (strOf xs) = xs := by
  unfold strOf strOfNums bytesOf
  simp only [List.map_map]
  conv => rhs; rw [← List.map_id xs]
  apply List.map_congr_left
  intro x hx
  have := h x hx
  simp [UInt8.toNat_ofNat', Nat.mod_eq_of_lt this]
theorem strOf_size (xs : List Nat) : (strOf xs).size = xs.length := by unfold strOf; rw [strOfNums_size]; simp
theorem strCells_bytes (s : ByteArray) : Lib.strCells s = (bytesOf s).map fun x : Nat => Value.int .u8 (x : Int) := by
  simp [Lib.strCells, bytesOf, List.map_map, Function.comp_def]

def Fd.Right (f : Fd) : Prop :=
  (0 ≤ f.id ∧ f.id ≤ 255) ∧ ((f.kind = 1 ∧ f.lo ≤ f.hi ∧ -1099511627776 ≤ f.lo ∧ f.hi ≤ 1099511627776 ∧ f.most = 0) ∨ (f.kind = 2 ∧ (f.lo = 0 ∧ f.hi = 0) ∧ f.most = 0) ∨
    (f.kind = 3 ∧ (f.lo = 0 ∧ f.hi = 0) ∧ 1 ≤ f.most ∧ f.most ≤ 1000) ∨ (f.kind = 4 ∧ (f.lo = 0 ∧ f.hi = 0) ∧ 0 ≤ f.most ∧ f.most ≤ 32))
instance (f : Fd) : Decidable f.Right := by unfold Fd.Right; infer_instance
/-- the greatest number, and the length of the longest text -/
def Fd.great (f : Fd) : Int := if f.kind = 1 then f.hi else if f.kind = 2 then 1 else if f.kind = 3 then f.most - 1 else 0
def Fd.long (f : Fd) : Int := if f.kind = 4 then f.most else 0
def Fd.Has (f : Fd) (v : Va) : Prop := f.Right ∧ (f.lo ≤ v.n ∧ v.n ≤ f.great) ∧ (v.s.size : Int) ≤ f.long
instance (f : Fd) (v : Va) : Decidable (f.Has v) := by unfold Fd.Has; infer_instance
def Fd.least (f : Fd) : Int := if f.Right then f.lo else 0
def Fd.Wider (f g : Fd) : Prop := f.Right ∧ g.Right ∧ f.kind = g.kind ∧ g.lo ≤ f.lo ∧ f.hi ≤ g.hi ∧ f.most ≤ g.most
instance (f g : Fd) : Decidable (f.Wider g) := by unfold Fd.Wider; infer_instance

/-- how many bytes hold numbers up to n -/
def wide (n : Nat) : Nat := if n = 0 then 0 else if n < 256 then 1 else if n < 65536 then 2 else if n < 16777216 then 3 else if n < 4294967296 then 4 else if n < 1099511627776 then 5 else 6
theorem wide_le (n : Nat) : wide n ≤ 6 := by
  unfold wide
  repeat' split
  all_goals omega
theorem wide_div {n : Nat} (h : 0 < n) (hn : n < 281474976710656) : wide n = wide (n / 256) + 1 := by
  unfold wide
  repeat' split
  all_goals omega
theorem wide_lt {n : Nat} (hn : n < 281474976710656) : n < 256 ^ wide n := by
  unfold wide
  repeat' split
  all_goals first | omega | (simp; omega)
def Fd.size (f : Fd) : Nat := if f.Right then (if f.kind = 4 then 1 + f.most.toNat else wide (f.great - f.lo).toNat) else 0
theorem Fd.size_le (f : Fd) : f.size ≤ 33 := by
  unfold Fd.size
  split
  · rename_i h
    unfold Fd.Right at h
    have := wide_le (f.great - f.lo).toNat
    split <;> omega
  · omega

/-- the last k bytes of n, the greatest first -/
def digits (k n : Nat) : List Nat := (List.range k).map fun p => n / 256 ^ (k - 1 - p) % 256
theorem digits_length (k n : Nat) : (digits k n).length = k := by simp [digits]
theorem digits_lt (k n : Nat) : ∀ x ∈ digits k n, x < 256 := by
  intro x hx
  obtain ⟨p, _, rfl⟩ := List.mem_map.1 hx
  exact Nat.mod_lt _ (by omega)
theorem digits_snoc (k n : Nat) : digits (k + 1) n = digits k (n / 256) ++ [n % 256] := by
  unfold digits
  rw [List.range_succ, List.map_append]
  congr 1
  · apply List.map_congr_left
    intro p hp
    have hp := List.mem_range.1 hp
    rw [show k + 1 - 1 - p = (k - 1 - p) + 1 by omega, Nat.pow_succ, Nat.mul_comm, ← Nat.div_div_eq_div_mul]
  · simp
theorem digits_cons (k n : Nat) : digits (k + 1) n = (n / 256 ^ k % 256) :: digits k n := by
  unfold digits
  rw [List.range_succ_eq_map, List.map_cons, List.map_map]
  congr 1
  apply List.map_congr_left
  intro p hp
  simp only [Function.comp]
  rw [show k + 1 - 1 - Nat.succ p = k - 1 - p by omega]
/-- the number that bytes are -/
def num (xs : List Nat) : Nat := xs.foldl (fun a x => 256 * a + x) 0
theorem num_snoc (xs : List Nat) (x : Nat) : num (xs ++ [x]) = 256 * num xs + x := by simp [num, List.foldl_append]
theorem num_digits : ∀ (k n : Nat), num (digits k n) = n % 256 ^ k
  | 0, n => by simp [digits, num, Nat.mod_one]
  | k + 1, n => by
    rw [digits_snoc, num_snoc, num_digits k, Nat.pow_succ, Nat.mul_comm (256 ^ k) 256, Nat.mod_mul]
    omega
theorem num_lt : ∀ (k : Nat) (xs : List Nat), xs.length = k → (∀ x ∈ xs, x < 256) → num xs < 256 ^ k
  | 0, xs, h, _ => by
    obtain rfl := List.eq_nil_of_length_eq_zero h
    simp [num]
  | k + 1, xs, h, hx => by
    have hne : xs ≠ [] := by intro h0; simp [h0] at h
    have hd := List.dropLast_concat_getLast hne
    have hl : xs.dropLast.length = k := by simp [h]
    have h1 := num_lt k xs.dropLast hl (fun x hm => hx x ((List.dropLast_sublist xs).subset hm))
    have h2 := hx _ (List.getLast_mem hne)
    rw [← hd, num_snoc, Nat.pow_succ]
    omega
theorem digits_num : ∀ (k : Nat) (xs : List Nat), xs.length = k → (∀ x ∈ xs, x < 256) → digits k (num xs) = xs
  | 0, xs, h, _ => by
    obtain rfl := List.eq_nil_of_length_eq_zero h
    simp [digits]
  | k + 1, xs, h, hx => by
    have hne : xs ≠ [] := by intro h0; simp [h0] at h
    have hd := List.dropLast_concat_getLast hne
    have hl : xs.dropLast.length = k := by simp [h]
    have h1 := digits_num k xs.dropLast hl (fun x hm => hx x ((List.dropLast_sublist xs).subset hm))
    have h2 := hx _ (List.getLast_mem hne)
    conv => lhs; rw [← hd, num_snoc]
    rw [digits_snoc, show (256 * num xs.dropLast + xs.getLast hne) / 256 = num xs.dropLast by omega, show (256 * num xs.dropLast + xs.getLast hne) % 256 = xs.getLast hne by omega, h1]
    exact hd

/-- what Lay answers: the bytes and the error -/
def Fd.layE (f : Fd) (v : Va) : Int := if ¬ f.Right then 2 else if ¬ f.Has v then 16 else 0
def Fd.layB (f : Fd) (v : Va) : List Nat := if ¬ f.Has v then [] else if f.kind = 4 then v.s.size :: bytesOf v.s else digits f.size (v.n - f.lo).toNat
/-- what Take answers: the number and the bytes of the text, how many bytes it took, the error -/
structure Tk where
  (n : Int) (s : List Nat) (c : Nat) (e : Int)
def Fd.take (f : Fd) (xs : List Nat) : Tk :=
  if ¬ f.Right then ⟨0, [], 0, 2⟩ else if f.kind = 4 then
    (if xs.length < 1 then ⟨0, [], 0, 5⟩ else if f.most < (xs.getD 0 0 : Nat) then ⟨0, [], 0, 16⟩ else if xs.length < 1 + xs.getD 0 0 then ⟨0, [], 0, 5⟩ else ⟨0, (xs.drop 1).take (xs.getD 0 0), 1 + xs.getD 0 0, 0⟩)
  else if xs.length < f.size then ⟨0, [], 0, 5⟩ else if f.great - f.lo < (num (xs.take f.size) : Nat) then ⟨0, [], 0, 16⟩ else ⟨f.lo + (num (xs.take f.size) : Nat), [], f.size, 0⟩

theorem Fd.Right.span {f : Fd} (h : f.Right) : f.lo ≤ f.great ∧ f.great - f.lo ≤ 2199023255552 ∧ -1099511627776 ≤ f.lo ∧ f.lo ≤ 1099511627776 ∧ 0 ≤ f.long ∧ f.long ≤ 32 := by
  unfold Fd.Right at h
  unfold Fd.great Fd.long
  obtain ⟨_, h⟩ := h
  rcases h with h | h | h | h <;> obtain ⟨h1, h2⟩ := h <;> rw [h1] <;> simp <;> omega
theorem Fd.layB_lt (f : Fd) (v : Va) : ∀ x ∈ f.layB v, x < 256 := by
  unfold Fd.layB
  split
  · simp
  · rename_i h
    have h' : f.Has v := Classical.not_not.1 h
    obtain ⟨hr, _, h3⟩ := h'
    have := hr.span
    split
    · intro x hx
      rcases List.mem_cons.1 hx with rfl | hx
      · omega
      · exact bytesOf_lt _ x hx
    · exact digits_lt _ _
/-- a written value is read again, whatever stands behind it -/
theorem Fd.take_lay {f : Fd} {v : Va} (h : f.Has v) (more : List Nat) : f.take (f.layB v ++ more) = ⟨v.n, bytesOf v.s, (f.layB v).length, 0⟩ ∧ (f.layB v).length ≤ f.size := by
  have hh := h
  obtain ⟨hr, ⟨h1, h2⟩, h3⟩ := h
  have hs := hr.span
  have hL : f.layB v = if f.kind = 4 then v.s.size :: bytesOf v.s else digits f.size (v.n - f.lo).toNat := by unfold Fd.layB; rw [if_neg (show ¬¬ f.Has v from fun h => h hh)]
  rw [hL]
  unfold Fd.take
  rw [if_neg (show ¬¬ f.Right from fun h => h hr)]
  by_cases hk : f.kind = 4
  · have hr' := hr
    unfold Fd.Right at hr'
    have hg : f.great = 0 ∧ f.long = f.most := by simp [Fd.great, Fd.long, hk]
    have hv : v.n = 0 := by omega
    have hb := bytesOf_length v.s
    rw [if_pos hk, if_pos hk]
    simp only [List.cons_append, List.length_cons, List.getD_cons_zero, List.length_append, List.drop_succ_cons, List.drop_zero]
    rw [if_neg (by omega), if_neg (by omega), if_neg (by omega)]
    refine ⟨?_, ?_⟩
    · rw [hv, List.take_append_of_le_length (by omega), List.take_of_length_le (by omega), hb]
      congr 1; omega
    · unfold Fd.size; rw [if_pos hr, if_pos hk]; omega
  · rw [if_neg hk, if_neg hk]
    have hl : f.long = 0 := by simp [Fd.long, hk]
    have hse : bytesOf v.s = [] := List.eq_nil_of_length_eq_zero (by rw [bytesOf_length]; omega)
    have hsz : f.size = wide (f.great - f.lo).toNat := by unfold Fd.size; rw [if_pos hr, if_neg hk]
    have hw := wide_lt (n := (f.great - f.lo).toNat) (by omega)
    rw [← hsz] at hw
    have ht : (digits f.size (v.n - f.lo).toNat ++ more).take f.size = digits f.size (v.n - f.lo).toNat := by
      rw [List.take_append_of_le_length (by rw [digits_length]; omega), List.take_of_length_le (by rw [digits_length]; omega)]
    have hn : num (digits f.size (v.n - f.lo).toNat) = (v.n - f.lo).toNat := by rw [num_digits, Nat.mod_eq_of_lt (by omega)]
    rw [ht, hn, List.length_append, digits_length, if_neg (by omega), if_neg (by omega), hse]
    refine ⟨?_, by omega⟩
    congr 1; omega
/-- what was read belongs to the field, and has the bytes that were read -/
theorem Fd.lay_take {f : Fd} {xs : List Nat} (hx : ∀ x ∈ xs, x < 256) (h : (f.take xs).e = 0) :
    f.Has ⟨(f.take xs).n, strOf (f.take xs).s⟩ ∧ (f.take xs).c ≤ xs.length ∧ f.layB ⟨(f.take xs).n, strOf (f.take xs).s⟩ = xs.take (f.take xs).c := by
  have hx' : ∀ x ∈ (f.take xs).s, x < 256 := by
    unfold Fd.take
    split
    · simp
    · split
      · split
        · simp
        · split
          · simp
          · split
            · simp
            · intro x hm; exact hx x (List.mem_of_mem_drop (List.mem_of_mem_take hm))
      · split
        · simp
        · split <;> simp
  by_cases hr : f.Right
  case neg => simp [Fd.take, hr] at h
  have hs := hr.span
  by_cases hk : f.kind = 4
  · have hr' := hr
    unfold Fd.Right at hr'
    have hg : f.great = 0 ∧ f.long = f.most := by simp [Fd.great, Fd.long, hk]
    by_cases h1 : xs.length < 1
    · unfold Fd.take at h; rw [if_neg (show ¬¬ f.Right from fun h => h hr), if_pos hk, if_pos h1] at h; simp at h
    by_cases h2 : f.most < (xs.getD 0 0 : Nat)
    · unfold Fd.take at h; rw [if_neg (show ¬¬ f.Right from fun h => h hr), if_pos hk, if_neg h1, if_pos h2] at h; simp at h
    by_cases h3 : xs.length < 1 + xs.getD 0 0
    · unfold Fd.take at h; rw [if_neg (show ¬¬ f.Right from fun h => h hr), if_pos hk, if_neg h1, if_neg h2, if_pos h3] at h; simp at h
    have ht : f.take xs = ⟨0, (xs.drop 1).take (xs.getD 0 0), 1 + xs.getD 0 0, 0⟩ := by
      unfold Fd.take; rw [if_neg (show ¬¬ f.Right from fun h => h hr), if_pos hk, if_neg h1, if_neg h2, if_neg h3]
    rw [ht] at hx' ⊢
    simp only at hx' ⊢
    have hsl : (strOf ((xs.drop 1).take (xs.getD 0 0))).size = xs.getD 0 0 := by rw [strOf_size, List.length_take, List.length_drop]; omega
    have hH : f.Has ⟨0, strOf ((xs.drop 1).take (xs.getD 0 0))⟩ := by
      refine ⟨hr, ⟨by simp only; omega, by simp only; omega⟩, ?_⟩
      simp only; rw [hsl]; omega
    refine ⟨hH, by omega, ?_⟩
    unfold Fd.layB
    rw [if_neg (show ¬¬ f.Has _ from fun h => h hH), if_pos hk]
    simp only
    rw [hsl, bytes_strOf hx']
    cases xs with
    | nil => simp at h1
    | cons y ys => simp [Nat.add_comm 1]
  · by_cases h1 : xs.length < f.size
    · unfold Fd.take at h; rw [if_neg (show ¬¬ f.Right from fun h => h hr), if_neg hk, if_pos h1] at h; simp at h
    by_cases h2 : f.great - f.lo < (num (xs.take f.size) : Nat)
    · unfold Fd.take at h; rw [if_neg (show ¬¬ f.Right from fun h => h hr), if_neg hk, if_neg h1, if_pos h2] at h; simp at h
    have ht : f.take xs = ⟨f.lo + (num (xs.take f.size) : Nat), [], f.size, 0⟩ := by
      unfold Fd.take; rw [if_neg (show ¬¬ f.Right from fun h => h hr), if_neg hk, if_neg h1, if_neg h2]
    rw [ht]
    simp only
    have hH : f.Has ⟨f.lo + (num (xs.take f.size) : Nat), strOf []⟩ := by
      refine ⟨hr, ⟨by simp only; omega, by simp only; omega⟩, ?_⟩
      simp only; rw [strOf_size]; simp; omega
    refine ⟨hH, by omega, ?_⟩
    unfold Fd.layB
    rw [if_neg (show ¬¬ f.Has _ from fun h => h hH), if_neg hk]
    simp only
    rw [show (f.lo + (num (xs.take f.size) : Nat) - f.lo).toNat = num (xs.take f.size) by omega]
    exact digits_num _ _ (by rw [List.length_take]; omega) (fun x hm => hx x (List.mem_of_mem_take hm))
theorem Fd.Wider.has {f g : Fd} {v : Va} (h : f.Wider g) (hv : f.Has v) : g.Has v := by
  obtain ⟨h1, h2, h3, h4, h5, h6⟩ := h
  obtain ⟨_, ⟨h7, h8⟩, h9⟩ := hv
  refine ⟨h2, ⟨by omega, ?_⟩, ?_⟩
  · unfold Fd.great at h8 ⊢
    rw [← h3]
    split <;> rename_i hk
    · simp [hk] at h8; omega
    · simp only [hk, if_false] at h8
      split <;> rename_i hk2
      · simp [hk2] at h8; omega
      · simp only [hk2, if_false] at h8
        split <;> rename_i hk3
        · simp [hk3] at h8; omega
        · simp only [hk3, if_false] at h8; omega
  · unfold Fd.long at h9 ⊢
    rw [← h3]
    split <;> rename_i hk
    · simp [hk] at h9; omega
    · simp only [hk, if_false] at h9; omega
theorem Fd.least_has (f : Fd) : f.Right ↔ f.Has ⟨f.least, ⟨#[]⟩⟩ := by
  constructor
  · intro h
    have hs := h.span
    refine ⟨h, ?_, ?_⟩
    · unfold Fd.least; rw [if_pos h]; simp only; omega
    · show ((0 : Nat) : Int) ≤ _; omega
  · exact fun h => h.1
theorem Fd.wider_self (f : Fd) : f.Right ↔ f.Wider f := ⟨fun h => ⟨h, h, rfl, Int.le_refl _, Int.le_refl _, Int.le_refl _⟩, fun h => h.1⟩
end Go.Proofs.Ytegeeobfamjjpaa.field
/- Counts of seven bits a byte, numbers with a sign and words as bytes: what is written, and how it is read. No condition. -/
namespace Go.Proofs.Ytegeeobfamjjpaa.pen
set_option linter.unusedVariables false

/-- the bytes of a count -/
def vb (x : Nat) : List Nat := if h : x < 128 then [x] else (128 + x % 128) :: vb (x / 128)
  termination_by x
  decreasing_by omega
theorem vb_small {x : Nat} (h : x < 128) : vb x = [x] := by rw [vb, dif_pos h]
theorem vb_big {x : Nat} (h : ¬ x < 128) : vb x = (128 + x % 128) :: vb (x / 128) := by rw [vb, dif_neg h]
theorem vb_lt (x : Nat) : ∀ c ∈ vb x, c < 256 := by
  induction x using Nat.strongRecOn with
  | _ x ih =>
    intro c hc
    by_cases h : x < 128
    · rw [vb_small h, List.mem_singleton] at hc; omega
    · rw [vb_big h] at hc
      rcases List.mem_cons.1 hc with rfl | hc
      · omega
      · exact ih _ (by omega) c hc
theorem vb_pos (x : Nat) : 0 < (vb x).length := by
  by_cases h : x < 128
  · rw [vb_small h]; simp
  · rw [vb_big h]; simp
theorem vb_len : ∀ (k x : Nat), x < 128 ^ (k + 1) → (vb x).length ≤ k + 1
  | 0, x, h => by rw [vb_small (by simpa using h)]; simp
  | k + 1, x, h => by
    by_cases h1 : x < 128
    · rw [vb_small h1]; simp
    · have := vb_len k (x / 128) (by rw [Nat.pow_succ] at h; omega)
      rw [vb_big h1, List.length_cons]; omega
theorem vb_ten (x : Nat) (h : x < 18446744073709551616) : (vb x).length ≤ 10 := vb_len 9 x (by omega)

/-- the value of the groups, how many bytes, and the error: 4 another form, 5 it ends -/
def grp : Nat → Nat → List Nat → Nat × Nat × Nat
  | _, _, [] => (0, 0, 5)
  | i, u, c :: r => if i = 9 ∧ 1 < c then (0, 0, 4) else if 0 < i ∧ c = 0 then (0, 0, 4) else if c < 128 then (u + c * 128 ^ i, i + 1, 0) else grp (i + 1) (u + (c - 128) * 128 ^ i) r
theorem grp_vb (x : Nat) : ∀ (i u : Nat) (r : List Nat), i ≤ 9 → x * 128 ^ i < 18446744073709551616 → (i = 0 ∨ 0 < x) → grp i u (vb x ++ r) = (u + x * 128 ^ i, i + (vb x).length, 0) := by
  induction x using Nat.strongRecOn with
  | _ x ih =>
    intro i u r hi hx h0
    by_cases h : x < 128
    · rw [vb_small h, List.singleton_append, grp]
      rw [if_neg, if_neg, if_pos h]
      · rfl
      · omega
      · rintro ⟨rfl, h1⟩; omega
    · have hi9 : i ≠ 9 := by rintro rfl; omega
      have hp : x * 128 ^ i = (x % 128) * 128 ^ i + (x / 128) * 128 ^ (i + 1) := by
        rw [Nat.pow_succ, Nat.mul_comm (128 ^ i) 128, ← Nat.mul_assoc, ← Nat.add_mul]
        congr 1; omega
      rw [vb_big h, List.cons_append, grp, if_neg (by omega), if_neg (by omega), if_neg (by omega), ih (x / 128) (by omega) (i + 1) _ r (by omega) (by omega) (by omega)]
      rw [List.length_cons, show 128 + x % 128 - 128 = x % 128 by omega, hp]
      congr 1
      · omega
      · congr 1; omega
theorem grp_of_vb (x : Nat) (h : x < 18446744073709551616) (r : List Nat) : grp 0 0 (vb x ++ r) = (x, (vb x).length, 0) := by
  rw [grp_vb x 0 0 r (by omega) (by simpa using h) (.inl rfl)]; simp
/-- what grp may answer -/
def GrpOk (i n : Nat) (a : Nat × Nat × Nat) : Prop := a.1 < 18446744073709551616 ∧ (a.2.2 = 0 → a.2.1 ≤ i + n) ∧ a.2.1 ≤ 10 ∧ (a.2.2 = 0 ∨ a.2.2 = 4 ∨ a.2.2 = 5)
theorem grp_ok : ∀ (l : List Nat) (i u : Nat), i ≤ 9 → u < 128 ^ i → (∀ c ∈ l, c < 256) → GrpOk i l.length (grp i u l)
  | [], i, u, hi, hu, hl => ⟨by simp [grp], by simp [grp], by simp [grp], by simp [grp]⟩
  | c :: r, i, u, hi, hu, hl => by
    have hc := hl c (by simp)
    unfold grp
    split
    · exact ⟨by simp, by simp, by simp, by simp⟩
    · split
      · exact ⟨by simp, by simp, by simp, by simp⟩
      · rename_i h1 h2
        split
        · rename_i h3
          refine ⟨?_, fun _ => by simp only [List.length_cons]; omega, by show i + 1 ≤ 10; omega, by simp⟩
          show u + c * 128 ^ i < 18446744073709551616
          by_cases h9 : i = 9
          · subst h9
            have : c ≤ 1 := by omega
            have : c * 128 ^ 9 ≤ 1 * 128 ^ 9 := Nat.mul_le_mul_right _ this
            omega
          · have hle : (c + 1) * 128 ^ i ≤ 128 * 128 ^ i := Nat.mul_le_mul_right _ (by omega)
            rw [Nat.add_mul] at hle
            have h8 : 128 * 128 ^ i ≤ 128 ^ 9 := by rw [Nat.mul_comm, ← Nat.pow_succ]; exact Nat.pow_le_pow_right (by omega) (by omega)
            omega
        · rename_i h3
          have h9 : i ≠ 9 := by rintro rfl; omega
          have hle : (c - 128 + 1) * 128 ^ i ≤ 128 * 128 ^ i := Nat.mul_le_mul_right _ (by omega)
          rw [Nat.add_mul] at hle
          have := grp_ok r (i + 1) (u + (c - 128) * 128 ^ i) (by omega) (by rw [Nat.pow_succ, Nat.mul_comm (128 ^ i) 128]; omega) (fun d hd => hl d (by simp [hd]))
          exact ⟨this.1, fun h => by have := this.2.1 h; simp only [List.length_cons]; omega, this.2.2.1, this.2.2.2⟩

/-- the number of a number with its sign, and back -/
def zig (n : Int) : Nat := if n < 0 then (2 * (-n - 1) + 1).toNat else (2 * n).toNat
def unzig (u : Nat) : Int := if u % 2 = 1 then -((u / 2 : Nat) : Int) - 1 else ((u / 2 : Nat) : Int)
theorem unzig_zig (n : Int) : unzig (zig n) = n := by
  unfold zig unzig
  split
  · rw [if_pos (by omega)]; omega
  · rw [if_neg (by omega)]; omega
theorem zig_lt (n : Int) (h1 : -9223372036854775808 ≤ n) (h2 : n ≤ 9223372036854775807) : zig n < 18446744073709551616 := by
  unfold zig; split <;> omega
/-- the bytes of a word -/
def wb (x : Nat) : List Nat := [x / 16777216, x / 65536 % 256, x / 256 % 256, x % 256]
theorem wb_lt (x : Nat) (h : x < 4294967296) : ∀ c ∈ wb x, c < 256 := by
  intro c hc
  simp only [wb, List.mem_cons, List.not_mem_nil, or_false] at hc
  omega
/-- bytes as a number -/
def folded (l : List Nat) : Nat := l.foldl (fun x b => 256 * x + b) 0
theorem folded_wb (x : Nat) (h : x < 4294967296) : folded (wb x) = x := by
  simp only [folded, wb, List.foldl_cons, List.foldl_nil]; omega
theorem folded_one (x : Nat) : folded [x] = x := by simp [folded]
theorem folded_snoc (l : List Nat) (x : Nat) : folded (l ++ [x]) = 256 * folded l + x := by simp [folded]
theorem folded_lt : ∀ (n : Nat) (l : List Nat), l.length = n → (∀ c ∈ l, c < 256) → folded l < 256 ^ n := by
  intro n
  induction n with
  | zero => intro l h _; obtain rfl := List.eq_nil_of_length_eq_zero h; simp [folded]
  | succ n ih =>
    intro l h hl
    have hne : l ≠ [] := by intro e; rw [e] at h; simp at h
    rw [← List.dropLast_concat_getLast hne, folded_snoc]
    have h1 := ih l.dropLast (by simp [h]) (fun c hc => hl c ((List.dropLast_sublist l).subset hc))
    have h2 := hl _ (List.getLast_mem hne)
    rw [Nat.pow_succ]; omega
/-- the bytes of a string, as numbers -/
def nums (s : List UInt8) : List Nat := s.map UInt8.toNat
theorem nums_lt (s : List UInt8) : ∀ c ∈ nums s, c < 256 := by
  intro c hc
  obtain ⟨b, _, rfl⟩ := List.mem_map.1 hc
  exact b.toNat_lt
theorem nums_len (s : List UInt8) : (nums s).length = s.length := by simp [nums]

/-- a piece: kind, number, text -/
abbrev Piece := Int × Int × List UInt8
/-- what the document writes for a piece -/
def enc (p : Piece) : List Nat :=
  if p.1 = 0 then [(p.2.1 % 256).toNat] else if p.1 = 1 then (if p.2.1 < 0 then [] else vb p.2.1.toNat) else if p.1 = 2 then vb (zig p.2.1) else if p.1 = 3 then wb (p.2.1 % 4294967296).toNat
  else vb p.2.2.length ++ nums p.2.2
def encs (l : List Piece) : List Nat := (l.map enc).flatten
/-- a count that is negative -/
def ill (p : Piece) : Bool := p.1 == 1 && decide (p.2.1 < 0)
theorem enc_lt (p : Piece) : ∀ c ∈ enc p, c < 256 := by
  intro c hc
  unfold enc at hc
  split at hc
  · rw [List.mem_singleton] at hc; omega
  · split at hc
    · split at hc
      · cases hc
      · exact vb_lt _ c hc
    · split at hc
      · exact vb_lt _ c hc
      · split at hc
        · exact wb_lt _ (by omega) c hc
        · rcases List.mem_append.1 hc with h | h
          · exact vb_lt _ c h
          · exact nums_lt _ c h

/-! the reading: what was not read, and the first error -/
abbrev Sight := List Nat × Nat
def eNext (n : Nat) (s : Sight) : List Nat × Sight := if s.2 ≠ 0 then ([], s) else if s.1.length < n then ([], (s.1, 5)) else (s.1.take n, (s.1.drop n, 0))
def eNum (n : Nat) (s : Sight) : Nat × Sight := (folded (eNext n s).1, (eNext n s).2)
def eVar (fits most : Nat) (s : Sight) : Nat × Sight :=
  if s.2 ≠ 0 then (0, s) else if (grp 0 0 s.1).2.2 ≠ 0 then (0, (s.1, (grp 0 0 s.1).2.2)) else if fits < (grp 0 0 s.1).1 then (0, (s.1, 4)) else if most < (grp 0 0 s.1).1 then (0, (s.1, 7))
  else ((grp 0 0 s.1).1, (s.1.drop (grp 0 0 s.1).2.1, 0))
def eCount (most : Int) (s : Sight) : Nat × Sight := eVar 9223372036854775807 (max most 0).toNat s
def eInt (s : Sight) : Int × Sight := (unzig (eVar 18446744073709551615 18446744073709551615 s).1, (eVar 18446744073709551615 18446744073709551615 s).2)
def eText (most : Int) (s : Sight) : List Nat × Sight :=
  ((eNext (eCount most s).1 (eCount most s).2).1, if (eNext (eCount most s).1 (eCount most s).2).2.2 ≠ 0 then (s.1, (eNext (eCount most s).1 (eCount most s).2).2.2) else (eNext (eCount most s).1 (eCount most s).2).2)
def eEnd (s : Sight) : Nat := if s.2 = 0 ∧ 0 < s.1.length then 6 else s.2
theorem eNext_lt {n : Nat} {s : Sight} (h : ∀ c ∈ s.1, c < 256) : ∀ c ∈ (eNext n s).1, c < 256 := by
  unfold eNext
  split
  · intro c hc; cases hc
  · split
    · intro c hc; cases hc
    · intro c hc; exact h c (List.mem_of_mem_take hc)
theorem eNext_len (n : Nat) (s : Sight) : (eNext n s).1.length ≤ n := by
  unfold eNext
  split
  · exact Nat.zero_le _
  · split
    · exact Nat.zero_le _
    · rw [List.length_take]; exact Nat.min_le_left _ _
theorem eNum_lt (n : Nat) (s : Sight) (h : ∀ c ∈ s.1, c < 256) (hn : n ≤ 4) : (eNum n s).1 < 4294967296 := by
  have h1 := folded_lt _ _ rfl (eNext_lt (n := n) h)
  have h2 := eNext_len n s
  have h3 : 256 ^ (eNext n s).1.length ≤ 256 ^ 4 := Nat.pow_le_pow_right (by omega) (by omega)
  unfold eNum
  show folded _ < _
  omega
theorem eNum_one (s : Sight) (h : ∀ c ∈ s.1, c < 256) : (eNum 1 s).1 < 256 := by
  have h1 := folded_lt _ _ rfl (eNext_lt (n := 1) h)
  have h2 := eNext_len 1 s
  have h3 : 256 ^ (eNext 1 s).1.length ≤ 256 ^ 1 := Nat.pow_le_pow_right (by omega) (by omega)
  unfold eNum
  show folded _ < _
  omega
theorem grp_ok0 (l : List Nat) (h : ∀ c ∈ l, c < 256) : GrpOk 0 l.length (grp 0 0 l) := grp_ok l 0 0 (by omega) (by simp) h
theorem eVar_le (fits most : Nat) (s : Sight) : (eVar fits most s).1 ≤ fits ∧ (eVar fits most s).1 ≤ most := by
  unfold eVar
  split
  · exact ⟨Nat.zero_le _, Nat.zero_le _⟩
  · split
    · exact ⟨Nat.zero_le _, Nat.zero_le _⟩
    · split
      · exact ⟨Nat.zero_le _, Nat.zero_le _⟩
      · split
        · exact ⟨Nat.zero_le _, Nat.zero_le _⟩
        · exact ⟨by omega, by omega⟩

/-! there and back -/
theorem eNext_enc (n : Nat) (a r : List Nat) (h : a.length = n) : eNext n (a ++ r, 0) = (a, (r, 0)) := by
  subst h
  simp [eNext]
theorem eVar_vb (fits most x : Nat) (r : List Nat) (h : x < 18446744073709551616) (h1 : x ≤ fits) (h2 : x ≤ most) : eVar fits most (vb x ++ r, 0) = (x, (r, 0)) := by
  unfold eVar
  rw [if_neg (by simp)]
  show (if (grp 0 0 (vb x ++ r)).2.2 ≠ 0 then _ else _) = _
  rw [grp_of_vb x h r]
  simp only [ne_eq, not_true_eq_false, if_false]
  rw [if_neg (by omega), if_neg (by omega)]
  simp
end Go.Proofs.Ytegeeobfamjjpaa.pen
/- Forms and schemas by plain lists: when they are right, what they are as bytes, how bytes are read. No condition. -/
namespace Go.Proofs.Ytegeeobfamjjpaa.schema
open Go.RowKit Go.Proofs.Ytegeeobfamjjpaa.pen
set_option linter.unusedVariables false

instance : DecidableEq field.Fd := fun a b =>
  if h : a.id = b.id ∧ a.kind = b.kind ∧ a.lo = b.lo ∧ a.hi = b.hi ∧ a.most = b.most then isTrue (by cases a; cases b; simp_all) else isFalse (by rintro rfl; simp at h)
abbrev Form := Int × List field.Fd
def Fm.p (f : Fm) : Form := (f.id, f.fL)
def forms (F : List Fm) : List Form := F.map Fm.p
theorem forms_length (F : List Fm) : (forms F).length = F.length := List.length_map _
theorem forms_at {F : List Fm} {i : Nat} {p : Fm} (h : F[i]? = some p) : (forms F)[i]? = some p.p := by simp [forms, h]
def size (L : List field.Fd) : Nat := (L.map field.Fd.size).sum
def ids (L : List field.Fd) : List Int := L.map field.Fd.id
def FineF (L : List field.Fd) : Prop := (∀ f ∈ L, f.Right) ∧ (ids L).Nodup
instance (L : List field.Fd) : Decidable (FineF L) := by unfold FineF; infer_instance
def Fine (p : Form) : Prop := (0 ≤ p.1 ∧ p.1 ≤ 200) ∧ (1 ≤ p.2.length ∧ p.2.length ≤ 8) ∧ FineF p.2 ∧ size p.2 ≤ 64
instance (p : Form) : Decidable (Fine p) := by unfold Fine; infer_instance
def FineS (F : List Form) : Prop := (∀ p ∈ F, Fine p) ∧ (F.map (·.1)).Pairwise (· < ·)
instance (F : List Form) : Decidable (FineS F) := by unfold FineS; infer_instance
def Right (v : Int) (F : List Form) : Prop := (1 ≤ v ∧ v ≤ 65535) ∧ F.length ≤ 8 ∧ FineS F
instance (v : Int) (F : List Form) : Decidable (Right v F) := by unfold Right; infer_instance

theorem fd_size_le (f : field.Fd) : f.size ≤ 33 := by
  have := @field.wide_le
  unfold field.Fd.size
  split
  · rename_i h
    split
    · unfold field.Fd.Right at h; omega
    · exact Nat.le_trans (this _) (by omega)
  · omega
theorem size_le (L : List field.Fd) : size L ≤ 33 * L.length := by
  induction L with
  | nil => simp [size]
  | cons f L ih =>
    have := fd_size_le f
    simp only [size, List.map_cons, List.sum_cons, List.length_cons] at ih ⊢
    omega
theorem take_succ_at {α : Type} {L : List α} {k : Nat} {x : α} (h : L[k]? = some x) : L.take (k + 1) = L.take k ++ [x] := by
  rw [List.take_add_one, h]; rfl
theorem size_succ {L : List field.Fd} {k : Nat} {x : field.Fd} (h : L[k]? = some x) : size (L.take (k + 1)) = size (L.take k) + x.size := by
  rw [take_succ_at h]; simp [size]
theorem size_take (L : List field.Fd) (k : Nat) : size (L.take k) ≤ 33 * k := by
  have := size_le (L.take k)
  simp at this
  omega
/-- the fields, one by one -/
theorem FineF.nil : FineF [] := ⟨by simp, by simp [ids]⟩
theorem fineF_succ {L : List field.Fd} {k : Nat} {x : field.Fd} (h : L[k]? = some x) : FineF (L.take (k + 1)) ↔ FineF (L.take k) ∧ x.Right ∧ x.id ∉ ids (L.take k) := by
  rw [take_succ_at h]
  unfold FineF ids
  simp only [List.map_append, List.map_cons, List.map_nil, List.nodup_append, List.mem_append, List.mem_singleton]
  constructor
  · rintro ⟨h1, h2, h3, h4⟩
    refine ⟨⟨fun f hf => h1 f (.inl hf), h2⟩, h1 x (.inr rfl), fun hm => h4 _ hm _ rfl rfl⟩
  · rintro ⟨⟨h1, h2⟩, h3, h4⟩
    refine ⟨fun f hf => hf.elim (h1 f) (fun e => e ▸ h3), h2, by simp, fun a ha b hb e => h4 (by rw [← hb, ← e]; exact ha)⟩
theorem fineF_take {L : List field.Fd} (h : FineF L) (k : Nat) : FineF (L.take k) :=
  ⟨fun f hf => h.1 f (List.mem_of_mem_take hf), by unfold ids; rw [List.map_take]; exact h.2.sublist (List.take_sublist _ _)⟩
theorem fineF_no {L : List field.Fd} {k : Nat} {x : field.Fd} (h : L[k]? = some x) (hn : ¬ (x.Right ∧ x.id ∉ ids (L.take k))) : ¬ FineF L := fun hf => hn ((fineF_succ h).1 (fineF_take hf _)).2
/-- the forms, one by one -/
theorem FineS.nil : FineS [] := ⟨by simp, by simp⟩
theorem fineS_succ {F : List Form} {k : Nat} {x : Form} (h : F[k]? = some x) : FineS (F.take (k + 1)) ↔ FineS (F.take k) ∧ Fine x ∧ ∀ p ∈ F.take k, p.1 < x.1 := by
  rw [take_succ_at h]
  unfold FineS
  simp only [List.map_append, List.map_cons, List.map_nil, List.pairwise_append, List.mem_append, List.mem_singleton, List.mem_map]
  constructor
  · rintro ⟨h1, h2, h3, h4⟩
    exact ⟨⟨fun f hf => h1 f (.inl hf), h2⟩, h1 x (.inr rfl), fun p hp => h4 _ ⟨p, hp, rfl⟩ _ rfl⟩
  · rintro ⟨⟨h1, h2⟩, h3, h4⟩
    exact ⟨fun f hf => hf.elim (h1 f) (fun e => e ▸ h3), h2, by simp, by rintro a ⟨p, hp, rfl⟩ b rfl; exact h4 p hp⟩
theorem fineS_take {F : List Form} (h : FineS F) (k : Nat) : FineS (F.take k) :=
  ⟨fun f hf => h.1 f (List.mem_of_mem_take hf), by rw [List.map_take]; exact h.2.sublist (List.take_sublist _ _)⟩
theorem fineS_no {F : List Form} {k : Nat} {x : Form} (h : F[k]? = some x) (hn : ¬ (Fine x ∧ ∀ p ∈ F.take k, p.1 < x.1)) : ¬ FineS F := fun hf => hn ((fineS_succ h).1 (fineS_take hf _)).2
/-- the last before k decides -/
theorem rise {F : List Form} {k : Nat} {y x : Form} (hy : F[k]? = some y) (hk : FineS (F.take (k + 1))) : (∀ p ∈ F.take (k + 1), p.1 < x.1) ↔ y.1 < x.1 := by
  have h1 := (fineS_succ hy).1 hk
  rw [take_succ_at hy]
  constructor
  · intro h; exact h y (by simp)
  · intro h p hp
    rcases List.mem_append.1 hp with h2 | h2
    · have := h1.2.2 p h2; omega
    · obtain rfl := List.mem_singleton.1 h2; exact h

/-! bytes -/
def fieldB (f : field.Fd) : List Nat := vb f.id.toNat ++ vb f.kind.toNat ++ (if f.kind = 1 then vb (zig f.lo) ++ vb (zig f.hi) else if f.kind = 3 ∨ f.kind = 4 then vb f.most.toNat else [])
def fieldsB (L : List field.Fd) : List Nat := (L.map fieldB).flatten
def formB (p : Form) : List Nat := vb p.1.toNat ++ vb p.2.length ++ fieldsB p.2
def formsB (F : List Form) : List Nat := (F.map formB).flatten
def schemaB (v : Int) (F : List Form) : List Nat := vb v.toNat ++ vb F.length ++ formsB F
theorem fieldsB_succ {L : List field.Fd} {k : Nat} {x : field.Fd} (h : L[k]? = some x) : fieldsB (L.take (k + 1)) = fieldsB (L.take k) ++ fieldB x := by
  rw [take_succ_at h]; simp [fieldsB]
theorem formsB_succ {F : List Form} {k : Nat} {x : Form} (h : F[k]? = some x) : formsB (F.take (k + 1)) = formsB (F.take k) ++ formB x := by
  rw [take_succ_at h]; simp [formsB]
theorem right_span {f : field.Fd} (h : f.Right) : (0 ≤ f.id ∧ f.id ≤ 255) ∧ (1 ≤ f.kind ∧ f.kind ≤ 4) ∧ (-1099511627776 ≤ f.lo ∧ f.lo ≤ 1099511627776) ∧ (-1099511627776 ≤ f.hi ∧ f.hi ≤ 1099511627776) ∧ (0 ≤ f.most ∧ f.most ≤ 1000) := by
  unfold field.Fd.Right at h; omega
theorem fieldB_len {f : field.Fd} (h : f.Right) : (fieldB f).length ≤ 40 := by
  have hs := right_span h
  have h1 := vb_ten f.id.toNat (by omega)
  have h2 := vb_ten f.kind.toNat (by omega)
  have h3 := vb_ten (zig f.lo) (zig_lt _ (by omega) (by omega))
  have h4 := vb_ten (zig f.hi) (zig_lt _ (by omega) (by omega))
  have h5 := vb_ten f.most.toNat (by omega)
  unfold fieldB
  split <;> (try split) <;> simp only [List.length_append, List.length_nil] <;> omega
theorem fieldsB_len {L : List field.Fd} (h : ∀ f ∈ L, f.Right) : (fieldsB L).length ≤ 40 * L.length := by
  induction L with
  | nil => simp [fieldsB]
  | cons f L ih =>
    have h1 := fieldB_len (h f (by simp))
    have h2 := ih (fun g hg => h g (by simp [hg]))
    simp only [fieldsB, List.map_cons, List.flatten_cons, List.length_append, List.length_cons] at h2 ⊢
    omega
theorem formB_len {p : Form} (h : Fine p) : (formB p).length ≤ 340 := by
  have h1 := vb_ten p.1.toNat (by have := h.1; omega)
  have h2 := vb_ten p.2.length (by have := h.2.1; omega)
  have h3 := fieldsB_len h.2.2.1.1
  have := h.2.1
  simp only [formB, List.length_append]
  omega
theorem formsB_len {F : List Form} (h : ∀ p ∈ F, Fine p) : (formsB F).length ≤ 340 * F.length := by
  induction F with
  | nil => simp [formsB]
  | cons f L ih =>
    have h1 := formB_len (h f (by simp))
    have h2 := ih (fun g hg => h g (by simp [hg]))
    simp only [formsB, List.map_cons, List.flatten_cons, List.length_append, List.length_cons] at h2 ⊢
    omega
/-! reading -/
def takeF (s : Sight) : field.Fd × Sight :=
  let a := eCount 255 s
  let k := eCount 4 a.2
  if k.1 = 1 then let l := eInt k.2; let h := eInt l.2; (⟨a.1, 1, l.1, h.1, 0⟩, h.2)
  else if k.1 = 3 ∨ k.1 = 4 then let m := eCount 1000 k.2; (⟨a.1, k.1, 0, 0, m.1⟩, m.2)
  else (⟨a.1, k.1, 0, 0, 0⟩, k.2)
def takeFs : Nat → Sight → List field.Fd × Sight
  | 0, s => ([], s)
  | n + 1, s => ((takeFs n s).1 ++ [(takeF (takeFs n s).2).1], (takeF (takeFs n s).2).2)
def takeFm (s : Sight) : Form × Sight :=
  let a := eCount 200 s
  let n := eCount 8 a.2
  let r := takeFs n.1 n.2
  (((a.1 : Int), r.1), r.2)
def takeFms : Nat → Sight → List Form × Sight
  | 0, s => ([], s)
  | n + 1, s => ((takeFms n s).1 ++ [(takeFm (takeFms n s).2).1], (takeFm (takeFms n s).2).2)
theorem takeFs_len (n : Nat) (s : Sight) : (takeFs n s).1.length = n := by
  induction n with
  | zero => rfl
  | succ n ih => simp [takeFs, ih]
theorem takeFms_len (n : Nat) (s : Sight) : (takeFms n s).1.length = n := by
  induction n with
  | zero => rfl
  | succ n ih => simp [takeFms, ih]
/-- what is read of bytes, before it is checked -/
def readV (xs : List Nat) : Nat × Sight := eCount 65535 (xs, 0)
def readN (xs : List Nat) : Nat × Sight := eCount 8 (readV xs).2
def readF (xs : List Nat) : List Form × Sight := takeFms (readN xs).1 (readN xs).2
/-- the schema of bytes, and the error -/
def parsed (xs : List Nat) : Int × List Form × Nat :=
  if eEnd (readF xs).2 ≠ 0 then (0, [], eEnd (readF xs).2)
  else if Right (readV xs).1 (readF xs).1 then ((readV xs).1, (readF xs).1, 0)
  else (0, [], 2)
end Go.Proofs.Ytegeeobfamjjpaa.schema
/- Records by plain lists: which belong to a form, what they are as bytes, how bytes are read. No condition. -/
namespace Go.Proofs.Ytegeeobfamjjpaa.record
open Go.RowKit
open Go.Proofs.Ytegeeobfamjjpaa.field (Va bytesOf strOf_bytes)
open Go.Proofs.Ytegeeobfamjjpaa.schema (Fine size take_succ_at)
set_option linter.unusedVariables false

instance : DecidableEq Va := fun a b =>
  if h : a.n = b.n ∧ a.s.toList = b.s.toList then isTrue (by
    obtain ⟨n, ⟨⟨s⟩⟩⟩ := a
    obtain ⟨m, ⟨⟨t⟩⟩⟩ := b
    obtain ⟨h1, h2⟩ := h
    simp only at h1 h2
    rw [ByteArray.toList_eq, ByteArray.toList_eq] at h2
    simp only at h2
    subst h1 h2; rfl) else isFalse (by rintro rfl; simp at h)
theorem va_eq {n m : Int} {s t : ByteArray} : (⟨n, s⟩ : Va) = ⟨m, t⟩ ↔ n = m ∧ s.toList = t.toList := by
  constructor
  · intro h; cases h; exact ⟨rfl, rfl⟩
  · rintro ⟨rfl, h⟩
    obtain ⟨⟨s⟩⟩ := s
    obtain ⟨⟨t⟩⟩ := t
    rw [ByteArray.toList_eq, ByteArray.toList_eq] at h
    simp only at h
    subst h; rfl

/-- value by value -/
def HasL : List field.Fd → List Va → Prop
  | [], [] => True
  | f :: L, v :: V => f.Has v ∧ HasL L V
  | [], _ :: _ => False
  | _ :: _, [] => False
instance decHasL : ∀ L V, Decidable (HasL L V)
  | [], [] => .isTrue trivial
  | f :: L, v :: V => by unfold HasL; have := decHasL L V; infer_instance
  | [], _ :: _ => .isFalse id
  | _ :: _, [] => .isFalse id
theorem HasL.length : ∀ {L : List field.Fd} {V : List Va}, HasL L V → L.length = V.length
  | [], [], _ => rfl
  | f :: L, v :: V, h => by simp [HasL.length h.2]
theorem hasL_take : ∀ {L : List field.Fd} {V : List Va} {k : Nat} {f : field.Fd} {v : Va}, L[k]? = some f → V[k]? = some v → (HasL (L.take (k + 1)) (V.take (k + 1)) ↔ HasL (L.take k) (V.take k) ∧ f.Has v)
  | [], _, k, f, v, h, _ => by simp at h
  | _ :: _, [], k, f, v, _, h => by simp at h
  | g :: L, u :: V, 0, f, v, h, h' => by
    simp at h h'
    subst h h'
    simp [HasL]
  | g :: L, u :: V, k + 1, f, v, h, h' => by
    have := hasL_take (L := L) (V := V) (k := k) (by simpa using h) (by simpa using h')
    simp only [List.take_succ_cons, HasL, this]
    exact and_assoc.symm
theorem HasL.at : ∀ {L : List field.Fd} {V : List Va} {k : Nat} {f : field.Fd} {v : Va}, HasL L V → L[k]? = some f → V[k]? = some v → f.Has v
  | [], _, k, f, v, _, h, _ => by simp at h
  | _ :: _, [], k, f, v, _, _, h => by simp at h
  | g :: L, u :: V, 0, f, v, hh, h, h' => by
    simp at h h'
    subst h h'
    exact hh.1
  | g :: L, u :: V, k + 1, f, v, hh, h, h' => hh.2.at (k := k) (by simpa using h) (by simpa using h')
/-- the record of the values V with the number j belongs to the form of the fields L with the number i -/
def Has (i : Int) (L : List field.Fd) (j : Int) (V : List Va) : Prop := Fine (i, L) ∧ j = i ∧ HasL L V
instance (i : Int) (L : List field.Fd) (j : Int) (V : List Va) : Decidable (Has i L j V) := by unfold Has; infer_instance
theorem fine_len {i : Int} {L : List field.Fd} (h : Fine (i, L)) : L.length ≤ 8 := h.2.1.2
theorem fine_right {i : Int} {L : List field.Fd} (h : Fine (i, L)) : ∀ f ∈ L, f.Right := h.2.2.1.1

/-- the values' bytes -/
def layL : List field.Fd → List Va → List Nat
  | f :: L, v :: V => f.layB v ++ layL L V
  | [], _ => []
  | _ :: _, [] => []
theorem layL_nil (V : List Va) : layL [] V = [] := by cases V <;> rfl
theorem layL_take : ∀ {L : List field.Fd} {V : List Va} {k : Nat} {f : field.Fd} {v : Va}, L[k]? = some f → V[k]? = some v → layL (L.take (k + 1)) (V.take (k + 1)) = layL (L.take k) (V.take k) ++ f.layB v
  | [], _, k, f, v, h, _ => by simp at h
  | _ :: _, [], k, f, v, _, h => by simp at h
  | g :: L, u :: V, 0, f, v, h, h' => by
    simp at h h'
    subst h h'
    simp [layL]
  | g :: L, u :: V, k + 1, f, v, h, h' => by
    have := layL_take (L := L) (V := V) (k := k) (by simpa using h) (by simpa using h')
    simp only [List.take_succ_cons, layL, this, List.append_assoc]
theorem layL_lt : ∀ (L : List field.Fd) (V : List Va), ∀ x ∈ layL L V, x < 256
  | [], V, x, h => by rw [layL_nil] at h; simp at h
  | _ :: _, [], x, h => by simp [layL] at h
  | f :: L, v :: V, x, h => by
    rw [layL, List.mem_append] at h
    rcases h with h | h
    · exact f.layB_lt v x h
    · exact layL_lt L V x h
theorem layB_le (f : field.Fd) (v : Va) : (f.layB v).length ≤ f.size := by
  by_cases h : f.Has v
  · exact (field.Fd.take_lay h []).2
  · rw [show f.layB v = [] by unfold field.Fd.layB; rw [if_pos h]]; exact Nat.zero_le _
theorem layL_le : ∀ (L : List field.Fd) (V : List Va), (layL L V).length ≤ size L
  | [], V => by rw [layL_nil]; exact Nat.zero_le _
  | _ :: _, [] => Nat.zero_le _
  | f :: L, v :: V => by
    have h1 := layB_le f v
    have h2 := layL_le L V
    rw [layL, List.length_append]
    unfold size at h2 ⊢
    rw [List.map_cons, List.sum_cons]
    omega
theorem layL_small (L : List field.Fd) (V : List Va) : (layL L V).length ≤ 33 * L.length := Nat.le_trans (layL_le L V) (schema.size_le L)
/-- what Lay answers -/
def layE (i : Int) (L : List field.Fd) (j : Int) (V : List Va) : Int := if ¬ Fine (i, L) then 2 else if ¬ (j = i ∧ HasL L V) then 16 else 0
def layB (i : Int) (L : List field.Fd) (j : Int) (V : List Va) : List Nat := if Has i L j V then layL L V else []

/-- the values that bytes hold, what is left of them, the error -/
def takeL : List field.Fd → List Nat → List Va × List Nat × Int
  | [], xs => ([], xs, 0)
  | f :: L, xs => if (f.take xs).e = 0 then (⟨(f.take xs).n, strOf (f.take xs).s⟩ :: (takeL L (xs.drop (f.take xs).c)).1, (takeL L (xs.drop (f.take xs).c)).2) else ([], xs, (f.take xs).e)
theorem takeL_step {L : List field.Fd} {k : Nat} {f : field.Fd} {xs : List Nat} (h : L[k]? = some f) (he : (f.take xs).e = 0) :
    takeL (L.drop k) xs = (⟨(f.take xs).n, strOf (f.take xs).s⟩ :: (takeL (L.drop (k + 1)) (xs.drop (f.take xs).c)).1, (takeL (L.drop (k + 1)) (xs.drop (f.take xs).c)).2) := by
  obtain ⟨hk, hf⟩ := List.getElem?_eq_some_iff.1 h
  rw [List.drop_eq_getElem_cons hk, hf, takeL, if_pos he]
theorem takeL_stop {L : List field.Fd} {k : Nat} {f : field.Fd} {xs : List Nat} (h : L[k]? = some f) (he : (f.take xs).e ≠ 0) : takeL (L.drop k) xs = ([], xs, (f.take xs).e) := by
  obtain ⟨hk, hf⟩ := List.getElem?_eq_some_iff.1 h
  rw [List.drop_eq_getElem_cons hk, hf, takeL, if_neg he]
theorem takeL_end (L : List field.Fd) (xs : List Nat) : takeL (L.drop L.length) xs = ([], xs, 0) := by rw [List.drop_length]; rfl
theorem takeL_len : ∀ (L : List field.Fd) (xs : List Nat), (takeL L xs).1.length ≤ L.length
  | [], _ => Nat.le_refl _
  | f :: L, xs => by
    rw [takeL]
    split
    · have := takeL_len L (xs.drop (f.take xs).c); simp; omega
    · simp
/-- what Take answers for a fine form: the form's number, the values, the error -/
def fin (i : Int) (t : List Va × List Nat × Int) : Int × List Va × Int := if t.2.2 ≠ 0 then (0, [], t.2.2) else if t.2.1.length ≠ 0 then (0, [], 6) else (i, t.1, 0)
/-- the values gathered so far ahead of what is still read -/
def onto (V : List Va) (t : List Va × List Nat × Int) : List Va × List Nat × Int := (V ++ t.1, t.2)
theorem onto_nil (t : List Va × List Nat × Int) : onto [] t = t := rfl
theorem onto_step {L : List field.Fd} {k : Nat} {f : field.Fd} {xs : List Nat} (V : List Va) (h : L[k]? = some f) (he : (f.take xs).e = 0) :
    onto V (takeL (L.drop k) xs) = onto (V ++ [⟨(f.take xs).n, strOf (f.take xs).s⟩]) (takeL (L.drop (k + 1)) (xs.drop (f.take xs).c)) := by
  rw [takeL_step h he]; simp [onto]
theorem fin_stop {L : List field.Fd} {k : Nat} {f : field.Fd} {xs : List Nat} (i : Int) (V : List Va) (h : L[k]? = some f) (he : (f.take xs).e ≠ 0) : fin i (onto V (takeL (L.drop k) xs)) = (0, [], (f.take xs).e) := by
  rw [takeL_stop h he]; exact if_pos he
theorem fin_rest {L : List field.Fd} {xs : List Nat} (i : Int) (V : List Va) (h : xs.length ≠ 0) : fin i (onto V (takeL (L.drop L.length) xs)) = (0, [], 6) := by
  rw [takeL_end]; exact (if_neg (fun k => k rfl)).trans (if_pos h)
theorem fin_end {L : List field.Fd} {xs : List Nat} (i : Int) (V : List Va) (h : xs.length = 0) : fin i (onto V (takeL (L.drop L.length) xs)) = (i, V, 0) := by
  rw [takeL_end]; refine ((if_neg (fun k => k rfl)).trans (if_neg (fun k => k h))).trans ?_; show (i, V ++ [], (0 : Int)) = _; rw [List.append_nil]
def takeR (i : Int) (L : List field.Fd) (xs : List Nat) : Int × List Va × Int := if ¬ Fine (i, L) then (0, [], 2) else fin i (takeL L xs)

/-- what was written is read again -/
theorem take_lay : ∀ {L : List field.Fd} {V : List Va} (more : List Nat), HasL L V → takeL L (layL L V ++ more) = (V, more, 0)
  | [], [], more, _ => rfl
  | f :: L, v :: V, more, h => by
    obtain ⟨h1, h2⟩ := h
    have ht := (field.Fd.take_lay h1 (layL L V ++ more)).1
    rw [layL, List.append_assoc, takeL, ht]
    simp only [if_true]
    rw [List.drop_left, take_lay more h2, strOf_bytes]
/-- what was read has the bytes that were read -/
theorem lay_take : ∀ {L : List field.Fd} {xs : List Nat}, (∀ x ∈ xs, x < 256) → (takeL L xs).2.2 = 0 → HasL L (takeL L xs).1 ∧ xs = layL L (takeL L xs).1 ++ (takeL L xs).2.1
  | [], xs, _, _ => ⟨trivial, by simp [takeL, layL]⟩
  | f :: L, xs, hx, h => by
    by_cases he : (f.take xs).e = 0
    · obtain ⟨h1, h2, h3⟩ := field.Fd.lay_take hx he
      rw [takeL, if_pos he] at h ⊢
      simp only at h ⊢
      obtain ⟨h4, h5⟩ := lay_take (fun x hm => hx x (List.mem_of_mem_drop hm)) h
      refine ⟨⟨h1, h4⟩, ?_⟩
      rw [layL, h3, List.append_assoc, ← h5, List.take_append_drop]
    · rw [takeL, if_neg he] at h
      exact absurd h he
/-- the errors of reading -/
theorem takeL_left : ∀ (L : List field.Fd) (xs : List Nat), ∃ n, (takeL L xs).2.1 = xs.drop n
  | [], xs => ⟨0, rfl⟩
  | f :: L, xs => by
    rw [takeL]
    split
    · obtain ⟨n, hn⟩ := takeL_left L (xs.drop (f.take xs).c)
      exact ⟨(f.take xs).c + n, by simp only; rw [hn, List.drop_drop]⟩
    · exact ⟨0, rfl⟩
theorem takeR_back {i : Int} {L : List field.Fd} {j : Int} {V : List Va} (h : Has i L j V) : takeR i L (layL L V) = (j, V, 0) := by
  obtain ⟨h1, rfl, h2⟩ := h
  have := take_lay [] h2
  rw [List.append_nil] at this
  unfold takeR
  rw [if_neg (fun k => k h1), this]
  rfl
theorem takeR_there {i : Int} {L : List field.Fd} {xs : List Nat} {j : Int} {V : List Va} (hx : ∀ x ∈ xs, x < 256) (h : takeR i L xs = (j, V, 0)) : Has i L j V ∧ layL L V = xs := by
  unfold takeR at h
  by_cases hf : Fine (i, L)
  · rw [if_neg (fun k => k hf)] at h
    unfold fin at h
    split at h
    · rename_i h0
      exact absurd (Prod.mk.inj (Prod.mk.inj h).2).2 h0
    · split at h
      · have := (Prod.mk.inj (Prod.mk.inj h).2).2
        simp at this
      · rename_i h0 h1
        have h0' : (takeL L xs).2.2 = 0 := Classical.byContradiction h0
        obtain ⟨k1, k2⟩ := lay_take hx h0'
        obtain ⟨rfl, hv, _⟩ : i = j ∧ (takeL L xs).1 = V ∧ True := ⟨(Prod.mk.inj h).1, (Prod.mk.inj (Prod.mk.inj h).2).1, trivial⟩
        rw [List.eq_nil_of_length_eq_zero (Nat.le_zero.1 (Nat.not_lt.1 (fun k => h1 (Nat.ne_of_gt k)))), List.append_nil] at k2
        exact ⟨⟨hf, rfl, hv ▸ k1⟩, by rw [← hv]; exact k2.symm⟩
  · rw [if_pos hf] at h
    have := (Prod.mk.inj (Prod.mk.inj h).2).2
    simp at this
end Go.Proofs.Ytegeeobfamjjpaa.record
