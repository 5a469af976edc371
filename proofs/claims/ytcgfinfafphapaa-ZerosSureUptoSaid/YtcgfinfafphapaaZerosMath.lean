/- Lists of words whose bits went up: their sum tells. Plain lists, no condition. -/
import Derived.Test.YtcgfinfafphapaaZerosCount
namespace Go.Proofs.Ytcgfinfafphapaa.zeros
open Go.RowKit Go.Proofs.Ytcgfinfafphapaa.word
set_option linter.unusedVariables false

/-- words with the bits of other words set, place by place -/
def orL : List Nat → List Nat → List Nat
  | x :: s, y :: u => (x ||| y) :: orL s u
  | s, _ => s
theorem orL_nil (s : List Nat) : orL s [] = s := by cases s <;> rfl
theorem orL_length (s u : List Nat) : (orL s u).length = s.length := by
  induction s generalizing u with
  | nil => cases u <;> rfl
  | cons x s ih => cases u with
    | nil => rfl
    | cons y u => simp [orL, ih]
theorem orL_lt (s u : List Nat) (hs : ∀ x ∈ s, x < 4294967296) (hu : ∀ x ∈ u, x < 4294967296) : ∀ x ∈ orL s u, x < 4294967296 := by
  induction s generalizing u with
  | nil => cases u <;> simp [orL]
  | cons x s ih => cases u with
    | nil => simpa [orL] using hs
    | cons y u =>
      intro z hz
      simp only [orL, List.mem_cons] at hz
      rcases hz with rfl | hz
      · exact Nat.or_lt_two_pow (n := 32) (hs x (by simp)) (hu y (by simp))
      · exact ih u (fun a h => hs a (by simp [h])) (fun a h => hu a (by simp [h])) z hz
theorem orL_getD (s u : List Nat) (k : Nat) (hk : k < s.length) : (orL s u).getD k 0 = s.getD k 0 ||| u.getD k 0 := by
  induction s generalizing u k with
  | nil => simp at hk
  | cons x s ih => cases u with
    | nil => simp [orL]
    | cons y u => cases k with
      | zero => simp [orL]
      | succ k => simpa [orL] using ih u k (by simpa using hk)
theorem orL_take_succ (s u : List Nat) (k : Nat) (hk : k < s.length) (hu : k < u.length) : orL s (u.take (k + 1)) = (orL s (u.take k)).set k (s.getD k 0 ||| u.getD k 0) := by
  induction s generalizing u k with
  | nil => simp at hk
  | cons x s ih => cases u with
    | nil => simp at hu
    | cons y u => cases k with
      | zero => simp [orL, orL_nil]
      | succ k => simpa [orL] using ih u k (by simpa using hk) (by simpa using hu)
theorem orL_take_getD (s u : List Nat) (k : Nat) (hk : k < s.length) : (orL s (u.take k)).getD k 0 = s.getD k 0 := by
  rw [orL_getD s _ k hk]
  have : (u.take k).getD k 0 = 0 := by
    rw [List.getD_eq_getElem?_getD, List.getElem?_eq_none (by simp; omega)]; rfl
  rw [this]; simp
theorem orL_take_all (s u : List Nat) (k : Nat) (hk : s.length ≤ k) : orL s (u.take k) = orL s u := by
  induction s generalizing u k with
  | nil => cases u.take k <;> cases u <;> rfl
  | cons x s ih => cases u with
    | nil => simp
    | cons y u => cases k with
      | zero => simp at hk
      | succ k => simpa [orL] using ih u k (by simpa using hk)
theorem set_eq_iff (a s : List Nat) (k v : Nat) (hk : k < s.length) (hl : a.length = s.length) (ha : a.getD k 0 = s.getD k 0) : a.set k v = s ↔ a = s ∧ v = s.getD k 0 := by
  constructor
  · intro h
    have hv : s.getD k 0 = v := by rw [← h, List.getD_eq_getElem?_getD, List.getElem?_set_self (by omega)]; rfl
    refine ⟨?_, hv.symm⟩
    rw [← h]
    apply List.ext_getElem?
    intro i
    by_cases hi : i = k
    · subst hi
      rw [List.getElem?_set_self (by omega), ← hv, ← ha, List.getD_eq_getElem?_getD, List.getElem?_eq_getElem (by omega)]; rfl
    · rw [List.getElem?_set_ne (by omega)]
  · rintro ⟨rfl, rfl⟩
    rw [List.getD_eq_getElem?_getD, List.getElem?_eq_getElem hk]
    simp
theorem onesN_or (k a u : Nat) : onesN k a ≤ onesN k (a ||| u) ∧ (onesN k (a ||| u) = onesN k a → (a ||| u) % 2 ^ k = a % 2 ^ k) := by
  induction k generalizing a u with
  | zero => simp [onesN, Nat.mod_one]
  | succ k ih =>
    have h1 : (a ||| u) % 2 = a % 2 ||| u % 2 := Nat.or_mod_two_pow (n := 1)
    have h2 : (a ||| u) / 2 = a / 2 ||| u / 2 := Nat.or_div_two_pow (n := 1)
    have h3 : a % 2 ≤ a % 2 ||| u % 2 := Nat.left_le_or
    obtain ⟨i1, i2⟩ := ih (a / 2) (u / 2)
    have e1 : (a ||| u) % 2 ^ (k + 1) = (a ||| u) % 2 + 2 * ((a ||| u) / 2 % 2 ^ k) := by
      rw [Nat.pow_succ, Nat.mul_comm (2 ^ k) 2]; exact Nat.mod_mul
    have e2 : a % 2 ^ (k + 1) = a % 2 + 2 * (a / 2 % 2 ^ k) := by
      rw [Nat.pow_succ, Nat.mul_comm (2 ^ k) 2]; exact Nat.mod_mul
    simp only [onesN]
    rw [e1, e2, h2]
    refine ⟨by omega, fun h => ?_⟩
    rw [i2 (by omega)]
    omega
theorem ones_or (a u : Nat) (ha : a < 4294967296) (hu : u < 4294967296) : ones a ≤ ones (a ||| u) ∧ (ones (a ||| u) = ones a → a ||| u = a) := by
  obtain ⟨h1, h2⟩ := onesN_or 32 a u
  refine ⟨h1, fun h => ?_⟩
  have h3 := h2 h
  rwa [Nat.mod_eq_of_lt (Nat.or_lt_two_pow (n := 32) ha hu), Nat.mod_eq_of_lt ha] at h3
theorem zcount_or (s u : List Nat) (hs : ∀ x ∈ s, x < 4294967296) (hu : ∀ x ∈ u, x < 4294967296) : zcount (orL s u) ≤ zcount s ∧ (zcount (orL s u) = zcount s → orL s u = s) := by
  induction s generalizing u with
  | nil => cases u <;> simp [orL]
  | cons x s ih => cases u with
    | nil => simp [orL]
    | cons y u =>
      obtain ⟨i1, i2⟩ := ih u (fun a h => hs a (by simp [h])) (fun a h => hu a (by simp [h]))
      obtain ⟨o1, o2⟩ := ones_or x y (hs x (by simp)) (hu y (by simp))
      have l1 := ones_le x
      have l2 := ones_le (x ||| y)
      simp only [orL, zcount]
      refine ⟨by omega, fun h => ?_⟩
      rw [i2 (by omega), o2 (by omega)]
theorem orL_snoc (s : List Nat) (z : Nat) (u : List Nat) : orL (s ++ [z]) u = orL s u ++ [z ||| u.getD s.length 0] := by
  induction s generalizing u with
  | nil => cases u with
    | nil => simp [orL]
    | cons y u => cases u <;> simp [orL]
  | cons x s ih => cases u with
    | nil => simp [orL]
    | cons y u => simp [orL, ih]
theorem rightB_snoc (s : List Nat) (z : Nat) : rightB (s ++ [z]) = (z == zcount s) := by
  unfold rightB
  simp [List.getD_eq_getElem?_getD]
/-- sealed words whose bits went up are right only if none did -/
theorem sure (xs u : List Nat) (hs : ∀ x ∈ xs, x < 4294967296) (hu : ∀ x ∈ u, x < 4294967296) :
    rightB (orL (xs ++ [zcount xs]) u) = decide (orL (xs ++ [zcount xs]) u = xs ++ [zcount xs]) := by
  rw [orL_snoc, rightB_snoc, Bool.eq_iff_iff]
  obtain ⟨z1, z2⟩ := zcount_or xs u hs hu
  have l : zcount xs ≤ zcount xs ||| u.getD xs.length 0 := Nat.left_le_or
  generalize zcount xs ||| u.getD xs.length 0 = y at *
  simp only [beq_iff_eq, decide_eq_true_eq]
  constructor
  · intro h
    rw [z2 (by omega), show y = zcount xs by omega]
  · intro h
    obtain ⟨h1, h2⟩ := List.append_inj h (by rw [orL_length])
    simp only [List.cons.injEq, and_true] at h2
    rw [h1, h2]
end Go.Proofs.Ytcgfinfafphapaa.zeros
