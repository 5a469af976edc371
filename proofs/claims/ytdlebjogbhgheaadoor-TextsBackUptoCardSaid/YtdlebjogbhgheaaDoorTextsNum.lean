/- Decimal numerals: what is parsed out of a number's own text is that number. No condition. -/
import Derived.Test.YtdlebjogbhgheaaDoorTextsRefDec
import Derived.Lib.AtoiAll
namespace Go.Proofs.YtdlebjogbhgheaaDoor.texts
open Go.Lib
set_option linter.unusedVariables false

def Fits (n : Int) : Prop := -9223372036854775808 ≤ n ∧ n ≤ 9223372036854775807

theorem dec_step (u : Nat) (h : ¬ u < 10) : decDigits u = decDigits (u / 10) ++ [UInt8.ofNat (48 + u % 10)] := by rw [decDigits, dif_neg h]
theorem ofNat_toNat (x : Nat) (h : x < 256) : (UInt8.ofNat x).toNat = x := by rw [UInt8.toNat_ofNat']; omega
theorem dec_all (u : Nat) : ∀ b ∈ decDigits u, 48 ≤ b.toNat ∧ b.toNat ≤ 57 := by
  induction u using Nat.strongRecOn with
  | _ u ih =>
    intro b hb
    by_cases h : u < 10
    · rw [decDigits_one h, List.mem_singleton] at hb
      subst hb; rw [ofNat_toNat _ (by omega)]; omega
    · rw [dec_step u h, List.mem_append, List.mem_singleton] at hb
      rcases hb with hb | hb
      · exact ih (u / 10) (by omega) b hb
      · subst hb; rw [ofNat_toNat _ (by omega)]; omega
theorem dec_ne (u : Nat) : decDigits u ≠ [] := by
  by_cases h : u < 10
  · rw [decDigits_one h]; simp
  · rw [dec_step u h]; simp

theorem parse_snoc (c : UInt8) : ∀ (l : List UInt8) (acc : Nat), parseUint10 acc (l ++ [c]) = match parseUint10 acc l with | .ok v => parseUint10 v [c] | e => e
  | [], acc => by simp [parseUint10]
  | b :: l, acc => by
    simp only [List.cons_append, parseUint10]
    split
    · split
      · rfl
      · split
        · rfl
        · exact parse_snoc c l _
    · rfl
theorem parse_dec (u : Nat) (hu : u < 18446744073709551616) : parseUint10 0 (decDigits u) = .ok u := by
  induction u using Nat.strongRecOn with
  | _ u ih =>
    by_cases h : u < 10
    · rw [decDigits_one h]
      simp only [parseUint10]
      rw [ofNat_toNat _ (by omega), if_pos (by omega), if_neg (by omega), if_neg (by omega)]
      congr 1; omega
    · rw [dec_step u h, parse_snoc, ih (u / 10) (by omega) (by omega)]
      simp only [parseUint10]
      rw [ofNat_toNat _ (by omega), if_pos (by omega), if_neg (by omega), if_neg (by omega)]
      congr 1; omega
theorem mag_dec (u : Nat) (hu : u < 18446744073709551616) : parseMag (decDigits u) = .ok u := by
  rw [parseMag, if_neg (dec_ne u), parse_dec u hu]
theorem atoi_itoa (m : Int) (h : Fits m) : atoiAll (itoa m) = .ok m := by
  obtain ⟨h1, h2⟩ := h
  by_cases hn : m < 0
  · rw [itoa, if_pos hn]
    have hm := mag_dec m.natAbs (by omega)
    simp only [atoiAll]
    rw [if_pos (Or.inr (by decide)), hm]
    simp only [show (45 : UInt8).toNat = 45 from rfl, not_true_eq_false, false_and, if_false, true_and, if_true]
    rw [if_neg (by omega)]
    congr 1; omega
  · rw [itoa, if_neg hn]
    have hm := mag_dec m.toNat (by omega)
    have hall := dec_all m.toNat
    cases hd : decDigits m.toNat with
    | nil => exact absurd hd (dec_ne _)
    | cons c r =>
      rw [hd] at hm hall
      have hc := hall c (by simp)
      simp only [atoiAll]
      rw [if_neg (by omega), hm]
      have h45 : ¬ c.toNat = 45 := by omega
      simp only [h45, not_false_eq_true, true_and, false_and, if_false]
      rw [if_neg (by omega)]
      congr 1; omega
theorem itoa_inj {m m' : Int} (h : Fits m) (h' : Fits m') (e : itoa m = itoa m') : m = m' := by
  have h1 := atoi_itoa m h
  rw [e, atoi_itoa m' h'] at h1
  injection h1 with h1
  exact h1.symm

/-- n, c is what the text l is read as: the number whose text it is, and 0; or 0 and 4 -/
def NumOf (l : List UInt8) (n c : Int) : Prop := (c = 0 ∧ itoa n = l ∧ Fits n) ∨ (c = 4 ∧ n = 0 ∧ ∀ m, Fits m → itoa m ≠ l)
theorem NumOf.one {l : List UInt8} {n c n' c' : Int} (h : NumOf l n c) (h' : NumOf l n' c') : n = n' ∧ c = c' := by
  rcases h with ⟨rfl, e, f⟩ | ⟨rfl, rfl, f⟩ <;> rcases h' with ⟨rfl, e', f'⟩ | ⟨rfl, rfl, f'⟩
  · exact ⟨itoa_inj f f' (e.trans e'.symm), rfl⟩
  · exact absurd e (f' n f)
  · exact absurd e' (f n' f')
  · exact ⟨rfl, rfl⟩
theorem NumOf.self {n m c : Int} (hn : Fits n) (h : NumOf (itoa n) m c) : m = n ∧ c = 0 := by
  rcases h with ⟨rfl, e, f⟩ | ⟨rfl, rfl, f⟩
  · exact ⟨itoa_inj f hn e, rfl⟩
  · exact absurd rfl (f n hn)
/-- out of the library's own parse -/
theorem NumOf.ok {l : List UInt8} {v : Int} (h : atoiAll l = .ok v) (hf : Fits v) (he : itoa v = l) : NumOf l v 0 := .inl ⟨rfl, he, hf⟩
theorem NumOf.other {l : List UInt8} (h : ∀ m, Fits m → atoiAll l ≠ .ok m ∨ itoa m ≠ l) : NumOf l 0 4 :=
  .inr ⟨rfl, rfl, fun m hm e => by
    rcases h m hm with h1 | h1
    · exact h1 (e ▸ atoi_itoa m hm)
    · exact h1 e⟩
theorem atoi_fits {l : List UInt8} {v : Int} (h : atoiAll l = .ok v) : Fits v := by
  cases l with
  | nil => simp [atoiAll] at h
  | cons c r =>
    simp only [atoiAll] at h
    split at h
    · cases h
    · cases h
    · rename_i u _
      split at h
      · cases h
      · split at h
        · cases h
        · injection h with h
          unfold Fits
          split at h <;> omega
end Go.Proofs.YtdlebjogbhgheaaDoor.texts
