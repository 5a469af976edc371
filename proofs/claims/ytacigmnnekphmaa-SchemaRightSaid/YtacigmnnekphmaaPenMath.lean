/- Counts of seven bits a byte, numbers with a sign and words as bytes: what is written, and how it is read. No condition. -/
import Derived.Test.YtacigmnnekphmaaKit
namespace Go.Proofs.Ytacigmnnekphmaa.pen
set_option linter.unusedVariables false

/-- the bytes of a count -/
def vb (x : Nat) : List Nat := if h : x < 128 then [x] else (128 + x % 128) :: vb (x / 128)
  termination_by x
  decreasing_by omega
theorem vb_small {x : Nat} (h : x < 128) : vb x = [x] := by rw [vb, dif_pos h]
theorem vb_big {x : Nat} (h : ¬ x < 128) : vb x = (128 + x % 128) :: vb (x / 128) := by rw [vb, dif_neg h]
theorem vb_lt (x : Nat) : ∀ c ∈ vb x, c < 256 := by
  induction x using Nat.strongRecOn with
  | _ x ih =>
    intro c hc
    by_cases h : x < 128
    · rw [vb_small h, List.mem_singleton] at hc; omega
    · rw [vb_big h] at hc
      rcases List.mem_cons.1 hc with rfl | hc
      · omega
      · exact ih _ (by omega) c hc
theorem vb_pos (x : Nat) : 0 < (vb x).length := by
  by_cases h : x < 128
  · rw [vb_small h]; simp
  · rw [vb_big h]; simp
theorem vb_len : ∀ (k x : Nat), x < 128 ^ (k + 1) → (vb x).length ≤ k + 1
  | 0, x, h => by rw [vb_small (by simpa using h)]; simp
  | k + 1, x, h => by
    by_cases h1 : x < 128
    · rw [vb_small h1]; simp
    · have := vb_len k (x / 128) (by rw [Nat.pow_succ] at h; omega)
      rw [vb_big h1, List.length_cons]; omega
theorem vb_ten (x : Nat) (h : x < 18446744073709551616) : (vb x).length ≤ 10 := vb_len 9 x (by omega)

/-- the value of the groups, how many bytes, and the error: 4 another form, 5 it ends -/
def grp : Nat → Nat → List Nat → Nat × Nat × Nat
  | _, _, [] => (0, 0, 5)
  | i, u, c :: r => if i = 9 ∧ 1 < c then (0, 0, 4) else if 0 < i ∧ c = 0 then (0, 0, 4) else if c < 128 then (u + c * 128 ^ i, i + 1, 0) else grp (i + 1) (u + (c - 128) * 128 ^ i) r
theorem grp_vb (x : Nat) : ∀ (i u : Nat) (r : List Nat), i ≤ 9 → x * 128 ^ i < 18446744073709551616 → (i = 0 ∨ 0 < x) → grp i u (vb x ++ r) = (u + x * 128 ^ i, i + (vb x).length, 0) := by
  induction x using Nat.strongRecOn with
  | _ x ih =>
    intro i u r hi hx h0
    by_cases h : x < 128
    · rw [vb_small h, List.singleton_append, grp]
      rw [if_neg, if_neg, if_pos h]
      · rfl
      · omega
      · rintro ⟨rfl, h1⟩; omega
    · have hi9 : i ≠ 9 := by rintro rfl; omega
      have hp : x * 128 ^ i = (x % 128) * 128 ^ i + (x / 128) * 128 ^ (i + 1) := by
        rw [Nat.pow_succ, Nat.mul_comm (128 ^ i) 128, ← Nat.mul_assoc, ← Nat.add_mul]
        congr 1; omega
      rw [vb_big h, List.cons_append, grp, if_neg (by omega), if_neg (by omega), if_neg (by omega), ih (x / 128) (by omega) (i + 1) _ r (by omega) (by omega) (by omega)]
      rw [List.length_cons, show 128 + x % 128 - 128 = x % 128 by omega, hp]
      congr 1
      · omega
      · congr 1; omega
theorem grp_of_vb (x : Nat) (h : x < 18446744073709551616) (r : List Nat) : grp 0 0 (vb x ++ r) = (x, (vb x).length, 0) := by
  rw [grp_vb x 0 0 r (by omega) (by simpa using h) (.inl rfl)]; simp
/-- what grp may answer -/
def GrpOk (i n : Nat) (a : Nat × Nat × Nat) : Prop := a.1 < 18446744073709551616 ∧ (a.2.2 = 0 → a.2.1 ≤ i + n) ∧ a.2.1 ≤ 10 ∧ (a.2.2 = 0 ∨ a.2.2 = 4 ∨ a.2.2 = 5)
theorem grp_ok : ∀ (l : List Nat) (i u : Nat), i ≤ 9 → u < 128 ^ i → (∀ c ∈ l, c < 256) → GrpOk i l.length (grp i u l)
  | [], i, u, hi, hu, hl => ⟨by simp [grp], by simp [grp], by simp [grp], by simp [grp]⟩
  | c :: r, i, u, hi, hu, hl => by
    have hc := hl c (by simp)
    unfold grp
    split
    · exact ⟨by simp, by simp, by simp, by simp⟩
    · split
      · exact ⟨by simp, by simp, by simp, by simp⟩
      · rename_i h1 h2
        split
        · rename_i h3
          refine ⟨?_, fun _ => by simp only [List.length_cons]; omega, by show i + 1 ≤ 10; omega, by simp⟩
          show u + c * 128 ^ i < 18446744073709551616
          by_cases h9 : i = 9
          · subst h9
            have : c ≤ 1 := by omega
            have : c * 128 ^ 9 ≤ 1 * 128 ^ 9 := Nat.mul_le_mul_right _ this
            omega
          · have hle : (c + 1) * 128 ^ i ≤ 128 * 128 ^ i := Nat.mul_le_mul_right _ (by omega)
            rw [Nat.add_mul] at hle
            have h8 : 128 * 128 ^ i ≤ 128 ^ 9 := by rw [Nat.mul_comm, ← Nat.pow_succ]; exact Nat.pow_le_pow_right (by omega) (by omega)
            omega
        · rename_i h3
          have h9 : i ≠ 9 := by rintro rfl; omega
          have hle : (c - 128 + 1) * 128 ^ i ≤ 128 * 128 ^ i := Nat.mul_le_mul_right _ (by omega)
          rw [Nat.add_mul] at hle
          have := grp_ok r (i + 1) (u + (c - 128) * 128 ^ i) (by omega) (by rw [Nat.pow_succ, Nat.mul_comm (128 ^ i) 128]; omega) (fun d hd => hl d (by simp [hd]))
          exact ⟨this.1, fun h => by have := this.2.1 h; simp only [List.length_cons]; omega, this.2.2.1, this.2.2.2⟩

/-- the number of a number with its sign, and back -/
def zig (n : Int) : Nat := if n < 0 then (2 * (-n - 1) + 1).toNat else (2 * n).toNat
def unzig (u : Nat) : Int := if u % 2 = 1 then -((u / 2 : Nat) : Int) - 1 else ((u / 2 : Nat) : Int)
theorem unzig_zig (n : Int) : unzig (zig n) = n := by
  unfold zig unzig
  split
  · rw [if_pos (by omega)]; omega
  · rw [if_neg (by omega)]; omega
theorem zig_lt (n : Int) (h1 : -9223372036854775808 ≤ n) (h2 : n ≤ 9223372036854775807) : zig n < 18446744073709551616 := by
  unfold zig; split <;> omega
/-- the bytes of a word -/
def wb (x : Nat) : List Nat := [x / 16777216, x / 65536 % 256, x / 256 % 256, x % 256]
theorem wb_lt (x : Nat) (h : x < 4294967296) : ∀ c ∈ wb x, c < 256 := by
  intro c hc
  simp only [wb, List.mem_cons, List.not_mem_nil, or_false] at hc
  omega
/-- bytes as a number -/
def folded (l : List Nat) : Nat := l.foldl (fun x b => 256 * x + b) 0
theorem folded_wb (x : Nat) (h : x < 4294967296) : folded (wb x) = x := by
  simp only [folded, wb, List.foldl_cons, List.foldl_nil]; omega
theorem folded_one (x : Nat) : folded [x] = x := by simp [folded]
theorem folded_snoc (l : List Nat) (x : Nat) : folded (l ++ [x]) = 256 * folded l + x := by simp [folded]
theorem folded_lt : ∀ (n : Nat) (l : List Nat), l.length = n → (∀ c ∈ l, c < 256) → folded l < 256 ^ n := by
  intro n
  induction n with
  | zero => intro l h _; obtain rfl := List.eq_nil_of_length_eq_zero h; simp [folded]
  | succ n ih =>
    intro l h hl
    have hne : l ≠ [] := by intro e; rw [e] at h; simp at h
    rw [← List.dropLast_concat_getLast hne, folded_snoc]
    have h1 := ih l.dropLast (by simp [h]) (fun c hc => hl c ((List.dropLast_sublist l).subset hc))
    have h2 := hl _ (List.getLast_mem hne)
    rw [Nat.pow_succ]; omega
/-- the bytes of a string, as numbers -/
def nums (s : List UInt8) : List Nat := s.map UInt8.toNat
theorem nums_lt (s : List UInt8) : ∀ c ∈ nums s, c < 256 := by
  intro c hc
  obtain ⟨b, _, rfl⟩ := List.mem_map.1 hc
  exact b.toNat_lt
theorem nums_len (s : List UInt8) : (nums s).length = s.length := by simp [nums]

/-- a piece: kind, number, text -/
abbrev Piece := Int × Int × List UInt8
/-- what the document writes for a piece -/
def enc (p : Piece) : List Nat :=
  if p.1 = 0 then [(p.2.1 % 256).toNat] else if p.1 = 1 then (if p.2.1 < 0 then [] else vb p.2.1.toNat) else if p.1 = 2 then vb (zig p.2.1) else if p.1 = 3 then wb (p.2.1 % 4294967296).toNat
  else vb p.2.2.length ++ nums p.2.2
def encs (l : List Piece) : List Nat := (l.map enc).flatten
/-- a count that is negative -/
def ill (p : Piece) : Bool := p.1 == 1 && decide (p.2.1 < 0)
theorem enc_lt (p : Piece) : ∀ c ∈ enc p, c < 256 := by
  intro c hc
  unfold enc at hc
  split at hc
  · rw [List.mem_singleton] at hc; omega
  · split at hc
    · split at hc
      · cases hc
      · exact vb_lt _ c hc
    · split at hc
      · exact vb_lt _ c hc
      · split at hc
        · exact wb_lt _ (by omega) c hc
        · rcases List.mem_append.1 hc with h | h
          · exact vb_lt _ c h
          · exact nums_lt _ c h

/-! the reading: what was not read, and the first error -/
abbrev Sight := List Nat × Nat
def eNext (n : Nat) (s : Sight) : List Nat × Sight := if s.2 ≠ 0 then ([], s) else if s.1.length < n then ([], (s.1, 5)) else (s.1.take n, (s.1.drop n, 0))
def eNum (n : Nat) (s : Sight) : Nat × Sight := (folded (eNext n s).1, (eNext n s).2)
def eVar (fits most : Nat) (s : Sight) : Nat × Sight :=
  if s.2 ≠ 0 then (0, s) else if (grp 0 0 s.1).2.2 ≠ 0 then (0, (s.1, (grp 0 0 s.1).2.2)) else if fits < (grp 0 0 s.1).1 then (0, (s.1, 4)) else if most < (grp 0 0 s.1).1 then (0, (s.1, 7))
  else ((grp 0 0 s.1).1, (s.1.drop (grp 0 0 s.1).2.1, 0))
def eCount (most : Int) (s : Sight) : Nat × Sight := eVar 9223372036854775807 (max most 0).toNat s
def eInt (s : Sight) : Int × Sight := (unzig (eVar 18446744073709551615 18446744073709551615 s).1, (eVar 18446744073709551615 18446744073709551615 s).2)
def eText (most : Int) (s : Sight) : List Nat × Sight :=
  ((eNext (eCount most s).1 (eCount most s).2).1, if (eNext (eCount most s).1 (eCount most s).2).2.2 ≠ 0 then (s.1, (eNext (eCount most s).1 (eCount most s).2).2.2) else (eNext (eCount most s).1 (eCount most s).2).2)
def eEnd (s : Sight) : Nat := if s.2 = 0 ∧ 0 < s.1.length then 6 else s.2
theorem eNext_lt {n : Nat} {s : Sight} (h : ∀ c ∈ s.1, c < 256) : ∀ c ∈ (eNext n s).1, c < 256 := by
  unfold eNext
  split
  · intro c hc; cases hc
  · split
    · intro c hc; cases hc
    · intro c hc; exact h c (List.mem_of_mem_take hc)
theorem eNext_len (n : Nat) (s : Sight) : (eNext n s).1.length ≤ n := by
  unfold eNext
  split
  · exact Nat.zero_le _
  · split
    · exact Nat.zero_le _
    · rw [List.length_take]; exact Nat.min_le_left _ _
theorem eNum_lt (n : Nat) (s : Sight) (h : ∀ c ∈ s.1, c < 256) (hn : n ≤ 4) : (eNum n s).1 < 4294967296 := by
  have h1 := folded_lt _ _ rfl (eNext_lt (n := n) h)
  have h2 := eNext_len n s
  have h3 : 256 ^ (eNext n s).1.length ≤ 256 ^ 4 := Nat.pow_le_pow_right (by omega) (by omega)
  unfold eNum
  show folded _ < _
  omega
theorem eNum_one (s : Sight) (h : ∀ c ∈ s.1, c < 256) : (eNum 1 s).1 < 256 := by
  have h1 := folded_lt _ _ rfl (eNext_lt (n := 1) h)
  have h2 := eNext_len 1 s
  have h3 : 256 ^ (eNext 1 s).1.length ≤ 256 ^ 1 := Nat.pow_le_pow_right (by omega) (by omega)
  unfold eNum
  show folded _ < _
  omega
theorem grp_ok0 (l : List Nat) (h : ∀ c ∈ l, c < 256) : GrpOk 0 l.length (grp 0 0 l) := grp_ok l 0 0 (by omega) (by simp) h
theorem eVar_le (fits most : Nat) (s : Sight) : (eVar fits most s).1 ≤ fits ∧ (eVar fits most s).1 ≤ most := by
  unfold eVar
  split
  · exact ⟨Nat.zero_le _, Nat.zero_le _⟩
  · split
    · exact ⟨Nat.zero_le _, Nat.zero_le _⟩
    · split
      · exact ⟨Nat.zero_le _, Nat.zero_le _⟩
      · split
        · exact ⟨Nat.zero_le _, Nat.zero_le _⟩
        · exact ⟨by omega, by omega⟩

/-! there and back -/
theorem eNext_enc (n : Nat) (a r : List Nat) (h : a.length = n) : eNext n (a ++ r, 0) = (a, (r, 0)) := by
  subst h
  simp [eNext]
theorem eVar_vb (fits most x : Nat) (r : List Nat) (h : x < 18446744073709551616) (h1 : x ≤ fits) (h2 : x ≤ most) : eVar fits most (vb x ++ r, 0) = (x, (r, 0)) := by
  unfold eVar
  rw [if_neg (by simp)]
  show (if (grp 0 0 (vb x ++ r)).2.2 ≠ 0 then _ else _) = _
  rw [grp_of_vb x h r]
  simp only [ne_eq, not_true_eq_false, if_false]
  rw [if_neg (by omega), if_neg (by omega)]
  simp
end Go.Proofs.Ytacigmnnekphmaa.pen
