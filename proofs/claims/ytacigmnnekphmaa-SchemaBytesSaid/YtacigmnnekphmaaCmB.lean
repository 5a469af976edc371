/- Contracts and lemmas that the claims of this seat share: PenMath, SchemaMath, Tail, Arr. Each says its own conditions. -/
import Derived.Test.YtacigmnnekphmaaCmA
import Derived.StillTail
import Derived.Deep.RegionHeld3
import Derived.Deep.QuietTactic
import Derived.BigQuiet
import Derived.WalkKit
import Derived.Test.YtacigmnnekphmaaRows
import Derived.Deep.MidRow
import Derived.Deep.WholeRow
import Derived.Laws.OwnMore
/- Counts of seven bits a byte, numbers with a sign and words as bytes: what is written, and how it is read. No condition. -/
namespace Go.Proofs.Ytacigmnnekphmaa.pen
set_option linter.unusedVariables false

/-- the bytes of a count -/
def vb (x : Nat) : List Nat := if h : x < 128 then [x] else (128 + x % 128) :: vb (x / 128)
  termination_by x
  decreasing_by omega
theorem vb_small {x : Nat} (h : x < 128) : vb x = [x] := by rw [vb, dif_pos h]
theorem vb_big {x : Nat} (h : ¬ x < 128) : vb x = (128 + x % 128) :: vb (x / 128) := by rw [vb, dif_neg h]
theorem vb_lt (x : Nat) : ∀ c ∈ vb x, c < 256 := by
  induction x using Nat.strongRecOn with
  | _ x ih =>
    intro c hc
    by_cases h : x < 128
    · rw [vb_small h, List.mem_singleton] at hc; omega
    · rw [vb_big h] at hc
      rcases List.mem_cons.1 hc with rfl | hc
      · omega
      · exact ih _ (by omega) c hc
theorem vb_pos (x : Nat) : 0 < (vb x).length := by
  by_cases h : x < 128
  · rw [vb_small h]; simp
  · rw [vb_big h]; simp
theorem vb_len : ∀ (k x : Nat), x < 128 ^ (k + 1) → (vb x).length ≤ k + 1
  | 0, x, h => by rw [vb_small (by simpa using h)]; simp
  | k + 1, x, h => by
    by_cases h1 : x < 128
    · rw [vb_small h1]; simp
    · have := vb_len k (x / 128) (by rw [Nat.pow_succ] at h; omega)
      rw [vb_big h1, List.length_cons]; omega
theorem vb_ten (x : Nat) (h : x < 18446744073709551616) : (vb x).length ≤ 10 := vb_len 9 x (by omega)

/-- the value of the groups, how many bytes, and the error: 4 another form, 5 it ends -/
def grp : Nat → Nat → List Nat → Nat × Nat × Nat
  | _, _, [] => (0, 0, 5)
  | i, u, c :: r => if i = 9 ∧ 1 < c then (0, 0, 4) else if 0 < i ∧ c = 0 then (0, 0, 4) else if c < 128 then (u + c * 128 ^ i, i + 1, 0) else grp (i + 1) (u + (c - 128) * 128 ^ i) r
theorem grp_vb (x : Nat) : ∀ (i u : Nat) (r : List Nat), i ≤ 9 → x * 128 ^ i < 18446744073709551616 → (i = 0 ∨ 0 < x) → grp i u (vb x ++ r) = (u + x * 128 ^ i, i + (vb x).length, 0) := by
  induction x using Nat.strongRecOn with
  | _ x ih =>
    intro i u r hi hx h0
    by_cases h : x < 128
    · rw [vb_small h, List.singleton_append, grp]
      rw [if_neg, if_neg, if_pos h]
      · rfl
      · omega
      · rintro ⟨rfl, h1⟩; omega
    · have hi9 : i ≠ 9 := by rintro rfl; omega
      have hp : x * 128 ^ i = (x % 128) * 128 ^ i + (x / 128) * 128 ^ (i + 1) := by
        rw [Nat.pow_succ, Nat.mul_comm (128 ^ i) 128, ← Nat.mul_assoc, ← Nat.add_mul]
        congr 1; omega
      rw [vb_big h, List.cons_append, grp, if_neg (by omega), if_neg (by omega), if_neg (by omega), ih (x / 128) (by omega) (i + 1) _ r (by omega) (by omega) (by omega)]
      rw [List.length_cons, show 128 + x % 128 - 128 = x % 128 by omega, hp]
      congr 1
      · omega
      · congr 1; omega
theorem grp_of_vb (x : Nat) (h : x < 18446744073709551616) (r : List Nat) : grp 0 0 (vb x ++ r) = (x, (vb x).length, 0) := by
  rw [grp_vb x 0 0 r (by omega) (by simpa using h) (.inl rfl)]; simp
/-- what grp may answer -/
def GrpOk (i n : Nat) (a : Nat × Nat × Nat) : Prop := a.1 < 18446744073709551616 ∧ (a.2.2 = 0 → a.2.1 ≤ i + n) ∧ a.2.1 ≤ 10 ∧ (a.2.2 = 0 ∨ a.2.2 = 4 ∨ a.2.2 = 5)
theorem grp_ok : ∀ (l : List Nat) (i u : Nat), i ≤ 9 → u < 128 ^ i → (∀ c ∈ l, c < 256) → GrpOk i l.length (grp i u l)
  | [], i, u, hi, hu, hl => ⟨by simp [grp], by simp [grp], by simp [grp], by simp [grp]⟩
  | c :: r, i, u, hi, hu, hl => by
    have hc := hl c (by simp)
    unfold grp
    split
    · exact ⟨by simp, by simp, by simp, by simp⟩
    · split
      · exact ⟨by simp, by simp, by simp, by simp⟩
      · rename_i h1 h2
        split
        · rename_i h3
          refine ⟨?_, fun _ => by simp only [List.length_cons]; omega, by show i + 1 ≤ 10; omega, by simp⟩
          show u + c * 128 ^ i < 18446744073709551616
          by_cases h9 : i = 9
          · subst h9
            have : c ≤ 1 := by omega
            have : c * 128 ^ 9 ≤ 1 * 128 ^ 9 := Nat.mul_le_mul_right _ this
            omega
          · have hle : (c + 1) * 128 ^ i ≤ 128 * 128 ^ i := Nat.mul_le_mul_right _ (by omega)
            rw [Nat.add_mul] at hle
            have h8 : 128 * 128 ^ i ≤ 128 ^ 9 := by rw [Nat.mul_comm, ← Nat.pow_succ]; exact Nat.pow_le_pow_right (by omega) (by omega)
            omega
        · rename_i h3
          have h9 : i ≠ 9 := by rintro rfl; omega
          have hle : (c - 128 + 1) * 128 ^ i ≤ 128 * 128 ^ i := Nat.mul_le_mul_right _ (by omega)
          rw [Nat.add_mul] at hle
          have := grp_ok r (i + 1) (u + (c - 128) * 128 ^ i) (by omega) (by rw [Nat.pow_succ, Nat.mul_comm (128 ^ i) 128]; omega) (fun d hd => hl d (by simp [hd]))
          exact ⟨this.1, fun h => by have := this.2.1 h; simp only [List.length_cons]; omega, this.2.2.1, this.2.2.2⟩

/-- the number of a number with its sign, and back -/
def zig (n : Int) : Nat := if n < 0 then (2 * (-n - 1) + 1).toNat else (2 * n).toNat
def unzig (u : Nat) : Int := if u % 2 = 1 then -((u / 2 : Nat) : Int) - 1 else ((u / 2 : Nat) : Int)
theorem unzig_zig (n : Int) : unzig (zig n) = n := by
  unfold zig unzig
  split
  · rw [if_pos (by omega)]; omega
  · rw [if_neg (by omega)]; omega
theorem zig_lt (n : Int) (h1 : -9223372036854775808 ≤ n) (h2 : n ≤ 9223372036854775807) : zig n < 18446744073709551616 := by
  unfold zig; split <;> omega
/-- the bytes of a word -/
def wb (x : Nat) : List Nat := [x / 16777216, x / 65536 % 256, x / 256 % 256, x % 256]
theorem wb_lt (x : Nat) (h : x < 4294967296) : ∀ c ∈ wb x, c < 256 := by
  intro c hc
  simp only [wb, List.mem_cons, List.not_mem_nil, or_false] at hc
  omega
/-- bytes as a number -/
def folded (l : List Nat) : Nat := l.foldl (fun x b => 256 * x + b) 0
theorem folded_wb (x : Nat) (h : x < 4294967296) : folded (wb x) = x := by
  simp only [folded, wb, List.foldl_cons, List.foldl_nil]; omega
theorem folded_one (x : Nat) : folded [x] = x := by simp [folded]
theorem folded_snoc (l : List Nat) (x : Nat) : folded (l ++ [x]) = 256 * folded l + x := by simp [folded]
theorem folded_lt : ∀ (n : Nat) (l : List Nat), l.length = n → (∀ c ∈ l, c < 256) → folded l < 256 ^ n := by
  intro n
  induction n with
  | zero => intro l h _; obtain rfl := List.eq_nil_of_length_eq_zero h; simp [folded]
  | succ n ih =>
    intro l h hl
    have hne : l ≠ [] := by intro e; rw [e] at h; simp at h
    rw [← List.dropLast_concat_getLast hne, folded_snoc]
    have h1 := ih l.dropLast (by simp [h]) (fun c hc => hl c ((List.dropLast_sublist l).subset hc))
    have h2 := hl _ (List.getLast_mem hne)
    rw [Nat.pow_succ]; omega
/-- the bytes of a string, as numbers -/
def nums (s : List UInt8) : List Nat := s.map UInt8.toNat
theorem nums_lt (s : List UInt8) : ∀ c ∈ nums s, c < 256 := by
  intro c hc
  obtain ⟨b, _, rfl⟩ := List.mem_map.1 hc
  exact b.toNat_lt
theorem nums_len (s : List UInt8) : (nums s).length = s.length := by simp [nums]

/-- a piece: kind, number, text -/
abbrev Piece := Int × Int × List UInt8
/-- what the document writes for a piece -/
def enc (p : Piece) : List Nat :=
  if p.1 = 0 then [(p.2.1 % 256).toNat] else if p.1 = 1 then (if p.2.1 < 0 then [] else vb p.2.1.toNat) else if p.1 = 2 then vb (zig p.2.1) else if p.1 = 3 then wb (p.2.1 % 4294967296).toNat
  else vb p.2.2.length ++ nums p.2.2
def encs (l : List Piece) : List Nat := (l.map enc).flatten
/-- a count that is negative -/
def ill (p : Piece) : Bool := p.1 == 1 && decide (p.2.1 < 0)
theorem enc_lt (p : Piece) : ∀ c ∈ enc p, c < 256 := by
  intro c hc
  unfold enc at hc
  split at hc
  · rw [List.mem_singleton] at hc; omega
  · split at hc
    · split at hc
      · cases hc
      · exact vb_lt _ c hc
    · split at hc
      · exact vb_lt _ c hc
      · split at hc
        · exact wb_lt _ (by omega) c hc
        · rcases List.mem_append.1 hc with h | h
          · exact vb_lt _ c h
          · exact nums_lt _ c h

/-! the reading: what was not read, and the first error -/
abbrev Sight := List Nat × Nat
def eNext (n : Nat) (s : Sight) : List Nat × Sight := if s.2 ≠ 0 then ([], s) else if s.1.length < n then ([], (s.1, 5)) else (s.1.take n, (s.1.drop n, 0))
def eNum (n : Nat) (s : Sight) : Nat × Sight := (folded (eNext n s).1, (eNext n s).2)
def eVar (fits most : Nat) (s : Sight) : Nat × Sight :=
  if s.2 ≠ 0 then (0, s) else if (grp 0 0 s.1).2.2 ≠ 0 then (0, (s.1, (grp 0 0 s.1).2.2)) else if fits < (grp 0 0 s.1).1 then (0, (s.1, 4)) else if most < (grp 0 0 s.1).1 then (0, (s.1, 7))
  else ((grp 0 0 s.1).1, (s.1.drop (grp 0 0 s.1).2.1, 0))
def eCount (most : Int) (s : Sight) : Nat × Sight := eVar 9223372036854775807 (max most 0).toNat s
def eInt (s : Sight) : Int × Sight := (unzig (eVar 18446744073709551615 18446744073709551615 s).1, (eVar 18446744073709551615 18446744073709551615 s).2)
def eText (most : Int) (s : Sight) : List Nat × Sight :=
  ((eNext (eCount most s).1 (eCount most s).2).1, if (eNext (eCount most s).1 (eCount most s).2).2.2 ≠ 0 then (s.1, (eNext (eCount most s).1 (eCount most s).2).2.2) else (eNext (eCount most s).1 (eCount most s).2).2)
def eEnd (s : Sight) : Nat := if s.2 = 0 ∧ 0 < s.1.length then 6 else s.2
theorem eNext_lt {n : Nat} {s : Sight} (h : ∀ c ∈ s.1, c < 256) : ∀ c ∈ (eNext n s).1, c < 256 := by
  unfold eNext
  split
  · intro c hc; cases hc
  · split
    · intro c hc; cases hc
    · intro c hc; exact h c (List.mem_of_mem_take hc)
theorem eNext_len (n : Nat) (s : Sight) : (eNext n s).1.length ≤ n := by
  unfold eNext
  split
  · exact Nat.zero_le _
  · split
    · exact Nat.zero_le _
    · rw [List.length_take]; exact Nat.min_le_left _ _
theorem eNum_lt (n : Nat) (s : Sight) (h : ∀ c ∈ s.1, c < 256) (hn : n ≤ 4) : (eNum n s).1 < 4294967296 := by
  have h1 := folded_lt _ _ rfl (eNext_lt (n := n) h)
  have h2 := eNext_len n s
  have h3 : 256 ^ (eNext n s).1.length ≤ 256 ^ 4 := Nat.pow_le_pow_right (by omega) (by omega)
  unfold eNum
  show folded _ < _
  omega
theorem eNum_one (s : Sight) (h : ∀ c ∈ s.1, c < 256) : (eNum 1 s).1 < 256 := by
  have h1 := folded_lt _ _ rfl (eNext_lt (n := 1) h)
  have h2 := eNext_len 1 s
  have h3 : 256 ^ (eNext 1 s).1.length ≤ 256 ^ 1 := Nat.pow_le_pow_right (by omega) (by omega)
  unfold eNum
  show folded _ < _
  omega
theorem grp_ok0 (l : List Nat) (h : ∀ c ∈ l, c < 256) : GrpOk 0 l.length (grp 0 0 l) := grp_ok l 0 0 (by omega) (by simp) h
theorem eVar_le (fits most : Nat) (s : Sight) : (eVar fits most s).1 ≤ fits ∧ (eVar fits most s).1 ≤ most := by
  unfold eVar
  split
  · exact ⟨Nat.zero_le _, Nat.zero_le _⟩
  · split
    · exact ⟨Nat.zero_le _, Nat.zero_le _⟩
    · split
      · exact ⟨Nat.zero_le _, Nat.zero_le _⟩
      · split
        · exact ⟨Nat.zero_le _, Nat.zero_le _⟩
        · exact ⟨by omega, by omega⟩

/-! there and back -/
theorem eNext_enc (n : Nat) (a r : List Nat) (h : a.length = n) : eNext n (a ++ r, 0) = (a, (r, 0)) := by
  subst h
  simp [eNext]
theorem eVar_vb (fits most x : Nat) (r : List Nat) (h : x < 18446744073709551616) (h1 : x ≤ fits) (h2 : x ≤ most) : eVar fits most (vb x ++ r, 0) = (x, (r, 0)) := by
  unfold eVar
  rw [if_neg (by simp)]
  show (if (grp 0 0 (vb x ++ r)).2.2 ≠ 0 then _ else _) = _
  rw [grp_of_vb x h r]
  simp only [ne_eq, not_true_eq_false, if_false]
  rw [if_neg (by omega), if_neg (by omega)]
  simp
end Go.Proofs.Ytacigmnnekphmaa.pen
/- Forms and schemas by plain lists: when they are right, what they are as bytes, how bytes are read. No condition. -/
namespace Go.Proofs.Ytacigmnnekphmaa.schema
open Go.RowKit Go.Proofs.Ytacigmnnekphmaa.pen
set_option linter.unusedVariables false

instance : DecidableEq field.Fd := fun a b =>
  if h : a.id = b.id ∧ a.kind = b.kind ∧ a.lo = b.lo ∧ a.hi = b.hi ∧ a.most = b.most then isTrue (by cases a; cases b; simp_all) else isFalse (by rintro rfl; simp at h)
abbrev Form := Int × List field.Fd
def Fm.p (f : Fm) : Form := (f.id, f.fL)
def forms (F : List Fm) : List Form := F.map Fm.p
theorem forms_length (F : List Fm) : (forms F).length = F.length := List.length_map _
theorem forms_at {F : List Fm} {i : Nat} {p : Fm} (h : F[i]? = some p) : (forms F)[i]? = some p.p := by simp [forms, h]
def size (L : List field.Fd) : Nat := (L.map field.Fd.size).sum
def ids (L : List field.Fd) : List Int := L.map field.Fd.id
def FineF (L : List field.Fd) : Prop := (∀ f ∈ L, f.Right) ∧ (ids L).Nodup
instance (L : List field.Fd) : Decidable (FineF L) := by unfold FineF; infer_instance
def Fine (p : Form) : Prop := (0 ≤ p.1 ∧ p.1 ≤ 200) ∧ (1 ≤ p.2.length ∧ p.2.length ≤ 8) ∧ FineF p.2 ∧ size p.2 ≤ 64
instance (p : Form) : Decidable (Fine p) := by unfold Fine; infer_instance
def FineS (F : List Form) : Prop := (∀ p ∈ F, Fine p) ∧ (F.map (·.1)).Pairwise (· < ·)
instance (F : List Form) : Decidable (FineS F) := by unfold FineS; infer_instance
def Right (v : Int) (F : List Form) : Prop := (1 ≤ v ∧ v ≤ 65535) ∧ F.length ≤ 8 ∧ FineS F
instance (v : Int) (F : List Form) : Decidable (Right v F) := by unfold Right; infer_instance

theorem fd_size_le (f : field.Fd) : f.size ≤ 33 := by
  have := @field.wide_le
  unfold field.Fd.size
  split
  · rename_i h
    split
    · unfold field.Fd.Right at h; omega
    · exact Nat.le_trans (this _) (by omega)
  · omega
theorem size_le (L : List field.Fd) : size L ≤ 33 * L.length := by
  induction L with
  | nil => simp [size]
  | cons f L ih =>
    have := fd_size_le f
    simp only [size, List.map_cons, List.sum_cons, List.length_cons] at ih ⊢
    omega
theorem take_succ_at {α : Type} {L : List α} {k : Nat} {x : α} (h : L[k]? = some x) : L.take (k + 1) = L.take k ++ [x] := by
  rw [List.take_add_one, h]; rfl
theorem size_succ {L : List field.Fd} {k : Nat} {x : field.Fd} (h : L[k]? = some x) : size (L.take (k + 1)) = size (L.take k) + x.size := by
  rw [take_succ_at h]; simp [size]
theorem size_take (L : List field.Fd) (k : Nat) : size (L.take k) ≤ 33 * k := by
  have := size_le (L.take k)
  simp at this
  omega
/-- the fields, one by one -/
theorem FineF.nil : FineF [] := ⟨by simp, by simp [ids]⟩
theorem fineF_succ {L : List field.Fd} {k : Nat} {x : field.Fd} (h : L[k]? = some x) : FineF (L.take (k + 1)) ↔ FineF (L.take k) ∧ x.Right ∧ x.id ∉ ids (L.take k) := by
  rw [take_succ_at h]
  unfold FineF ids
  simp only [List.map_append, List.map_cons, List.map_nil, List.nodup_append, List.mem_append, List.mem_singleton]
  constructor
  · rintro ⟨h1, h2, h3, h4⟩
    refine ⟨⟨fun f hf => h1 f (.inl hf), h2⟩, h1 x (.inr rfl), fun hm => h4 _ hm _ rfl rfl⟩
  · rintro ⟨⟨h1, h2⟩, h3, h4⟩
    refine ⟨fun f hf => hf.elim (h1 f) (fun e => e ▸ h3), h2, by simp, fun a ha b hb e => h4 (by rw [← hb, ← e]; exact ha)⟩
theorem fineF_take {L : List field.Fd} (h : FineF L) (k : Nat) : FineF (L.take k) :=
  ⟨fun f hf => h.1 f (List.mem_of_mem_take hf), by unfold ids; rw [List.map_take]; exact h.2.sublist (List.take_sublist _ _)⟩
theorem fineF_no {L : List field.Fd} {k : Nat} {x : field.Fd} (h : L[k]? = some x) (hn : ¬ (x.Right ∧ x.id ∉ ids (L.take k))) : ¬ FineF L := fun hf => hn ((fineF_succ h).1 (fineF_take hf _)).2
/-- the forms, one by one -/
theorem FineS.nil : FineS [] := ⟨by simp, by simp⟩
theorem fineS_succ {F : List Form} {k : Nat} {x : Form} (h : F[k]? = some x) : FineS (F.take (k + 1)) ↔ FineS (F.take k) ∧ Fine x ∧ ∀ p ∈ F.take k, p.1 < x.1 := by
  rw [take_succ_at h]
  unfold FineS
  simp only [List.map_append, List.map_cons, List.map_nil, List.pairwise_append, List.mem_append, List.mem_singleton, List.mem_map]
  constructor
  · rintro ⟨h1, h2, h3, h4⟩
    exact ⟨⟨fun f hf => h1 f (.inl hf), h2⟩, h1 x (.inr rfl), fun p hp => h4 _ ⟨p, hp, rfl⟩ _ rfl⟩
  · rintro ⟨⟨h1, h2⟩, h3, h4⟩
    exact ⟨fun f hf => hf.elim (h1 f) (fun e => e ▸ h3), h2, by simp, by rintro a ⟨p, hp, rfl⟩ b rfl; exact h4 p hp⟩
theorem fineS_take {F : List Form} (h : FineS F) (k : Nat) : FineS (F.take k) :=
  ⟨fun f hf => h.1 f (List.mem_of_mem_take hf), by rw [List.map_take]; exact h.2.sublist (List.take_sublist _ _)⟩
theorem fineS_no {F : List Form} {k : Nat} {x : Form} (h : F[k]? = some x) (hn : ¬ (Fine x ∧ ∀ p ∈ F.take k, p.1 < x.1)) : ¬ FineS F := fun hf => hn ((fineS_succ h).1 (fineS_take hf _)).2
/-- the last before k decides -/
theorem rise {F : List Form} {k : Nat} {y x : Form} (hy : F[k]? = some y) (hk : FineS (F.take (k + 1))) : (∀ p ∈ F.take (k + 1), p.1 < x.1) ↔ y.1 < x.1 := by
  have h1 := (fineS_succ hy).1 hk
  rw [take_succ_at hy]
  constructor
  · intro h; exact h y (by simp)
  · intro h p hp
    rcases List.mem_append.1 hp with h2 | h2
    · have := h1.2.2 p h2; omega
    · obtain rfl := List.mem_singleton.1 h2; exact h

/-! bytes -/
def fieldB (f : field.Fd) : List Nat := vb f.id.toNat ++ vb f.kind.toNat ++ (if f.kind = 1 then vb (zig f.lo) ++ vb (zig f.hi) else if f.kind = 3 ∨ f.kind = 4 then vb f.most.toNat else [])
def fieldsB (L : List field.Fd) : List Nat := (L.map fieldB).flatten
def formB (p : Form) : List Nat := vb p.1.toNat ++ vb p.2.length ++ fieldsB p.2
def formsB (F : List Form) : List Nat := (F.map formB).flatten
def schemaB (v : Int) (F : List Form) : List Nat := vb v.toNat ++ vb F.length ++ formsB F
theorem fieldsB_succ {L : List field.Fd} {k : Nat} {x : field.Fd} (h : L[k]? = some x) : fieldsB (L.take (k + 1)) = fieldsB (L.take k) ++ fieldB x := by
  rw [take_succ_at h]; simp [fieldsB]
theorem formsB_succ {F : List Form} {k : Nat} {x : Form} (h : F[k]? = some x) : formsB (F.take (k + 1)) = formsB (F.take k) ++ formB x := by
  rw [take_succ_at h]; simp [formsB]
theorem right_span {f : field.Fd} (h : f.Right) : (0 ≤ f.id ∧ f.id ≤ 255) ∧ (1 ≤ f.kind ∧ f.kind ≤ 4) ∧ (-1099511627776 ≤ f.lo ∧ f.lo ≤ 1099511627776) ∧ (-1099511627776 ≤ f.hi ∧ f.hi ≤ 1099511627776) ∧ (0 ≤ f.most ∧ f.most ≤ 1000) := by
  unfold field.Fd.Right at h; omega
theorem fieldB_len {f : field.Fd} (h : f.Right) : (fieldB f).length ≤ 40 := by
  have hs := right_span h
  have h1 := vb_ten f.id.toNat (by omega)
  have h2 := vb_ten f.kind.toNat (by omega)
  have h3 := vb_ten (zig f.lo) (zig_lt _ (by omega) (by omega))
  have h4 := vb_ten (zig f.hi) (zig_lt _ (by omega) (by omega))
  have h5 := vb_ten f.most.toNat (by omega)
  unfold fieldB
  split <;> (try split) <;> simp only [List.length_append, List.length_nil] <;> omega
theorem fieldsB_len {L : List field.Fd} (h : ∀ f ∈ L, f.Right) : (fieldsB L).length ≤ 40 * L.length := by
  induction L with
  | nil => simp [fieldsB]
  | cons f L ih =>
    have h1 := fieldB_len (h f (by simp))
    have h2 := ih (fun g hg => h g (by simp [hg]))
    simp only [fieldsB, List.map_cons, List.flatten_cons, List.length_append, List.length_cons] at h2 ⊢
    omega
theorem formB_len {p : Form} (h : Fine p) : (formB p).length ≤ 340 := by
  have h1 := vb_ten p.1.toNat (by have := h.1; omega)
  have h2 := vb_ten p.2.length (by have := h.2.1; omega)
  have h3 := fieldsB_len h.2.2.1.1
  have := h.2.1
  simp only [formB, List.length_append]
  omega
theorem formsB_len {F : List Form} (h : ∀ p ∈ F, Fine p) : (formsB F).length ≤ 340 * F.length := by
  induction F with
  | nil => simp [formsB]
  | cons f L ih =>
    have h1 := formB_len (h f (by simp))
    have h2 := ih (fun g hg => h g (by simp [hg]))
    simp only [formsB, List.map_cons, List.flatten_cons, List.length_append, List.length_cons] at h2 ⊢
    omega
/-! reading -/
def takeF (s : Sight) : field.Fd × Sight :=
  let a := eCount 255 s
  let k := eCount 4 a.2
  if k.1 = 1 then let l := eInt k.2; let h := eInt l.2; (⟨a.1, 1, l.1, h.1, 0⟩, h.2)
  else if k.1 = 3 ∨ k.1 = 4 then let m := eCount 1000 k.2; (⟨a.1, k.1, 0, 0, m.1⟩, m.2)
  else (⟨a.1, k.1, 0, 0, 0⟩, k.2)
def takeFs : Nat → Sight → List field.Fd × Sight
  | 0, s => ([], s)
  | n + 1, s => ((takeFs n s).1 ++ [(takeF (takeFs n s).2).1], (takeF (takeFs n s).2).2)
def takeFm (s : Sight) : Form × Sight :=
  let a := eCount 200 s
  let n := eCount 8 a.2
  let r := takeFs n.1 n.2
  (((a.1 : Int), r.1), r.2)
def takeFms : Nat → Sight → List Form × Sight
  | 0, s => ([], s)
  | n + 1, s => ((takeFms n s).1 ++ [(takeFm (takeFms n s).2).1], (takeFm (takeFms n s).2).2)
theorem takeFs_len (n : Nat) (s : Sight) : (takeFs n s).1.length = n := by
  induction n with
  | zero => rfl
  | succ n ih => simp [takeFs, ih]
theorem takeFms_len (n : Nat) (s : Sight) : (takeFms n s).1.length = n := by
  induction n with
  | zero => rfl
  | succ n ih => simp [takeFms, ih]
/-- what is read of bytes, before it is checked -/
def readV (xs : List Nat) : Nat × Sight := eCount 65535 (xs, 0)
def readN (xs : List Nat) : Nat × Sight := eCount 8 (readV xs).2
def readF (xs : List Nat) : List Form × Sight := takeFms (readN xs).1 (readN xs).2
/-- the schema of bytes, and the error -/
def parsed (xs : List Nat) : Int × List Form × Nat :=
  if eEnd (readF xs).2 ≠ 0 then (0, [], eEnd (readF xs).2)
  else if Right (readV xs).1 (readF xs).1 then ((readV xs).1, (readF xs).1, 0)
  else (0, [], 2)
end Go.Proofs.Ytacigmnnekphmaa.schema
/- A region whose order is open: all its operations but the last ones in a forced row only read; one walk in the order of the text serves every order. No condition. -/
namespace Go.Proofs.Ytacigmnnekphmaa.tail
open Go

section
variable {P : Program} {ops : Array Oper} {md : Region.Mode} {C : World → Prop}

def anyL (P : Program) (md : Region.Mode) (ops : Array Oper) (C : World → Prop) (n : Nat) (L : Array Bool → Act → Prop) : Nat → Array Bool → Act → Prop
  | 0, listed, a => L listed a
  | f + 1, listed, a =>
    Region.ready md ops listed ≠ [] ∧ ∀ i ∈ Region.ready md ops listed, i < n ∧ qOp P ops C i (anyL P md ops C n L f (listed.setIfInBounds i true)) a

theorem any_of_head {n g : Nat} {L : Array Bool → Act → Prop} {Q' : Exit → Act → World → Prop} (hL : ∀ listed a w, C w → L listed a → wpAny P md ops Q' g listed a w) :
    ∀ (f : Nat) (listed : Array Bool) (a : Act) (w : World), C w → anyL P md ops C n L f listed a → wpAny P md ops Q' (f + g) listed a w
  | 0, listed, a, w, hw, h => by rw [Nat.zero_add]; exact hL _ _ _ hw h
  | f + 1, listed, a, w, hw, h => by
    rw [show f + 1 + g = (f + g) + 1 by omega]
    exact ⟨fun h0 => absurd h0 h.1, fun i hi => wpOp_of_qOp hw (fun a' w' hw' h' => any_of_head hL f _ a' w' hw' h') (h.2 i hi).2⟩

theorem anyL_first {n i : Nat} {oi : Oper} {v : Value} {L : Array Bool → Act → Prop} (hi : ops[i]? = some oi) (hsel : ∀ (j : Nat) (o : Oper) cs b, ops[j]? = some o → o.op ≠ .select cs b)
    (hs : Region.sinkB md ops n = true) (hc : Region.chainB md ops n = true) (hn : n < ops.size) (hin : i < n)
    (hdone : ∀ listed a, L listed a → ∀ j ∈ Region.ready md ops listed, n ≤ j) :
    ∀ (f : Nat) (listed : Array Bool) (a : Act), HeadInv md ops n listed →
      (∀ j oj, ops[j]? = some oj → j ≠ i → listed.getD j true = false → (∀ e ∈ oj.after, Region.binds md e = true → e.on ≠ i) → oi.apart ops oj = true) →
      i ∈ Region.ready md ops listed → YieldsIn P ops C oi v a →
      anyL P md ops C n L f (listed.setIfInBounds i true) (a.put oi.dst v) → anyL P md ops C n L (f + 1) listed a := by
  intro f
  induction f with
  | zero =>
    intro listed a inv _ hr hy H
    have hun := (mem_ready.1 hr).1
    refine ⟨fun h => (by rw [h] at hr; cases hr), fun j hj => ?_⟩
    have hjn : j < n := by
      rcases Nat.lt_or_ge j n with h | h
      · exact h
      · exact absurd hj (tail_waits hs hc hn inv _ i rfl hin hun j h)
    refine ⟨hjn, ?_⟩
    by_cases hji : j = i
    · subst hji; exact hy.qOp hi H
    · have := hdone _ _ H j (ready_mono hj hji)
      omega
  | succ f ih =>
    intro listed a inv hfree hr hy H
    have hun := (mem_ready.1 hr).1
    refine ⟨fun h => (by rw [h] at hr; cases hr), fun j hj => ?_⟩
    have hjn : j < n := by
      rcases Nat.lt_or_ge j n with h | h
      · exact h
      · exact absurd hj (tail_waits hs hc hn inv _ i rfl hin hun j h)
    refine ⟨hjn, ?_⟩
    by_cases hji : j = i
    · subst hji; exact hy.qOp hi H
    · have h1 := (H.2 j (ready_mono hj hji)).2
      obtain ⟨hjun, oj, hoj, hall⟩ := mem_ready.1 hj
      have hnot : ∀ e ∈ oj.after, Region.binds md e = true → e.on ≠ i := fun e he hb heq => by
        have h1 := hall e he hb
        rw [heq, getD_both hun] at h1
        cases h1
      have h2 := qOp_put hoj (hfree j oj hoj hji hjun hnot) (fun cs b => hsel i oi cs b hi) (fun cs b => hsel j oj cs b hoj) hy h1
      have hfree' : ∀ k ok, ops[k]? = some ok → k ≠ i → (listed.setIfInBounds j true).getD k true = false →
          (∀ e ∈ ok.after, Region.binds md e = true → e.on ≠ i) → oi.apart ops ok = true := fun k ok hk hki hun hno => by
        refine hfree k ok hk hki ?_ hno
        by_cases hjk : j = k
        · subst hjk; exact hjun
        · rw [getD_set_ne true hjk] at hun; exact hun
      refine qOp_mono (fun a' h3 => ih (listed.setIfInBounds j true) a' (inv.set hj hjn) hfree' (ready_mono hr (Ne.symm hji)) h3.1 ?_) h2
      rw [Array.setIfInBounds_comm _ _ hji]
      exact h3.2

theorem anyL_lex {n g : Nat} {Lq : Act → Prop} (hsel : Region.noSelect ops = true) (hs : Region.sinkB md ops n = true) (hc : Region.chainB md ops n = true) (hn : n < ops.size) :
    ∀ (l : List Oper) (k : Nat) (listed : Array Bool) (a : Act), (∀ j, j < l.length → l[j]? = ops[k + j]?) → k + l.length = n → HeadInv md ops n listed →
    Region.lexHead md ops g l.length k listed = true → wpQuiet P ops C Lq l a →
    anyL P md ops C n (fun listed' a' => Region.seqB md ops g n listed' = true ∧ Lq a') l.length listed a
  | [], k, listed, a, _, hk, _, hB, h => by
    have : k = n := by simpa using hk
    subst this
    exact ⟨by simpa [Region.lexHead] using hB, h⟩
  | o :: l, k, listed, a, hl, hk, inv, hB, h => by
    have h0 : ops[k]? = some o := by simpa using (hl 0 (by simp)).symm
    simp only [List.length_cons, Region.lexHead, Bool.and_eq_true] at hB
    obtain ⟨⟨hr, hf⟩, hB'⟩ := hB
    have hkn : k < n := by simp only [List.length_cons] at hk; omega
    have hr' : k ∈ Region.ready md ops listed := by simpa using hr
    have hst : qOp P ops C k (wpQuiet P ops C Lq l) a := by unfold qOp; simp only [h0]; exact h
    obtain ⟨v, hy, hK⟩ := yieldsIn_of_qOp h0 hst
    exact anyL_first h0 (Region.noSelect_spec hsel) hs hc hn hkn (fun listed' a' hL => seqB_ready hL.1) l.length listed a inv (Region.free_spec h0 hf) hr' hy
      (anyL_lex hsel hs hc hn l (k + 1) _ _ (fun j hj => by have := hl (j + 1) (by simp; omega); simpa [Nat.add_assoc, Nat.add_comm 1 j] using this) (by simp only [List.length_cons] at hk; omega) (inv.set hr' hkn) hB' hK)

/-- the operations but the last ones only read, or call what only reads; the last ones stand in one row -/
theorem region {id : Nat} {Q : Exit → Act → World → Prop} {a : Act} {w : World} {l : List Oper} (n : Nat) (hm : P.follows .mixedOrders = true) (hB : Region.lexTailB .any l.toArray n = true)
    (h : wpQuiet P l.toArray (fun w' => ∃ n, w' = w.drewN n) (fun a' => ∀ w', (∃ n, w' = w.drewN n) → wpList P l.toArray Q (l.drop n) a' w') (l.take n) a) : (Code.region id l.toArray true).wp P Q a w := by
  simp only [Region.lexTailB, Bool.and_eq_true, decide_eq_true_eq] at hB
  obtain ⟨⟨⟨⟨hsel, hn⟩, hs⟩, hc⟩, hlex⟩ := hB
  have hn' : n < l.length := by simpa using hn
  have htl : (l.take n).length = n := by simp; omega
  have hdl : (l.drop n).length = l.toArray.size - n := by simp
  have inv0 : HeadInv .any l.toArray n (Array.replicate l.toArray.size false) :=
    ⟨by simp, fun j oj _ hl => (by rw [getD_replicate_false] at hl; cases hl), fun t _ ht => getD_in (by simpa using ht) (getD_replicate_false _ _)⟩
  have H := anyL_lex (md := .any) (g := l.toArray.size - n) hsel hs hc hn (l.take n) 0 _ a (fun j hj => by
    have hj' : j < n := by rw [htl] at hj; exact hj
    simp [hj']) (by simpa using htl) inv0 (by rw [htl]; exact hlex) h
  refine wp_region_any hm ?_
  have := any_of_head (C := fun w' => ∃ n, w' = w.drewN n) (Q' := Q) (g := l.toArray.size - n) (fun listed a' w' hw' hL => by
    have := wpAny_of_seq (md := .any) (Q' := Q) (l.drop n) n listed a' w' (fun j => by simp [List.getElem?_drop]) (by rw [hdl]; exact hL.1) (hL.2 w' hw')
    rwa [hdl] at this) _ _ _ _ ⟨1, rfl⟩ H
  rw [htl, show n + (l.toArray.size - n) = l.toArray.size by omega] at this
  exact this

/-! the same where the first m operations are plain moves, which may also come up late -/

def sinkFrom (md : Region.Mode) (ops : Array Oper) (m n : Nat) : Bool :=
  (List.range n).all fun i => decide (i < m) || (List.range (n + 1)).any fun j => decide (i < j) && Region.waitsFor md ops j i
theorem tail_waits_from {m n : Nat} {listed : Array Bool} (hs : sinkFrom md ops m n = true) (hc : Region.chainB md ops n = true) (hn : n < ops.size) (inv : HeadInv md ops n listed)
    (hm : ∀ i, i < m → listed.getD i true = true) :
    ∀ (d i : Nat), n - i = d → i < n → listed.getD i true = false → ∀ t, n ≤ t → t ∉ Region.ready md ops listed := by
  intro d
  induction d using Nat.strongRecOn with
  | _ d ih =>
    intro i hd hi hun t ht hr
    obtain ⟨_, ot, hot, hall⟩ := mem_ready.1 hr
    have htlt : t < ops.size := (Array.getElem?_eq_some_iff.1 hot).1
    by_cases htn : t = n
    · subst htn
      have h1 := List.all_eq_true.1 hs i (List.mem_range.2 hi)
      have hnm : ¬ i < m := fun h => by rw [hm i h] at hun; cases hun
      simp only [Bool.or_eq_true, decide_eq_true_eq, hnm, false_or] at h1
      obtain ⟨j, hj, hj2⟩ := List.any_eq_true.1 h1
      simp only [Bool.and_eq_true, decide_eq_true_eq] at hj2
      obtain ⟨oj, hoj, e, he, hb, hon⟩ := Region.waitsFor_spec hj2.2
      have hjle : j ≤ t := by have := List.mem_range.1 hj; omega
      by_cases hjt : j = t
      · subst hjt
        have : oj = ot := Option.some.inj (hoj.symm.trans hot)
        subst this
        have h2 := hall e he hb
        rw [hon, getD_both hun] at h2
        cases h2
      · cases hl : listed.getD j false with
        | true =>
          have h2 := inv.closed j oj hoj hl e he hb
          rw [hon, getD_both hun] at h2
          cases h2
        | false =>
          have hjs : j < listed.size := by rw [inv.size]; omega
          exact ih (t - j) (by omega) j rfl (by omega) (getD_in hjs hl) t (Nat.le_refl _) hr
    · have h1 := List.all_eq_true.1 hc t (List.mem_range.2 htlt)
      simp only [Bool.or_eq_true, decide_eq_true_eq] at h1
      rcases h1 with h1 | h1
      · omega
      · obtain ⟨o', ho', e, he, hb, hon⟩ := Region.waitsFor_spec h1
        have : o' = ot := Option.some.inj (ho'.symm.trans hot)
        subst this
        have h2 := hall e he hb
        rw [hon, getD_both (inv.tail (t - 1) (by omega) (by omega))] at h2
        cases h2

theorem anyL_first_from {m n i : Nat} {oi : Oper} {v : Value} {L : Array Bool → Act → Prop} (hi : ops[i]? = some oi) (hsel : ∀ (j : Nat) (o : Oper) cs b, ops[j]? = some o → o.op ≠ .select cs b)
    (hs : sinkFrom md ops m n = true) (hc : Region.chainB md ops n = true) (hn : n < ops.size) (hin : i < n)
    (hdone : ∀ listed a, L listed a → ∀ j ∈ Region.ready md ops listed, n ≤ j) :
    ∀ (f : Nat) (listed : Array Bool) (a : Act), HeadInv md ops n listed → (∀ i, i < m → listed.getD i true = true) →
      (∀ j oj, ops[j]? = some oj → j ≠ i → listed.getD j true = false → (∀ e ∈ oj.after, Region.binds md e = true → e.on ≠ i) → oi.apart ops oj = true) →
      i ∈ Region.ready md ops listed → YieldsIn P ops C oi v a →
      anyL P md ops C n L f (listed.setIfInBounds i true) (a.put oi.dst v) → anyL P md ops C n L (f + 1) listed a := by
  intro f
  induction f with
  | zero =>
    intro listed a inv hm _ hr hy H
    have hun := (mem_ready.1 hr).1
    refine ⟨fun h => (by rw [h] at hr; cases hr), fun j hj => ?_⟩
    have hjn : j < n := by
      rcases Nat.lt_or_ge j n with h | h
      · exact h
      · exact absurd hj (tail_waits_from hs hc hn inv hm _ i rfl hin hun j h)
    refine ⟨hjn, ?_⟩
    by_cases hji : j = i
    · subst hji; exact hy.qOp hi H
    · have := hdone _ _ H j (ready_mono hj hji)
      omega
  | succ f ih =>
    intro listed a inv hm hfree hr hy H
    have hun := (mem_ready.1 hr).1
    refine ⟨fun h => (by rw [h] at hr; cases hr), fun j hj => ?_⟩
    have hjn : j < n := by
      rcases Nat.lt_or_ge j n with h | h
      · exact h
      · exact absurd hj (tail_waits_from hs hc hn inv hm _ i rfl hin hun j h)
    refine ⟨hjn, ?_⟩
    by_cases hji : j = i
    · subst hji; exact hy.qOp hi H
    · have h1 := (H.2 j (ready_mono hj hji)).2
      obtain ⟨hjun, oj, hoj, hall⟩ := mem_ready.1 hj
      have hnot : ∀ e ∈ oj.after, Region.binds md e = true → e.on ≠ i := fun e he hb heq => by
        have h1 := hall e he hb
        rw [heq, getD_both hun] at h1
        cases h1
      have h2 := qOp_put hoj (hfree j oj hoj hji hjun hnot) (fun cs b => hsel i oi cs b hi) (fun cs b => hsel j oj cs b hoj) hy h1
      have hfree' : ∀ k ok, ops[k]? = some ok → k ≠ i → (listed.setIfInBounds j true).getD k true = false →
          (∀ e ∈ ok.after, Region.binds md e = true → e.on ≠ i) → oi.apart ops ok = true := fun k ok hk hki hun hno => by
        refine hfree k ok hk hki ?_ hno
        by_cases hjk : j = k
        · subst hjk; exact hjun
        · rw [getD_set_ne true hjk] at hun; exact hun
      have hm' : ∀ k, k < m → (listed.setIfInBounds j true).getD k true = true := fun k hk => by
        by_cases hjk : j = k
        · subst hjk; rw [hm j hk] at hjun; cases hjun
        · rw [getD_set_ne true hjk]; exact hm k hk
      refine qOp_mono (fun a' h3 => ih (listed.setIfInBounds j true) a' (inv.set hj hjn) hm' hfree' (ready_mono hr (Ne.symm hji)) h3.1 ?_) h2
      rw [Array.setIfInBounds_comm _ _ hji]
      exact h3.2

theorem anyL_lex_from {m n g : Nat} {Lq : Act → Prop} (hsel : Region.noSelect ops = true) (hs : sinkFrom md ops m n = true) (hc : Region.chainB md ops n = true) (hn : n < ops.size) :
    ∀ (l : List Oper) (k : Nat) (listed : Array Bool) (a : Act), (∀ j, j < l.length → l[j]? = ops[k + j]?) → k + l.length = n → m ≤ k → HeadInv md ops n listed → (∀ i, i < m → listed.getD i true = true) →
    Region.lexHead md ops g l.length k listed = true → wpQuiet P ops C Lq l a →
    anyL P md ops C n (fun listed' a' => Region.seqB md ops g n listed' = true ∧ Lq a') l.length listed a
  | [], k, listed, a, _, hk, _, _, _, hB, h => by
    have : k = n := by simpa using hk
    subst this
    exact ⟨by simpa [Region.lexHead] using hB, h⟩
  | o :: l, k, listed, a, hl, hk, hmk, inv, hm, hB, h => by
    have h0 : ops[k]? = some o := by simpa using (hl 0 (by simp)).symm
    simp only [List.length_cons, Region.lexHead, Bool.and_eq_true] at hB
    obtain ⟨⟨hr, hf⟩, hB'⟩ := hB
    have hkn : k < n := by simp only [List.length_cons] at hk; omega
    have hr' : k ∈ Region.ready md ops listed := by simpa using hr
    have hst : qOp P ops C k (wpQuiet P ops C Lq l) a := by unfold qOp; simp only [h0]; exact h
    obtain ⟨v, hy, hK⟩ := yieldsIn_of_qOp h0 hst
    have hm' : ∀ i, i < m → (listed.setIfInBounds k true).getD i true = true := fun i hi => by
      rw [getD_set_ne true (by omega)]; exact hm i hi
    exact anyL_first_from h0 (Region.noSelect_spec hsel) hs hc hn hkn (fun listed' a' hL => seqB_ready hL.1) l.length listed a inv hm (Region.free_spec h0 hf) hr' hy
      (anyL_lex_from hsel hs hc hn l (k + 1) _ _ (fun j hj => by have := hl (j + 1) (by simp; omega); simpa [Nat.add_assoc, Nat.add_comm 1 j] using this) (by simp only [List.length_cons] at hk; omega) (by omega) (inv.set hr' hkn) hm' hB' hK)

theorem held_of_any {Q : Exit → Act → World → Prop} : ∀ (fuel : Nat) (listed : Array Bool) (a : Act) (w : World), wpAny P md ops Q fuel listed a w → wpAnyH P md ops Q (fun _ => True) fuel listed a w
  | 0, _, _, _, h => h
  | fuel + 1, _, _, _, h => ⟨h.1, fun i hi => wpOp_mono (fun a' w' h' => ⟨trivial, held_of_any fuel _ a' w' h'⟩) (h.2 i hi)⟩

/-- a plain move -/
def isMove (o : Oper) : Bool := o.guard.isNone && match o.op with | .move _ => true | _ => false
theorem move_run {o : Oper} (h : isMove o = true) (a : Act) (w : World) : ∃ v, (execOp a.eval o).run P w = .ok (.value v) w ∧ ∀ w', (execOp a.eval o).run P w' = .ok (.value v) w' := by
  unfold isMove at h
  simp only [Bool.and_eq_true] at h
  obtain ⟨_, h2⟩ := h
  split at h2
  · rename_i x hx
    exact ⟨a.eval x, by simp [execOp, hx], fun w' => by simp [execOp, hx]⟩
  · cases h2

def lexMoves (md : Region.Mode) (ops : Array Oper) (F : Nat → Array Bool → Bool) : Nat → Nat → Array Bool → Bool
  | 0, k, listed => F k listed
  | f + 1, k, listed => (Region.ready md ops listed).contains k && Region.free md ops listed k && ((ops[k]?).map isMove == some true) && lexMoves md ops F f (k + 1) (listed.setIfInBounds k true)

theorem moves_first {m n : Nat} {Q : Exit → Act → World → Prop} {Lq : Act → Prop} {F : Nat → Array Bool → Bool} {w : World} (hsel : Region.noSelect ops = true) (hmn : m ≤ n) (hn : n < ops.size) (hC : C w)
    (hQ : ∀ c a a' w, Q (.panic c) a w → Q (.panic c) a' w) (g : Nat)
    (hK : ∀ listed a, HeadInv md ops n listed → (∀ i, i < m → listed.getD i true = true) → F m listed = true → Lq a → wpAny P md ops Q g listed a w) :
    ∀ (l : List Oper) (k : Nat) (listed : Array Bool) (a : Act), (∀ j, j < l.length → l[j]? = ops[k + j]?) → k + l.length = m → HeadInv md ops n listed → (∀ i, i < k → listed.getD i true = true) →
    lexMoves md ops F l.length k listed = true → wpQuiet P ops C Lq l a → wpAnyH P md ops Q (fun _ => True) (l.length + g) listed a w
  | [], k, listed, a, _, hk, inv, hm, hB, h => by
    have : k = m := by simpa using hk
    subst this
    simp only [List.length_nil, Nat.zero_add]
    exact held_of_any _ _ _ _ (hK _ _ inv hm (by simpa [lexMoves] using hB) h)
  | o :: l, k, listed, a, hl, hk, inv, hm, hB, h => by
    have h0 : ops[k]? = some o := by simpa using (hl 0 (by simp)).symm
    simp only [List.length_cons, lexMoves, Bool.and_eq_true] at hB
    obtain ⟨⟨⟨hr, hf⟩, hmv⟩, hB'⟩ := hB
    rw [h0] at hmv
    have hmv' : isMove o = true := by simpa using hmv
    have hkn : k < n := by simp only [List.length_cons] at hk; omega
    have hr' : k ∈ Region.ready md ops listed := by simpa using hr
    have hst : qOp P ops C k (wpQuiet P ops C Lq l) a := by unfold qOp; simp only [h0]; exact h
    obtain ⟨v, hy, hK'⟩ := yieldsIn_of_qOp h0 hst
    have hyI : YieldsIf P ops (fun _ => True) o v a := by
      rcases hy with ⟨hw, hv⟩ | hy
      · obtain ⟨u, hu, hu'⟩ := move_run (P := P) hmv' a w
        have h3 := hv w hC
        unfold Oper.quietAt at h3
        rw [hu] at h3
        simp only [Oper.quietUpon] at h3
        exact .inl ⟨hw, fun w' _ => by rw [hu' w', h3.2]⟩
      · exact .inr hy
    rw [show (o :: l).length + g = (l.length + g) + 1 from by simp only [List.length_cons]; omega]
    refine wpAnyH_take h0 hsel hf hr (fun c a w h => hQ c _ _ w h) hyI trivial ?_
    refine moves_first hsel hmn hn hC hQ g hK l (k + 1) _ _ (fun j hj => by have := hl (j + 1) (by simp; omega); simpa [Nat.add_assoc, Nat.add_comm 1 j] using this) (by simp only [List.length_cons] at hk; omega) (inv.set hr' hkn) ?_ hB' hK'
    intro i hi
    by_cases h : k = i
    · subst h
      have hks : k < listed.size := by rw [inv.size]; omega
      simp [hks]
    · rw [getD_set_ne true h]; exact hm i (by omega)

def lexTailFrom (md : Region.Mode) (ops : Array Oper) (m n : Nat) : Bool :=
  Region.noSelect ops && decide (n < ops.size) && decide (m ≤ n) && sinkFrom md ops m n && Region.chainB md ops n && lexMoves md ops (fun k listed => Region.lexHead md ops (ops.size - n) (n - m) k listed) m 0 (Array.replicate ops.size false)

theorem wpQuiet_append {Q : Act → Prop} : ∀ (l l' : List Oper) (a : Act), wpQuiet P ops C Q (l ++ l') a → wpQuiet P ops C (wpQuiet P ops C Q l') l a
  | [], _, _, h => h
  | o :: l, l', a, h => by
    simp only [List.cons_append, wpQuiet] at h ⊢
    split
    · rename_i hw
      simp only [hw, if_true] at h
      exact Oper.quiet_mono (fun a' h' => wpQuiet_append l l' a' h') h
    · rename_i hw
      simp only [hw] at h
      exact wpQuiet_append l l' _ h

/-- the first m operations are plain moves; those up to n only read; the last ones stand in one row; nothing panics -/
theorem regionFrom {id : Nat} {Q : Exit → Act → World → Prop} {a : Act} {w : World} {l : List Oper} (m n : Nat) (hmx : P.follows .mixedOrders = true) (hB : lexTailFrom .any l.toArray m n = true)
    (h : wpQuiet P l.toArray (fun w' => ∃ n, w' = w.drewN n) (fun a' => ∀ w', (∃ n, w' = w.drewN n) → wpList P l.toArray (NoPanic Q) (l.drop n) a' w') (l.take n) a) : (Code.region id l.toArray true).wp P Q a w := by
  simp only [lexTailFrom, Bool.and_eq_true, decide_eq_true_eq] at hB
  obtain ⟨⟨⟨⟨⟨hsel, hn⟩, hmn⟩, hs⟩, hc⟩, hlex⟩ := hB
  have hn' : n < l.length := by simpa using hn
  have htl : (l.take n).length = n := by simp; omega
  have hdl : (l.drop n).length = l.toArray.size - n := by simp
  have hsz : l.toArray.size = l.length := by simp
  have inv0 : HeadInv .any l.toArray n (Array.replicate l.toArray.size false) :=
    ⟨by simp, fun j oj _ hl => (by rw [getD_replicate_false] at hl; cases hl), fun t _ ht => getD_in (by simpa using ht) (getD_replicate_false _ _)⟩
  have hsplit : l.take n = l.take m ++ (l.take n).drop m := by
    have h2 := List.take_append_drop m (l.take n)
    rw [List.take_take, Nat.min_eq_left hmn] at h2
    exact h2.symm
  rw [hsplit] at h
  have h1 := wpQuiet_append _ _ _ h
  have hml : (l.take m).length = m := by simp; omega
  have hdl2 : ((l.take n).drop m).length = n - m := by simp; omega
  refine wp_region_noPanic (wp_region_held (S := fun _ => True) hmx ?_)
  have key := moves_first (md := .any) (C := fun w' => ∃ n, w' = w.drewN n) (w := { w with drawn := w.drawn + 1 }) (Q := NoPanic Q)
    (F := fun k listed => Region.lexHead .any l.toArray (l.toArray.size - n) (n - m) k listed) (g := (n - m) + (l.toArray.size - n)) hsel hmn hn ⟨1, rfl⟩ (fun c a a' w h => h)
    (fun listed a inv hm hF hL => by
      have H := anyL_lex_from (md := .any) (g := l.toArray.size - n) hsel hs hc hn ((l.take n).drop m) m listed a (fun j hj => by
        rw [hdl2] at hj
        rw [List.getElem?_drop, List.getElem?_take, if_pos (by omega)]
        simp) (by rw [hdl2]; omega) (Nat.le_refl _) inv hm (by rw [hdl2]; exact hF) hL
      have := any_of_head (C := fun w' => ∃ n, w' = w.drewN n) (Q' := NoPanic Q) (g := l.toArray.size - n) (fun listed a' w' hw' hL => by
        have := wpAny_of_seq (md := .any) (Q' := NoPanic Q) (l.drop n) n listed a' w' (fun j => by simp [List.getElem?_drop]) (by rw [hdl]; exact hL.1) (hL.2 w' hw')
        rwa [hdl] at this) _ _ _ { w with drawn := w.drawn + 1 } ⟨1, rfl⟩ H
      rwa [hdl2] at this)
    (l.take m) 0 _ a (fun j hj => by
      rw [hml] at hj
      rw [List.getElem?_take, if_pos hj]
      simp) (by rw [hml]; omega) inv0 (fun i hi => by omega) (by rw [hml]; exact hlex) h1
  rw [hml] at key
  rwa [show m + (n - m + (l.toArray.size - n)) = l.toArray.size from by omega] at key
end
end Go.Proofs.Ytacigmnnekphmaa.tail
/- A block that is known whole: what its cells are before and behind stores. No condition. -/
namespace Go.Proofs.Ytacigmnnekphmaa
open Go.RowKit
set_option linter.unusedVariables false

/-- block b holds just these cells, and may be written -/
def Block (w : World) (b : Nat) (t : TypeId) (cs : List Value) : Prop := w.heap[b]? = some (.cells cs.toArray t (0, 0))
theorem Block.lt {w : World} {b : Nat} {t : TypeId} {cs : List Value} (h : Block w b t cs) : b < w.heap.size := (Array.getElem?_eq_some_iff.1 h).1
theorem Block.cell {w : World} {b : Nat} {t : TypeId} {cs : List Value} (h : Block w b t cs) (j : Nat) : w.cell? ⟨b, j, none⟩ = cs[j]? := by
  rw [cell_of_row w b j cs.toArray t (0, 0) h]; simp
theorem Block.frozen {w : World} {b : Nat} {t : TypeId} {cs : List Value} (h : Block w b t cs) (j : Nat) : w.frozen? ⟨b, j, none⟩ = false := frozen_of_row w b j cs.toArray t h
theorem Block.range {w : World} {b : Nat} {t : TypeId} {cs : List Value} (h : Block w b t cs) (o : Nat) (vs : List Value) (hv : ∀ j v, vs[j]? = some v → cs[o + j]? = some v) : w.rangeAt b o vs :=
  fun j v hj => by rw [h.cell]; exact hv j v hj
theorem Block.whole {w : World} {b : Nat} {t : TypeId} {cs : List Value} (h : Block w b t cs) : w.rangeAt b 0 cs := h.range 0 cs (fun j v hj => by rw [Nat.zero_add]; exact hj)
theorem Block.there {w : World} {b : Nat} {t : TypeId} {cs : List Value} (h : Block w b t cs) (o n : Nat) (hn : o + n ≤ cs.length) : w.there b o n :=
  fun j hj => ⟨by rw [h.cell, List.getElem?_eq_getElem (by omega)]; rfl, h.frozen _⟩
theorem Block.setCell {w : World} {b : Nat} {t : TypeId} {cs : List Value} (h : Block w b t cs) (j : Nat) (v : Value) : Block (w.setCell ⟨b, j, none⟩ v) b t (cs.set j v) := by
  have := heap_setCell_same w b j cs.toArray t v h
  unfold Block
  rw [this]
  simp
/-- the cells from o on turned -/
def put (cs : List Value) : Nat → List Value → List Value
  | _, [] => cs
  | o, v :: r => put (cs.set o v) (o + 1) r
theorem put_mid (A X C Y : List Value) (h : X.length = Y.length) : put (A ++ X ++ C) A.length Y = A ++ Y ++ C := by
  induction Y generalizing A X with
  | nil => obtain rfl : X = [] := List.eq_nil_of_length_eq_zero (by simpa using h); rfl
  | cons y r ih =>
    cases X with
    | nil => simp at h
    | cons x X =>
      have e : (A ++ x :: X ++ C).set A.length y = (A ++ [y]) ++ X ++ C := by simp
      have := ih (A ++ [y]) X (by simpa using h)
      rw [put, e, show A.length + 1 = (A ++ [y]).length by simp, this]
      simp
theorem put_all (X Y : List Value) (h : X.length = Y.length) : put X 0 Y = Y := by
  have := put_mid [] X [] Y h
  simpa using this
theorem Block.setCells {b : Nat} {t : TypeId} : ∀ {vs : List Value} {o : Nat} {w : World} {cs : List Value}, Block w b t cs → Block (w.setCells b o vs) b t (put cs o vs)
  | [], _, _, _, h => h
  | v :: r, o, w, cs, h => Block.setCells (vs := r) (o := o + 1) (h.setCell o v)
theorem Block.alloc {w : World} {b : Nat} {t : TypeId} {cs : List Value} (h : Block w b t cs) (ob : Obj) : Block (w.alloc ob) b t cs := (Below.heap_alloc w ob b h.lt).trans h
theorem Block.new (w : World) (t : TypeId) (cs : List Value) : Block (w.alloc (.cells cs.toArray t)) w.heap.size t cs := heap_alloc_last w _
theorem Block.drewN {w : World} {b : Nat} {t : TypeId} {cs : List Value} (h : Block w b t cs) (n : Nat) : Block (w.drewN n) b t cs := h
theorem Block.below {w w' : World} {b B : Nat} {t : TypeId} {cs : List Value} (h : Block w b t cs) (hb : Below B w w') (hB : b < B) : Block w' b t cs := (hb.block b hB).trans h
theorem Block.later {w w' : World} {b : Nat} {t : TypeId} {cs : List Value} (h : Block w b t cs) (hb : Below w.heap.size w w') : Block w' b t cs := h.below hb h.lt
theorem Block.apart {w : World} {b : Nat} {t : TypeId} {cs : List Value} (h : Block w b t cs) (g o : Nat) (v : Value) (hg : b ≠ g) : Block (w.setCell ⟨g, o, none⟩ v) b t cs :=
  (Below.heap_setCell w ⟨g, o, none⟩ v b hg).trans h
theorem heap_setCells (g : Nat) : ∀ (vs : List Value) (o : Nat) (w : World) (k : Nat), k ≠ g → (w.setCells g o vs).heap[k]? = w.heap[k]?
  | [], _, _, _, _ => rfl
  | v :: r, o, w, k, h => (heap_setCells g r (o + 1) _ k h).trans (Below.heap_setCell w ⟨g, o, none⟩ v k h)
theorem size_setCells (g : Nat) : ∀ (vs : List Value) (o : Nat) (w : World), (w.setCells g o vs).heap.size = w.heap.size
  | [], _, _ => rfl
  | v :: r, o, w => (size_setCells g r (o + 1) _).trans (by simp)
theorem rest_setCells (g : Nat) : ∀ (vs : List Value) (o : Nat) (w : World), (w.setCells g o vs).os = w.os ∧ (w.setCells g o vs).tape = w.tape ∧ (w.setCells g o vs).output = w.output
  | [], _, _ => ⟨rfl, rfl, rfl⟩
  | v :: r, o, w => rest_setCells g r (o + 1) (w.setCell ⟨g, o, none⟩ v)
theorem Block.aparts {w : World} {b : Nat} {t : TypeId} {cs : List Value} (h : Block w b t cs) (g o : Nat) (vs : List Value) (hg : b ≠ g) : Block (w.setCells g o vs) b t cs :=
  (heap_setCells g vs o w b hg).trans h
theorem below_setCells {B g : Nat} {a w : World} (h : Below B a w) (hg : B ≤ g) (o : Nat) (vs : List Value) : Below B a (w.setCells g o vs) :=
  h.trans ⟨(rest_setCells g vs o w).1, (rest_setCells g vs o w).2.1, (rest_setCells g vs o w).2.2, by rw [size_setCells]; exact Nat.le_refl _, fun k hk => heap_setCells g vs o w k (by omega)⟩

/-- copy into a block -/
theorem wpList_copy_block {P : Program} {w : World} {ops : Array Oper} {rest : List Oper} {o : Oper} {a : Act} {Q : Exit → Act → World → Prop} (hgd : o.guard = none) (d s : Operand) (dT sT : TypeId)
    (ho : o.op = .call { callee := .builtin .copy, args := #[d, s], argTypes := #[dT, sT] }) (elem : TypeId) (hu : P.underlying dT = some (.slice elem)) (hsz : (P.info? elem).map (·.size) = some 1)
    (b off dLen dCap : Nat) (ad : Addr) (sLen sCap : Nat) (hd : a.eval d = .slice (some ⟨b, off, none⟩) dLen dCap) (hs : a.eval s = .slice (some ad) sLen sCap)
    (cs : List Value) (hn : cs.length = Nat.min sLen dLen) (hsrc : ∀ j v, cs[j]? = some v → w.cell? (ad.add j) = some v) (hth : w.there b off cs.length) (h1 : ∀ v ∈ cs, v.oneCell' = true)
    (h : wpList P ops Q rest (a.put o.dst (goInt cs.length)) (w.setCells b off cs)) : wpList P ops Q (o :: rest) a w := by
  refine wpList_plain hgd fun K hK => ?_
  have hrun := run_copy_cells (P := P) w dT sT o.type elem b off dLen dCap ad sLen sCap cs hu hsz hn hsrc (fun j hj => (hth j hj).1) (fun j hj => (hth j hj).2) h1
  unfold Oper.wp
  simp [execOp, ho, resolve, invoke, builtin, hd, hs, hrun, Result.andThen]
  exact hK _ _ h

/-- a store of a whole array; the world behind it gets a name -/
theorem wpList_store_named {P : Program} {w : World} {ops : Array Oper} {rest : List Oper} {op : Oper} {a : Act} {Q : Exit → Act → World → Prop} (hgd : op.guard = none) (ty : TypeId) (x y : Operand) (ho : op.op = .store ty x y)
    (b o : Nat) (cells : Array Value) (hx : a.eval x = .pointer (some ⟨b, o, none⟩)) (hy : a.eval y = .agg cells)
    (ht : w.there b o cells.size) (hi : (P.info? ty).map (·.size) = some cells.size) (h1 : cells.all (·.oneCell') = true)
    (h : ∀ w', Hid (w.setCells b o cells.toList = w') → wpList P ops Q rest (a.put op.dst undef) w') : wpList P ops Q (op :: rest) a w :=
  wpList_store_mid hgd ty x y ho b o cells hx hy ht hi h1 (h _ rfl)

/-- a result that is an array and lives in a variable -/
theorem results_cell {fn : Func} {p : Tmp} {ty : TypeId} {tmps : Array Value} {P : Program} {w : World} {b o : Nat} {cs : List Value} {d : TypeDesc} (h : fn.results = #[.cell p ty])
    (hp : tmps.getD p undef = .pointer (some ⟨b, o, none⟩)) (hc : w.rangeAt b o cs) (hu : P.underlying ty = some d) (hd : d.isRow = true) (hi : (P.info? ty).map (·.size) = some cs.length) :
    (results fn tmps).run P w = .ok (.agg cs.toArray) w := by
  simp only [results, h]
  simp at hp
  simp [hp, asAddr, run_loadVar_mid w b o ty cs d hc hu hd hi]

theorem ownsRow_later {w w' : World} {base e size n : Nat} {v : Value} {xs : List Value} (h : w.ownsRow base e size v n xs) (hb : Below w.heap.size w w') : w'.ownsRow base e size v n xs := by
  refine ⟨h.1, ?_⟩
  rcases h.2 with h0 | ⟨g, cap, cur, hv, h1, hg, h2, h3, h4, h5⟩
  · exact .inl h0
  · exact .inr ⟨g, cap, cur, hv, h1, (hb.block g (Array.getElem?_eq_some_iff.1 hg).1).trans hg, h2, h3, h4, h5⟩
/-- below B only block g may have changed -/
def But (B g : Nat) (w w' : World) : Prop :=
  w'.os = w.os ∧ w'.tape = w.tape ∧ w'.output = w.output ∧ w.heap.size ≤ w'.heap.size ∧ ∀ k, k < B → k ≠ g → w'.heap[k]? = w.heap[k]?
theorem But.refl (B g : Nat) (w : World) : But B g w w := ⟨rfl, rfl, rfl, Nat.le_refl _, fun _ _ _ => rfl⟩
theorem But.trans {B g : Nat} {a b c : World} (h : But B g a b) (k : But B g b c) : But B g a c :=
  ⟨k.1.trans h.1, k.2.1.trans h.2.1, k.2.2.1.trans h.2.2.1, Nat.le_trans h.2.2.2.1 k.2.2.2.1, fun j h1 h2 => (k.2.2.2.2 j h1 h2).trans (h.2.2.2.2 j h1 h2)⟩
theorem Below.but {B g : Nat} {a b : World} (h : Below B a b) : But B g a b := ⟨h.os, h.tape, h.output, h.size, fun k hk _ => h.block k hk⟩
theorem But.below {B B' g : Nat} {a b : World} (h : But B g a b) (hB : B' ≤ B) (hg : B' ≤ g) : Below B' a b := ⟨h.1, h.2.1, h.2.2.1, h.2.2.2.1, fun k hk => h.2.2.2.2 k (by omega) (by omega)⟩
theorem But.mono {B B' g : Nat} {a b : World} (h : But B g a b) (hB : B' ≤ B) : But B' g a b := ⟨h.1, h.2.1, h.2.2.1, h.2.2.2.1, fun k hk hg => h.2.2.2.2 k (by omega) hg⟩
theorem But.setCells {B g : Nat} {a w : World} (h : But B g a w) (o : Nat) (vs : List Value) : But B g a (w.setCells g o vs) :=
  h.trans ⟨(rest_setCells g vs o w).1, (rest_setCells g vs o w).2.1, (rest_setCells g vs o w).2.2, by rw [size_setCells]; exact Nat.le_refl _, fun k _ hg => heap_setCells g vs o w k hg⟩
theorem But.setCell {B g : Nat} {a w : World} (h : But B g a w) (o : Nat) (v : Value) : But B g a (w.setCell ⟨g, o, none⟩ v) := h.setCells o [v]
theorem But.step {B g : Nat} {a w w' : World} (h : But B g a w) (k : Below w.heap.size w w') (hB : B ≤ w.heap.size) : But B g a w' := h.trans (Below.but (k.mono hB))
theorem But.drewN {B g : Nat} {a w : World} (h : But B g a w) (n : Nat) : But B g a (w.drewN n) := h
theorem Block.but {w w' : World} {b B g : Nat} {t : TypeId} {cs : List Value} (h : Block w b t cs) (hb : But B g w w') (hB : b < B) (hg : b ≠ g) : Block w' b t cs := (hb.2.2.2.2 b hB hg).trans h
theorem Reads.but {k : IntKind} {w w' : World} {b off len B g : Nat} {xs : List Nat} (h : Reads k w (some ⟨b, off, none⟩) len xs) (hb : But B g w w') (hB : b < B) (hg : b ≠ g) : Reads k w' (some ⟨b, off, none⟩) len xs := by
  refine ⟨h.1, ?_⟩
  rcases h.2 with h | ⟨b', off', ha, hlt, hc⟩
  · exact .inl h
  · cases ha
    refine .inr ⟨b, off, rfl, Nat.lt_of_lt_of_le hlt hb.2.2.2.1, fun i hi => ?_⟩
    rw [World.cell?_of_block (w := w) (hb.2.2.2.2 b hB hg)]; exact hc i hi
/-- part of a block reads as numbers -/
theorem Block.reads {k : IntKind} {w : World} {b : Nat} {t : TypeId} {cs : List Value} (h : Block w b t cs) (o : Nat) (xs : List Nat) (hx : ∀ i, i < xs.length → cs[o + i]? = some (.int k ((xs.getD i 0 : Nat) : Int))) (n : Nat) (hn : xs.length = n) : Reads k w (some ⟨b, o, none⟩) n xs :=
  ⟨hn, .inr ⟨b, o, rfl, h.lt, fun i hi => by rw [h.cell]; exact hx i (by omega)⟩⟩
end Go.Proofs.Ytacigmnnekphmaa
