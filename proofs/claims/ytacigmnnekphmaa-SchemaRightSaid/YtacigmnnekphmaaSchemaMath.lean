/- Forms and schemas by plain lists: when they are right, what they are as bytes, how bytes are read. No condition. -/
import Derived.Test.YtacigmnnekphmaaSchemaOpen
import Derived.Test.YtacigmnnekphmaaFieldMath
import Derived.Test.YtacigmnnekphmaaPenMath
namespace Go.Proofs.Ytacigmnnekphmaa.schema
open Go.RowKit Go.Proofs.Ytacigmnnekphmaa.pen
set_option linter.unusedVariables false

instance : DecidableEq field.Fd := fun a b =>
  if h : a.id = b.id ∧ a.kind = b.kind ∧ a.lo = b.lo ∧ a.hi = b.hi ∧ a.most = b.most then isTrue (by cases a; cases b; simp_all) else isFalse (by rintro rfl; simp at h)
abbrev Form := Int × List field.Fd
def Fm.p (f : Fm) : Form := (f.id, f.fL)
def forms (F : List Fm) : List Form := F.map Fm.p
theorem forms_length (F : List Fm) : (forms F).length = F.length := List.length_map _
theorem forms_at {F : List Fm} {i : Nat} {p : Fm} (h : F[i]? = some p) : (forms F)[i]? = some p.p := by simp [forms, h]
def size (L : List field.Fd) : Nat := (L.map field.Fd.size).sum
def ids (L : List field.Fd) : List Int := L.map field.Fd.id
def FineF (L : List field.Fd) : Prop := (∀ f ∈ L, f.Right) ∧ (ids L).Nodup
instance (L : List field.Fd) : Decidable (FineF L) := by unfold FineF; infer_instance
def Fine (p : Form) : Prop := (0 ≤ p.1 ∧ p.1 ≤ 200) ∧ (1 ≤ p.2.length ∧ p.2.length ≤ 8) ∧ FineF p.2 ∧ size p.2 ≤ 64
instance (p : Form) : Decidable (Fine p) := by unfold Fine; infer_instance
def FineS (F : List Form) : Prop := (∀ p ∈ F, Fine p) ∧ (F.map (·.1)).Pairwise (· < ·)
instance (F : List Form) : Decidable (FineS F) := by unfold FineS; infer_instance
def Right (v : Int) (F : List Form) : Prop := (1 ≤ v ∧ v ≤ 65535) ∧ F.length ≤ 8 ∧ FineS F
instance (v : Int) (F : List Form) : Decidable (Right v F) := by unfold Right; infer_instance

theorem fd_size_le (f : field.Fd) : f.size ≤ 33 := by
  have := @field.wide_le
  unfold field.Fd.size
  split
  · rename_i h
    split
    · unfold field.Fd.Right at h; omega
    · exact Nat.le_trans (this _) (by omega)
  · omega
theorem size_le (L : List field.Fd) : size L ≤ 33 * L.length := by
  induction L with
  | nil => simp [size]
  | cons f L ih =>
    have := fd_size_le f
    simp only [size, List.map_cons, List.sum_cons, List.length_cons] at ih ⊢
    omega
theorem take_succ_at {α : Type} {L : List α} {k : Nat} {x : α} (h : L[k]? = some x) : L.take (k + 1) = L.take k ++ [x] := by
  rw [List.take_add_one, h]; rfl
theorem size_succ {L : List field.Fd} {k : Nat} {x : field.Fd} (h : L[k]? = some x) : size (L.take (k + 1)) = size (L.take k) + x.size := by
  rw [take_succ_at h]; simp [size]
theorem size_take (L : List field.Fd) (k : Nat) : size (L.take k) ≤ 33 * k := by
  have := size_le (L.take k)
  simp at this
  omega
/-- the fields, one by one -/
theorem FineF.nil : FineF [] := ⟨by simp, by simp [ids]⟩
theorem fineF_succ {L : List field.Fd} {k : Nat} {x : field.Fd} (h : L[k]? = some x) : FineF (L.take (k + 1)) ↔ FineF (L.take k) ∧ x.Right ∧ x.id ∉ ids (L.take k) := by
  rw [take_succ_at h]
  unfold FineF ids
  simp only [List.map_append, List.map_cons, List.map_nil, List.nodup_append, List.mem_append, List.mem_singleton]
  constructor
  · rintro ⟨h1, h2, h3, h4⟩
    refine ⟨⟨fun f hf => h1 f (.inl hf), h2⟩, h1 x (.inr rfl), fun hm => h4 _ hm _ rfl rfl⟩
  · rintro ⟨⟨h1, h2⟩, h3, h4⟩
    refine ⟨fun f hf => hf.elim (h1 f) (fun e => e ▸ h3), h2, by simp, fun a ha b hb e => h4 (by rw [← hb, ← e]; exact ha)⟩
theorem fineF_take {L : List field.Fd} (h : FineF L) (k : Nat) : FineF (L.take k) :=
  ⟨fun f hf => h.1 f (List.mem_of_mem_take hf), by unfold ids; rw [List.map_take]; exact h.2.sublist (List.take_sublist _ _)⟩
theorem fineF_no {L : List field.Fd} {k : Nat} {x : field.Fd} (h : L[k]? = some x) (hn : ¬ (x.Right ∧ x.id ∉ ids (L.take k))) : ¬ FineF L := fun hf => hn ((fineF_succ h).1 (fineF_take hf _)).2
/-- the forms, one by one -/
theorem FineS.nil : FineS [] := ⟨by simp, by simp⟩
theorem fineS_succ {F : List Form} {k : Nat} {x : Form} (h : F[k]? = some x) : FineS (F.take (k + 1)) ↔ FineS (F.take k) ∧ Fine x ∧ ∀ p ∈ F.take k, p.1 < x.1 := by
  rw [take_succ_at h]
  unfold FineS
  simp only [List.map_append, List.map_cons, List.map_nil, List.pairwise_append, List.mem_append, List.mem_singleton, List.mem_map]
  constructor
  · rintro ⟨h1, h2, h3, h4⟩
    exact ⟨⟨fun f hf => h1 f (.inl hf), h2⟩, h1 x (.inr rfl), fun p hp => h4 _ ⟨p, hp, rfl⟩ _ rfl⟩
  · rintro ⟨⟨h1, h2⟩, h3, h4⟩
    exact ⟨fun f hf => hf.elim (h1 f) (fun e => e ▸ h3), h2, by simp, by rintro a ⟨p, hp, rfl⟩ b rfl; exact h4 p hp⟩
theorem fineS_take {F : List Form} (h : FineS F) (k : Nat) : FineS (F.take k) :=
  ⟨fun f hf => h.1 f (List.mem_of_mem_take hf), by rw [List.map_take]; exact h.2.sublist (List.take_sublist _ _)⟩
theorem fineS_no {F : List Form} {k : Nat} {x : Form} (h : F[k]? = some x) (hn : ¬ (Fine x ∧ ∀ p ∈ F.take k, p.1 < x.1)) : ¬ FineS F := fun hf => hn ((fineS_succ h).1 (fineS_take hf _)).2
/-- the last before k decides -/
theorem rise {F : List Form} {k : Nat} {y x : Form} (hy : F[k]? = some y) (hk : FineS (F.take (k + 1))) : (∀ p ∈ F.take (k + 1), p.1 < x.1) ↔ y.1 < x.1 := by
  have h1 := (fineS_succ hy).1 hk
  rw [take_succ_at hy]
  constructor
  · intro h; exact h y (by simp)
  · intro h p hp
    rcases List.mem_append.1 hp with h2 | h2
    · have := h1.2.2 p h2; omega
    · obtain rfl := List.mem_singleton.1 h2; exact h

/-! bytes -/
def fieldB (f : field.Fd) : List Nat := vb f.id.toNat ++ vb f.kind.toNat ++ (if f.kind = 1 then vb (zig f.lo) ++ vb (zig f.hi) else if f.kind = 3 ∨ f.kind = 4 then vb f.most.toNat else [])
def fieldsB (L : List field.Fd) : List Nat := (L.map fieldB).flatten
def formB (p : Form) : List Nat := vb p.1.toNat ++ vb p.2.length ++ fieldsB p.2
def formsB (F : List Form) : List Nat := (F.map formB).flatten
def schemaB (v : Int) (F : List Form) : List Nat := vb v.toNat ++ vb F.length ++ formsB F
theorem fieldsB_succ {L : List field.Fd} {k : Nat} {x : field.Fd} (h : L[k]? = some x) : fieldsB (L.take (k + 1)) = fieldsB (L.take k) ++ fieldB x := by
  rw [take_succ_at h]; simp [fieldsB]
theorem formsB_succ {F : List Form} {k : Nat} {x : Form} (h : F[k]? = some x) : formsB (F.take (k + 1)) = formsB (F.take k) ++ formB x := by
  rw [take_succ_at h]; simp [formsB]
theorem right_span {f : field.Fd} (h : f.Right) : (0 ≤ f.id ∧ f.id ≤ 255) ∧ (1 ≤ f.kind ∧ f.kind ≤ 4) ∧ (-1099511627776 ≤ f.lo ∧ f.lo ≤ 1099511627776) ∧ (-1099511627776 ≤ f.hi ∧ f.hi ≤ 1099511627776) ∧ (0 ≤ f.most ∧ f.most ≤ 1000) := by
  unfold field.Fd.Right at h; omega
theorem fieldB_len {f : field.Fd} (h : f.Right) : (fieldB f).length ≤ 40 := by
  have hs := right_span h
  have h1 := vb_ten f.id.toNat (by omega)
  have h2 := vb_ten f.kind.toNat (by omega)
  have h3 := vb_ten (zig f.lo) (zig_lt _ (by omega) (by omega))
  have h4 := vb_ten (zig f.hi) (zig_lt _ (by omega) (by omega))
  have h5 := vb_ten f.most.toNat (by omega)
  unfold fieldB
  split <;> (try split) <;> simp only [List.length_append, List.length_nil] <;> omega
theorem fieldsB_len {L : List field.Fd} (h : ∀ f ∈ L, f.Right) : (fieldsB L).length ≤ 40 * L.length := by
  induction L with
  | nil => simp [fieldsB]
  | cons f L ih =>
    have h1 := fieldB_len (h f (by simp))
    have h2 := ih (fun g hg => h g (by simp [hg]))
    simp only [fieldsB, List.map_cons, List.flatten_cons, List.length_append, List.length_cons] at h2 ⊢
    omega
theorem formB_len {p : Form} (h : Fine p) : (formB p).length ≤ 340 := by
  have h1 := vb_ten p.1.toNat (by have := h.1; omega)
  have h2 := vb_ten p.2.length (by have := h.2.1; omega)
  have h3 := fieldsB_len h.2.2.1.1
  have := h.2.1
  simp only [formB, List.length_append]
  omega
theorem formsB_len {F : List Form} (h : ∀ p ∈ F, Fine p) : (formsB F).length ≤ 340 * F.length := by
  induction F with
  | nil => simp [formsB]
  | cons f L ih =>
    have h1 := formB_len (h f (by simp))
    have h2 := ih (fun g hg => h g (by simp [hg]))
    simp only [formsB, List.map_cons, List.flatten_cons, List.length_append, List.length_cons] at h2 ⊢
    omega
/-! reading -/
def takeF (s : Sight) : field.Fd × Sight :=
  let a := eCount 255 s
  let k := eCount 4 a.2
  if k.1 = 1 then let l := eInt k.2; let h := eInt l.2; (⟨a.1, 1, l.1, h.1, 0⟩, h.2)
  else if k.1 = 3 ∨ k.1 = 4 then let m := eCount 1000 k.2; (⟨a.1, k.1, 0, 0, m.1⟩, m.2)
  else (⟨a.1, k.1, 0, 0, 0⟩, k.2)
def takeFs : Nat → Sight → List field.Fd × Sight
  | 0, s => ([], s)
  | n + 1, s => ((takeFs n s).1 ++ [(takeF (takeFs n s).2).1], (takeF (takeFs n s).2).2)
def takeFm (s : Sight) : Form × Sight :=
  let a := eCount 200 s
  let n := eCount 8 a.2
  let r := takeFs n.1 n.2
  (((a.1 : Int), r.1), r.2)
def takeFms : Nat → Sight → List Form × Sight
  | 0, s => ([], s)
  | n + 1, s => ((takeFms n s).1 ++ [(takeFm (takeFms n s).2).1], (takeFm (takeFms n s).2).2)
theorem takeFs_len (n : Nat) (s : Sight) : (takeFs n s).1.length = n := by
  induction n with
  | zero => rfl
  | succ n ih => simp [takeFs, ih]
theorem takeFms_len (n : Nat) (s : Sight) : (takeFms n s).1.length = n := by
  induction n with
  | zero => rfl
  | succ n ih => simp [takeFms, ih]
/-- what is read of bytes, before it is checked -/
def readV (xs : List Nat) : Nat × Sight := eCount 65535 (xs, 0)
def readN (xs : List Nat) : Nat × Sight := eCount 8 (readV xs).2
def readF (xs : List Nat) : List Form × Sight := takeFms (readN xs).1 (readN xs).2
/-- the schema of bytes, and the error -/
def parsed (xs : List Nat) : Int × List Form × Nat :=
  if eEnd (readF xs).2 ≠ 0 then (0, [], eEnd (readF xs).2)
  else if Right (readV xs).1 (readF xs).1 then ((readV xs).1, (readF xs).1, 0)
  else (0, [], 2)
end Go.Proofs.Ytacigmnnekphmaa.schema
