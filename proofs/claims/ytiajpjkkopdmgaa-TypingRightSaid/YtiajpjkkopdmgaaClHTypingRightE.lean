/- Lemmas of the claim HTypingRight. Each says its own conditions. -/
import Derived.Test.YtiajpjkkopdmgaaClHTypingRightD
import Derived.Test.YtiajpjkkopdmgaaClHTypingRightB
import Derived.Test.YtiajpjkkopdmgaaClHTypingRightA
import Derived.IntWalk
import Derived.Handy
/- Forms and schemas by plain lists: when they are right, what they are as bytes, how bytes are read. No condition. -/
namespace Go.Proofs.Ytiajpjkkopdmgaa.schema
open Go.RowKit Go.Proofs.Ytiajpjkkopdmgaa.pen
set_option linter.unusedVariables false

instance : DecidableEq field.Fd := fun a b =>
  if h : a.id = b.id ∧ a.kind = b.kind ∧ a.lo = b.lo ∧ a.hi = b.hi ∧ a.most = b.most then isTrue (by cases a; cases b; simp_all) else isFalse (by rintro rfl; simp at h)
abbrev Form := Int × List field.Fd
def Fm.p (f : Fm) : Form := (f.id, f.fL)
def forms (F : List Fm) : List Form := F.map Fm.p
theorem forms_length (F : List Fm) : (forms F).length = F.length := List.length_map _
theorem forms_at {F : List Fm} {i : Nat} {p : Fm} (h : F[i]? = some p) : (forms F)[i]? = some p.p := by simp [forms, h]
def size (L : List field.Fd) : Nat := (L.map field.Fd.size).sum
def ids (L : List field.Fd) : List Int := L.map field.Fd.id
def FineF (L : List field.Fd) : Prop := (∀ f ∈ L, f.Right) ∧ (ids L).Nodup
instance (L : List field.Fd) : Decidable (FineF L) := by unfold FineF; infer_instance
def Fine (p : Form) : Prop := (0 ≤ p.1 ∧ p.1 ≤ 200) ∧ (1 ≤ p.2.length ∧ p.2.length ≤ 8) ∧ FineF p.2 ∧ size p.2 ≤ 64
instance (p : Form) : Decidable (Fine p) := by unfold Fine; infer_instance
def FineS (F : List Form) : Prop := (∀ p ∈ F, Fine p) ∧ (F.map (·.1)).Pairwise (· < ·)
instance (F : List Form) : Decidable (FineS F) := by unfold FineS; infer_instance
def Right (v : Int) (F : List Form) : Prop := (1 ≤ v ∧ v ≤ 65535) ∧ F.length ≤ 8 ∧ FineS F
instance (v : Int) (F : List Form) : Decidable (Right v F) := by unfold Right; infer_instance

theorem fd_size_le (f : field.Fd) : f.size ≤ 33 := by
  have := @field.wide_le
  unfold field.Fd.size
  split
  · rename_i h
    split
    · unfold field.Fd.Right at h; omega
    · exact Nat.le_trans (this _) (by omega)
  · omega
theorem size_le (L : List field.Fd) : size L ≤ 33 * L.length := by
  induction L with
  | nil => simp [size]
  | cons f L ih =>
    have := fd_size_le f
    simp only [size, List.map_cons, List.sum_cons, List.length_cons] at ih ⊢
    omega
theorem take_succ_at {α : Type} {L : List α} {k : Nat} {x : α} (h : L[k]? = some x) : L.take (k + 1) = L.take k ++ [x] := by
  rw [List.take_add_one, h]; rfl
theorem size_succ {L : List field.Fd} {k : Nat} {x : field.Fd} (h : L[k]? = some x) : size (L.take (k + 1)) = size (L.take k) + x.size := by
  rw [take_succ_at h]; simp [size]
theorem size_take (L : List field.Fd) (k : Nat) : size (L.take k) ≤ 33 * k := by
  have := size_le (L.take k)
  simp at this
  omega
/-- the fields, one by one -/
theorem FineF.nil : FineF [] := ⟨by simp, by simp [ids]⟩
theorem fineF_succ {L : List field.Fd} {k : Nat} {x : field.Fd} (h : L[k]? = some x) : FineF (L.take (k + 1)) ↔ FineF (L.take k) ∧ x.Right ∧ x.id ∉ ids (L.take k) := by
  rw [take_succ_at h]
  unfold FineF ids
  simp only [List.map_append, List.map_cons, List.map_nil, List.nodup_append, List.mem_append, List.mem_singleton]
  constructor
  · rintro ⟨h1, h2, h3, h4⟩
    refine ⟨⟨fun f hf => h1 f (.inl hf), h2⟩, h1 x (.inr rfl), fun hm => h4 _ hm _ rfl rfl⟩
  · rintro ⟨⟨h1, h2⟩, h3, h4⟩
    refine ⟨fun f hf => hf.elim (h1 f) (fun e => e ▸ h3), h2, by simp, fun a ha b hb e => h4 (by rw [← hb, ← e]; exact ha)⟩
theorem fineF_take {L : List field.Fd} (h : FineF L) (k : Nat) : FineF (L.take k) :=
  ⟨fun f hf => h.1 f (List.mem_of_mem_take hf), by unfold ids; rw [List.map_take]; exact h.2.sublist (List.take_sublist _ _)⟩
theorem fineF_no {L : List field.Fd} {k : Nat} {x : field.Fd} (h : L[k]? = some x) (hn : ¬ (x.Right ∧ x.id ∉ ids (L.take k))) : ¬ FineF L := fun hf => hn ((fineF_succ h).1 (fineF_take hf _)).2
/-- the forms, one by one -/
theorem FineS.nil : FineS [] := ⟨by simp, by simp⟩
theorem fineS_succ {F : List Form} {k : Nat} {x : Form} (h : F[k]? = some x) : FineS (F.take (k + 1)) ↔ FineS (F.take k) ∧ Fine x ∧ ∀ p ∈ F.take k, p.1 < x.1 := by
  rw [take_succ_at h]
  unfold FineS
  simp only [List.map_append, List.map_cons, List.map_nil, List.pairwise_append, List.mem_append, List.mem_singleton, List.mem_map]
  constructor
  · rintro ⟨h1, h2, h3, h4⟩
    exact ⟨⟨fun f hf => h1 f (.inl hf), h2⟩, h1 x (.inr rfl), fun p hp => h4 _ ⟨p, hp, rfl⟩ _ rfl⟩
  · rintro ⟨⟨h1, h2⟩, h3, h4⟩
    exact ⟨fun f hf => hf.elim (h1 f) (fun e => e ▸ h3), h2, by simp, by rintro a ⟨p, hp, rfl⟩ b rfl; exact h4 p hp⟩
theorem fineS_take {F : List Form} (h : FineS F) (k : Nat) : FineS (F.take k) :=
  ⟨fun f hf => h.1 f (List.mem_of_mem_take hf), by rw [List.map_take]; exact h.2.sublist (List.take_sublist _ _)⟩
theorem fineS_no {F : List Form} {k : Nat} {x : Form} (h : F[k]? = some x) (hn : ¬ (Fine x ∧ ∀ p ∈ F.take k, p.1 < x.1)) : ¬ FineS F := fun hf => hn ((fineS_succ h).1 (fineS_take hf _)).2
/-- the last before k decides -/
theorem rise {F : List Form} {k : Nat} {y x : Form} (hy : F[k]? = some y) (hk : FineS (F.take (k + 1))) : (∀ p ∈ F.take (k + 1), p.1 < x.1) ↔ y.1 < x.1 := by
  have h1 := (fineS_succ hy).1 hk
  rw [take_succ_at hy]
  constructor
  · intro h; exact h y (by simp)
  · intro h p hp
    rcases List.mem_append.1 hp with h2 | h2
    · have := h1.2.2 p h2; omega
    · obtain rfl := List.mem_singleton.1 h2; exact h

/-! bytes -/
def fieldB (f : field.Fd) : List Nat := vb f.id.toNat ++ vb f.kind.toNat ++ (if f.kind = 1 then vb (zig f.lo) ++ vb (zig f.hi) else if f.kind = 3 ∨ f.kind = 4 then vb f.most.toNat else [])
def fieldsB (L : List field.Fd) : List Nat := (L.map fieldB).flatten
def formB (p : Form) : List Nat := vb p.1.toNat ++ vb p.2.length ++ fieldsB p.2
def formsB (F : List Form) : List Nat := (F.map formB).flatten
def schemaB (v : Int) (F : List Form) : List Nat := vb v.toNat ++ vb F.length ++ formsB F
theorem fieldsB_succ {L : List field.Fd} {k : Nat} {x : field.Fd} (h : L[k]? = some x) : fieldsB (L.take (k + 1)) = fieldsB (L.take k) ++ fieldB x := by
  rw [take_succ_at h]; simp [fieldsB]
theorem formsB_succ {F : List Form} {k : Nat} {x : Form} (h : F[k]? = some x) : formsB (F.take (k + 1)) = formsB (F.take k) ++ formB x := by
  rw [take_succ_at h]; simp [formsB]
theorem right_span {f : field.Fd} (h : f.Right) : (0 ≤ f.id ∧ f.id ≤ 255) ∧ (1 ≤ f.kind ∧ f.kind ≤ 4) ∧ (-1099511627776 ≤ f.lo ∧ f.lo ≤ 1099511627776) ∧ (-1099511627776 ≤ f.hi ∧ f.hi ≤ 1099511627776) ∧ (0 ≤ f.most ∧ f.most ≤ 1000) := by
  unfold field.Fd.Right at h; omega
theorem fieldB_len {f : field.Fd} (h : f.Right) : (fieldB f).length ≤ 40 := by
  have hs := right_span h
  have h1 := vb_ten f.id.toNat (by omega)
  have h2 := vb_ten f.kind.toNat (by omega)
  have h3 := vb_ten (zig f.lo) (zig_lt _ (by omega) (by omega))
  have h4 := vb_ten (zig f.hi) (zig_lt _ (by omega) (by omega))
  have h5 := vb_ten f.most.toNat (by omega)
  unfold fieldB
  split <;> (try split) <;> simp only [List.length_append, List.length_nil] <;> omega
theorem fieldsB_len {L : List field.Fd} (h : ∀ f ∈ L, f.Right) : (fieldsB L).length ≤ 40 * L.length := by
  induction L with
  | nil => simp [fieldsB]
  | cons f L ih =>
    have h1 := fieldB_len (h f (by simp))
    have h2 := ih (fun g hg => h g (by simp [hg]))
    simp only [fieldsB, List.map_cons, List.flatten_cons, List.length_append, List.length_cons] at h2 ⊢
    omega
theorem formB_len {p : Form} (h : Fine p) : (formB p).length ≤ 340 := by
  have h1 := vb_ten p.1.toNat (by have := h.1; omega)
  have h2 := vb_ten p.2.length (by have := h.2.1; omega)
  have h3 := fieldsB_len h.2.2.1.1
  have := h.2.1
  simp only [formB, List.length_append]
  omega
theorem formsB_len {F : List Form} (h : ∀ p ∈ F, Fine p) : (formsB F).length ≤ 340 * F.length := by
  induction F with
  | nil => simp [formsB]
  | cons f L ih =>
    have h1 := formB_len (h f (by simp))
    have h2 := ih (fun g hg => h g (by simp [hg]))
    simp only [formsB, List.map_cons, List.flatten_cons, List.length_append, List.length_cons] at h2 ⊢
    omega
/-! reading -/
def takeF (s : Sight) : field.Fd × Sight :=
  let a := eCount 255 s
  let k := eCount 4 a.2
  if k.1 = 1 then let l := eInt k.2; let h := eInt l.2; (⟨a.1, 1, l.1, h.1, 0⟩, h.2)
  else if k.1 = 3 ∨ k.1 = 4 then let m := eCount 1000 k.2; (⟨a.1, k.1, 0, 0, m.1⟩, m.2)
  else (⟨a.1, k.1, 0, 0, 0⟩, k.2)
def takeFs : Nat → Sight → List field.Fd × Sight
  | 0, s => ([], s)
  | n + 1, s => ((takeFs n s).1 ++ [(takeF (takeFs n s).2).1], (takeF (takeFs n s).2).2)
def takeFm (s : Sight) : Form × Sight :=
  let a := eCount 200 s
  let n := eCount 8 a.2
  let r := takeFs n.1 n.2
  (((a.1 : Int), r.1), r.2)
def takeFms : Nat → Sight → List Form × Sight
  | 0, s => ([], s)
  | n + 1, s => ((takeFms n s).1 ++ [(takeFm (takeFms n s).2).1], (takeFm (takeFms n s).2).2)
theorem takeFs_len (n : Nat) (s : Sight) : (takeFs n s).1.length = n := by
  induction n with
  | zero => rfl
  | succ n ih => simp [takeFs, ih]
theorem takeFms_len (n : Nat) (s : Sight) : (takeFms n s).1.length = n := by
  induction n with
  | zero => rfl
  | succ n ih => simp [takeFms, ih]
/-- what is read of bytes, before it is checked -/
def readV (xs : List Nat) : Nat × Sight := eCount 65535 (xs, 0)
def readN (xs : List Nat) : Nat × Sight := eCount 8 (readV xs).2
def readF (xs : List Nat) : List Form × Sight := takeFms (readN xs).1 (readN xs).2
/-- the schema of bytes, and the error -/
def parsed (xs : List Nat) : Int × List Form × Nat :=
  if eEnd (readF xs).2 ≠ 0 then (0, [], eEnd (readF xs).2)
  else if Right (readV xs).1 (readF xs).1 then ((readV xs).1, (readF xs).1, 0)
  else (0, [], 2)
end Go.Proofs.Ytiajpjkkopdmgaa.schema
/- Contracts of layer 12 (field): within, unbounded, Right. No condition. -/
namespace Go.Proofs.Ytiajpjkkopdmgaa.field
open Go.RowKit
set_option linter.unusedVariables false

/-- the call returns v, and nothing that was there has turned -/
def Gives (v : Value) (w : World) (e : Ending) (w' : World) : Prop := e = .returned v ∧ Below w.heap.size w w'
theorem newB (w : World) (d : Obj) : Below w.heap.size w (w.alloc d) := (Below.refl _ _).alloc (Nat.le_refl _) _
/-- a field that has just been boxed stays -/
theorem five (f : Fd) (w w' : World) (hb : Below (w.alloc (.cells #[.int .i64 f.id, .int .i64 f.kind, .int .i64 f.lo, .int .i64 f.hi, .int .i64 f.most] 26)).heap.size (w.alloc (.cells #[.int .i64 f.id, .int .i64 f.kind, .int .i64 f.lo, .int .i64 f.hi, .int .i64 f.most] 26)) w') : (w'.cell? ⟨w.heap.size, 0, none⟩ = some (.int .i64 f.id) ∧ w'.cell? ⟨w.heap.size, 1, none⟩ = some (.int .i64 f.kind) ∧ w'.cell? ⟨w.heap.size, 2, none⟩ = some (.int .i64 f.lo) ∧ w'.cell? ⟨w.heap.size, 3, none⟩ = some (.int .i64 f.hi) ∧ w'.cell? ⟨w.heap.size, 4, none⟩ = some (.int .i64 f.most)) := by
  have hB := (Block.new w 26 [.int .i64 f.id, .int .i64 f.kind, .int .i64 f.lo, .int .i64 f.hi, .int .i64 f.most]).later hb
  exact ⟨hB.cell 0, hB.cell 1, hB.cell 2, hB.cell 3, hB.cell 4⟩
theorem belowF (f : Fd) (w w' : World) (hb : Below (w.alloc (.cells #[.int .i64 f.id, .int .i64 f.kind, .int .i64 f.lo, .int .i64 f.hi, .int .i64 f.most] 26)).heap.size (w.alloc (.cells #[.int .i64 f.id, .int .i64 f.kind, .int .i64 f.lo, .int .i64 f.hi, .int .i64 f.most] 26)) w') : Below w.heap.size w w' := ((Below.refl _ _).alloc (Nat.le_refl _) _).trans (hb.mono (by simp))

theorem within_yes (n lo hi : Int) (w : World) (h1 : lo ≤ n) (h2 : n ≤ hi) : Calls Try.prog 100 #[.int .i64 n, .int .i64 lo, .int .i64 hi] w fun e w' => e = .returned (.bool true) ∧ w = w' := by
  go_enter Try.func100, Try.ntmps100
  go_wp2
  go_ret
  exact ⟨rfl, rfl⟩
theorem within_no (n lo hi : Int) (w : World) (h : n < lo ∨ hi < n) : Calls Try.prog 100 #[.int .i64 n, .int .i64 lo, .int .i64 hi] w fun e w' => e = .returned (.bool false) ∧ w = w' := by
  by_cases h1 : n < lo
  · clear h
    go_enter Try.func100, Try.ntmps100
    go_wp2
    go_ret
    exact ⟨rfl, rfl⟩
  · have h2 : hi < n := by omega
    have h3 : lo ≤ n := by omega
    have hd : decide (n ≤ hi) = false := decide_eq_false (by omega)
    clear h h1
    go_enter Try.func100, Try.ntmps100
    go_wp2
    go_ret
    exact ⟨rfl, rfl⟩
theorem unbounded_yes (i k m : Int) (w : World) : Calls Try.prog 108 #[.agg #[.int .i64 i, .int .i64 k, .int .i64 0, .int .i64 0, .int .i64 m]] w (Gives (.bool true) w) := by
  unfold Gives
  go_enter Try.func108, Try.ntmps108
  go_wp2
  go_ret
  exact ⟨rfl, newB _ _⟩
theorem unbounded_no (i k lo hi m : Int) (h : lo ≠ 0 ∨ hi ≠ 0) (w : World) : Calls Try.prog 108 #[.agg #[.int .i64 i, .int .i64 k, .int .i64 lo, .int .i64 hi, .int .i64 m]] w (Gives (.bool false) w) := by
  unfold Gives
  by_cases h1 : lo = 0
  · have h2 : (hi == 0) = false := by rw [beq_eq_false_iff_ne]; omega
    subst h1
    clear h
    go_enter Try.func108, Try.ntmps108
    go_wp2
    go_ret
    exact ⟨rfl, newB _ _⟩
  · have h2 : (lo == 0) = false := by rw [beq_eq_false_iff_ne]; omega
    clear h h1
    go_enter Try.func108, Try.ntmps108
    go_wp2
    go_ret
    exact ⟨rfl, newB _ _⟩
theorem right_yes (f : Fd) (h : f.Right) (w : World) : Calls Try.prog 93 #[.agg #[.int .i64 f.id, .int .i64 f.kind, .int .i64 f.lo, .int .i64 f.hi, .int .i64 f.most]] w (Gives (.bool true) w) := by
  have HB := hid (belowF f w)
  have HS := hid (five f w)
  obtain ⟨i, k, lo, hi, m⟩ := f
  obtain ⟨⟨h1, h2⟩, h⟩ := h
  simp only at h h1 h2 HB HS ⊢
  have hw0 := within_yes i 0 255 (w.alloc (.cells #[.int .i64 i, .int .i64 k, .int .i64 lo, .int .i64 hi, .int .i64 m] 26)) h1 h2
  clear h1 h2
  unfold Gives
  rcases h with ⟨rfl, h1, h2, h3, rfl⟩ | ⟨rfl, ⟨rfl, rfl⟩, rfl⟩ | ⟨rfl, ⟨rfl, rfl⟩, h1, h2⟩ | ⟨rfl, ⟨rfl, rfl⟩, h1, h2⟩
  all_goals
    go_enter Try.func93, Try.ntmps93
    go_wp2_with (first
      | (go_at_call 100; (with_reducible refine hw0.mono ?_); rintro e w' ⟨rfl, rfl⟩; clear hw0)
      | (go_at_call 100; (with_reducible refine (within_yes _ _ _ _ h1 h2).mono ?_); rintro e w' ⟨rfl, rfl⟩)
      | (go_at_call 108; (with_reducible refine (unbounded_yes _ _ _ _).mono ?_); rintro e w1 ⟨rfl, hb1⟩; have hk1 := HS.out w1 hb1))
    go_ret
    exact ⟨rfl, HB.out _ (by first | assumption | exact Below.refl _ _)⟩
/-- why a field is not right -/
theorem Fd.wrong {i k lo hi m : Int} (h : ¬ (⟨i, k, lo, hi, m⟩ : Fd).Right) : (i < 0 ∨ 255 < i) ∨ ((0 ≤ i ∧ i ≤ 255) ∧ (
    (k = 1 ∧ ((lo > hi) ∨ (lo ≤ hi ∧ lo < -1099511627776) ∨ (lo ≤ hi ∧ -1099511627776 ≤ lo ∧ 1099511627776 < hi) ∨ (lo ≤ hi ∧ -1099511627776 ≤ lo ∧ hi ≤ 1099511627776 ∧ m ≠ 0))) ∨
    (k = 2 ∧ ((lo ≠ 0 ∨ hi ≠ 0) ∨ ((lo = 0 ∧ hi = 0) ∧ m ≠ 0))) ∨
    (k = 3 ∧ ((lo ≠ 0 ∨ hi ≠ 0) ∨ ((lo = 0 ∧ hi = 0) ∧ (m < 1 ∨ 1000 < m)))) ∨
    (k = 4 ∧ ((lo ≠ 0 ∨ hi ≠ 0) ∨ ((lo = 0 ∧ hi = 0) ∧ (m < 0 ∨ 32 < m)))) ∨
    (k ≠ 1 ∧ k ≠ 2 ∧ k ≠ 3 ∧ k ≠ 4))) := by
  unfold Fd.Right at h
  simp only at h
  omega
theorem right_no (f : Fd) (h : ¬ f.Right) (w : World) : Calls Try.prog 93 #[.agg #[.int .i64 f.id, .int .i64 f.kind, .int .i64 f.lo, .int .i64 f.hi, .int .i64 f.most]] w (Gives (.bool false) w) := by
  have HB := hid (belowF f w)
  have HS := hid (five f w)
  obtain ⟨i, k, lo, hi, m⟩ := f
  replace h := Fd.wrong h
  simp only at h HB HS ⊢
  unfold Gives
  rcases h with hn | ⟨⟨h1, h2⟩, h⟩
  · have hw0 := within_no i 0 255 (w.alloc (.cells #[.int .i64 i, .int .i64 k, .int .i64 lo, .int .i64 hi, .int .i64 m] 26)) hn
    clear hn
    go_enter Try.func93, Try.ntmps93
    go_wp2_with (go_at_call 100; (with_reducible refine hw0.mono ?_); rintro e w' ⟨rfl, rfl⟩; clear hw0)
    go_ret
    exact ⟨rfl, HB.out _ (Below.refl _ _)⟩
  have hw0 := within_yes i 0 255 (w.alloc (.cells #[.int .i64 i, .int .i64 k, .int .i64 lo, .int .i64 hi, .int .i64 m] 26)) h1 h2
  clear h1 h2
  rcases h with ⟨rfl, h⟩ | ⟨rfl, h⟩ | ⟨rfl, h⟩ | ⟨rfl, h⟩ | ⟨n1, n2, n3, n4⟩
  · rcases h with h | ⟨h1, h⟩ | ⟨h1, h2, h⟩ | ⟨h1, h2, h3, h⟩
    · have hd : decide (lo ≤ hi) = false := decide_eq_false (by omega)
      clear h
      go_enter Try.func93, Try.ntmps93
      go_wp2_with (first
        | (go_at_call 100; (with_reducible refine hw0.mono ?_); rintro e w' ⟨rfl, rfl⟩; clear hw0)
        | (go_at_call 100; (with_reducible refine (within_no _ _ _ _ hn).mono ?_); rintro e w' ⟨rfl, rfl⟩)
        | (go_at_call 108; (with_reducible refine (unbounded_yes _ _ _ _).mono ?_); rintro e w1 ⟨rfl, hb1⟩; have hk1 := HS.out w1 hb1)
        | (go_at_call 108; (with_reducible refine (unbounded_no _ _ _ _ _ hn _).mono ?_); rintro e w1 ⟨rfl, hb1⟩; have hk1 := HS.out w1 hb1))
      go_ret
      exact ⟨rfl, HB.out _ (by first | assumption | exact Below.refl _ _)⟩
    · have hd : decide (lo ≥ -1099511627776) = false := decide_eq_false (by omega)
      clear h
      go_enter Try.func93, Try.ntmps93
      go_wp2_with (first
        | (go_at_call 100; (with_reducible refine hw0.mono ?_); rintro e w' ⟨rfl, rfl⟩; clear hw0)
        | (go_at_call 100; (with_reducible refine (within_no _ _ _ _ hn).mono ?_); rintro e w' ⟨rfl, rfl⟩)
        | (go_at_call 108; (with_reducible refine (unbounded_yes _ _ _ _).mono ?_); rintro e w1 ⟨rfl, hb1⟩; have hk1 := HS.out w1 hb1)
        | (go_at_call 108; (with_reducible refine (unbounded_no _ _ _ _ _ hn _).mono ?_); rintro e w1 ⟨rfl, hb1⟩; have hk1 := HS.out w1 hb1))
      go_ret
      exact ⟨rfl, HB.out _ (by first | assumption | exact Below.refl _ _)⟩
    · have hd : decide (hi ≤ 1099511627776) = false := decide_eq_false (by omega)
      have h2' : lo ≥ -1099511627776 := h2
      clear h
      go_enter Try.func93, Try.ntmps93
      go_wp2_with (first
        | (go_at_call 100; (with_reducible refine hw0.mono ?_); rintro e w' ⟨rfl, rfl⟩; clear hw0)
        | (go_at_call 100; (with_reducible refine (within_no _ _ _ _ hn).mono ?_); rintro e w' ⟨rfl, rfl⟩)
        | (go_at_call 108; (with_reducible refine (unbounded_yes _ _ _ _).mono ?_); rintro e w1 ⟨rfl, hb1⟩; have hk1 := HS.out w1 hb1)
        | (go_at_call 108; (with_reducible refine (unbounded_no _ _ _ _ _ hn _).mono ?_); rintro e w1 ⟨rfl, hb1⟩; have hk1 := HS.out w1 hb1))
      go_ret
      exact ⟨rfl, HB.out _ (by first | assumption | exact Below.refl _ _)⟩
    · have hd : (m == 0) = false := by rw [beq_eq_false_iff_ne]; exact h
      have h2' : lo ≥ -1099511627776 := h2
      clear h
      go_enter Try.func93, Try.ntmps93
      go_wp2_with (first
        | (go_at_call 100; (with_reducible refine hw0.mono ?_); rintro e w' ⟨rfl, rfl⟩; clear hw0)
        | (go_at_call 100; (with_reducible refine (within_no _ _ _ _ hn).mono ?_); rintro e w' ⟨rfl, rfl⟩)
        | (go_at_call 108; (with_reducible refine (unbounded_yes _ _ _ _).mono ?_); rintro e w1 ⟨rfl, hb1⟩; have hk1 := HS.out w1 hb1)
        | (go_at_call 108; (with_reducible refine (unbounded_no _ _ _ _ _ hn _).mono ?_); rintro e w1 ⟨rfl, hb1⟩; have hk1 := HS.out w1 hb1))
      go_ret
      exact ⟨rfl, HB.out _ (by first | assumption | exact Below.refl _ _)⟩
  · rcases h with hn | ⟨⟨rfl, rfl⟩, h⟩
    · go_enter Try.func93, Try.ntmps93
      go_wp2_with (first
        | (go_at_call 100; (with_reducible refine hw0.mono ?_); rintro e w' ⟨rfl, rfl⟩; clear hw0)
        | (go_at_call 100; (with_reducible refine (within_no _ _ _ _ hn).mono ?_); rintro e w' ⟨rfl, rfl⟩)
        | (go_at_call 108; (with_reducible refine (unbounded_yes _ _ _ _).mono ?_); rintro e w1 ⟨rfl, hb1⟩; have hk1 := HS.out w1 hb1)
        | (go_at_call 108; (with_reducible refine (unbounded_no _ _ _ _ _ hn _).mono ?_); rintro e w1 ⟨rfl, hb1⟩; have hk1 := HS.out w1 hb1))
      go_ret
      exact ⟨rfl, HB.out _ (by first | assumption | exact Below.refl _ _)⟩
    · have hd : (m == 0) = false := by rw [beq_eq_false_iff_ne]; exact h
      clear h
      go_enter Try.func93, Try.ntmps93
      go_wp2_with (first
        | (go_at_call 100; (with_reducible refine hw0.mono ?_); rintro e w' ⟨rfl, rfl⟩; clear hw0)
        | (go_at_call 100; (with_reducible refine (within_no _ _ _ _ hn).mono ?_); rintro e w' ⟨rfl, rfl⟩)
        | (go_at_call 108; (with_reducible refine (unbounded_yes _ _ _ _).mono ?_); rintro e w1 ⟨rfl, hb1⟩; have hk1 := HS.out w1 hb1)
        | (go_at_call 108; (with_reducible refine (unbounded_no _ _ _ _ _ hn _).mono ?_); rintro e w1 ⟨rfl, hb1⟩; have hk1 := HS.out w1 hb1))
      go_ret
      exact ⟨rfl, HB.out _ (by first | assumption | exact Below.refl _ _)⟩
  · rcases h with hn | ⟨⟨rfl, rfl⟩, hn⟩
    · go_enter Try.func93, Try.ntmps93
      go_wp2_with (first
        | (go_at_call 100; (with_reducible refine hw0.mono ?_); rintro e w' ⟨rfl, rfl⟩; clear hw0)
        | (go_at_call 100; (with_reducible refine (within_no _ _ _ _ hn).mono ?_); rintro e w' ⟨rfl, rfl⟩)
        | (go_at_call 108; (with_reducible refine (unbounded_yes _ _ _ _).mono ?_); rintro e w1 ⟨rfl, hb1⟩; have hk1 := HS.out w1 hb1)
        | (go_at_call 108; (with_reducible refine (unbounded_no _ _ _ _ _ hn _).mono ?_); rintro e w1 ⟨rfl, hb1⟩; have hk1 := HS.out w1 hb1))
      go_ret
      exact ⟨rfl, HB.out _ (by first | assumption | exact Below.refl _ _)⟩
    · go_enter Try.func93, Try.ntmps93
      go_wp2_with (first
        | (go_at_call 100; (with_reducible refine hw0.mono ?_); rintro e w' ⟨rfl, rfl⟩; clear hw0)
        | (go_at_call 100; (with_reducible refine (within_no _ _ _ _ hn).mono ?_); rintro e w' ⟨rfl, rfl⟩)
        | (go_at_call 108; (with_reducible refine (unbounded_yes _ _ _ _).mono ?_); rintro e w1 ⟨rfl, hb1⟩; have hk1 := HS.out w1 hb1)
        | (go_at_call 108; (with_reducible refine (unbounded_no _ _ _ _ _ hn _).mono ?_); rintro e w1 ⟨rfl, hb1⟩; have hk1 := HS.out w1 hb1))
      go_ret
      exact ⟨rfl, HB.out _ (by first | assumption | exact Below.refl _ _)⟩
  · rcases h with hn | ⟨⟨rfl, rfl⟩, hn⟩
    · go_enter Try.func93, Try.ntmps93
      go_wp2_with (first
        | (go_at_call 100; (with_reducible refine hw0.mono ?_); rintro e w' ⟨rfl, rfl⟩; clear hw0)
        | (go_at_call 100; (with_reducible refine (within_no _ _ _ _ hn).mono ?_); rintro e w' ⟨rfl, rfl⟩)
        | (go_at_call 108; (with_reducible refine (unbounded_yes _ _ _ _).mono ?_); rintro e w1 ⟨rfl, hb1⟩; have hk1 := HS.out w1 hb1)
        | (go_at_call 108; (with_reducible refine (unbounded_no _ _ _ _ _ hn _).mono ?_); rintro e w1 ⟨rfl, hb1⟩; have hk1 := HS.out w1 hb1))
      go_ret
      exact ⟨rfl, HB.out _ (by first | assumption | exact Below.refl _ _)⟩
    · go_enter Try.func93, Try.ntmps93
      go_wp2_with (first
        | (go_at_call 100; (with_reducible refine hw0.mono ?_); rintro e w' ⟨rfl, rfl⟩; clear hw0)
        | (go_at_call 100; (with_reducible refine (within_no _ _ _ _ hn).mono ?_); rintro e w' ⟨rfl, rfl⟩)
        | (go_at_call 108; (with_reducible refine (unbounded_yes _ _ _ _).mono ?_); rintro e w1 ⟨rfl, hb1⟩; have hk1 := HS.out w1 hb1)
        | (go_at_call 108; (with_reducible refine (unbounded_no _ _ _ _ _ hn _).mono ?_); rintro e w1 ⟨rfl, hb1⟩; have hk1 := HS.out w1 hb1))
      go_ret
      exact ⟨rfl, HB.out _ (by first | assumption | exact Below.refl _ _)⟩
  · have e1 : (k == 1) = false := by rw [beq_eq_false_iff_ne]; exact n1
    have e2 : (k == 2) = false := by rw [beq_eq_false_iff_ne]; exact n2
    have e3 : (k == 3) = false := by rw [beq_eq_false_iff_ne]; exact n3
    have e4 : (k == 4) = false := by rw [beq_eq_false_iff_ne]; exact n4
    clear n1 n2 n3 n4
    go_enter Try.func93, Try.ntmps93
    go_wp2_with (first
      | (go_at_call 100; (with_reducible refine hw0.mono ?_); rintro e w' ⟨rfl, rfl⟩; clear hw0)
      | (go_at_call 100; (with_reducible refine (within_no _ _ _ _ hn).mono ?_); rintro e w' ⟨rfl, rfl⟩)
      | (go_at_call 108; (with_reducible refine (unbounded_yes _ _ _ _).mono ?_); rintro e w1 ⟨rfl, hb1⟩; have hk1 := HS.out w1 hb1)
      | (go_at_call 108; (with_reducible refine (unbounded_no _ _ _ _ _ hn _).mono ?_); rintro e w1 ⟨rfl, hb1⟩; have hk1 := HS.out w1 hb1))
    go_ret
    exact ⟨rfl, HB.out _ (by first | assumption | exact Below.refl _ _)⟩
theorem right_any (f : Fd) (w : World) : Calls Try.prog 93 #[.agg #[.int .i64 f.id, .int .i64 f.kind, .int .i64 f.lo, .int .i64 f.hi, .int .i64 f.most]] w (Gives (.bool (decide f.Right)) w) := by
  by_cases h : f.Right
  · rw [decide_eq_true h]; exact right_yes f h w
  · rw [decide_eq_false h]; exact right_no f h w
end Go.Proofs.Ytiajpjkkopdmgaa.field
/- Contract of bits.Len: how many bytes hold a number, in bits. No condition but a number below 2^48. -/
namespace Go.Proofs.Ytiajpjkkopdmgaa.field
open Go.RowKit
set_option linter.unusedVariables false

theorem dec_no {p : Prop} [Decidable p] (h : ¬ p) : decide p = false := decide_eq_false h
theorem wrap_u8 {x : Int} {n : Nat} (h : x = (n : Int)) (hn : n < 256) : IntKind.u8.wrap x = (n : Int) := by subst h; simp [IntKind.wrap, IntKind.bits, IntKind.signed]; omega
theorem len_sum {q : Nat} (a : Int) (h0 : 0 ≤ a) (ha : a ≤ 40) (hq : q ≤ 8) : wrap64 (a + wrap64 (q : Int)) = a + (q : Int) := by
  rw [IntWalk.wrap64_in (q : Int) (by omega), IntWalk.wrap64_in _ (by omega)]
theorem len_one {q : Nat} (hq : q ≤ 8) : wrap64 (wrap64 (q : Int)) = (q : Int) := by
  rw [IntWalk.wrap64_in (q : Int) (by omega), IntWalk.wrap64_in _ (by omega)]
set_option maxRecDepth 1000000 in
set_option maxHeartbeats 4000000 in
theorem len64_any (x : Nat) (hx : x < 281474976710656) (w : World) :
    Calls Try.prog 114 #[.int .u64 (x : Int)] w fun e w' => ∃ L : Nat, e = .returned (.int .i64 (L : Int)) ∧ L ≤ 64 ∧ (L + 7) / 8 = wide x ∧ ∃ n, w' = w.drewN n := by
  go_enter Try.func114, Try.ntmps114
  generalize hT : ByteArray.mk _ = T
  have hs : T.size = 256 := by rw [← hT]; decide +kernel
  have ht0 : ∀ i : Fin 256, (T.data.getD i.val 0).toNat ≤ 8 ∧ ((T.data.getD i.val 0).toNat = 0 ↔ i.val = 0) := by rw [← hT]; decide +kernel
  have ht : ∀ (i : Nat) (h : i < T.size), i < 256 → (T[i]'h).toNat ≤ 8 ∧ ((T[i]'h).toNat = 0 ↔ i = 0) := fun i h hi => by
    have := ht0 ⟨i, hi⟩
    have h' : i < T.data.size := h
    simp only [Array.getD, h', dif_pos] at this
    exact this
  have HT := hid ht
  have HS := hid hs
  have hT1 : ∀ i : Nat, i < 256 → (i : Int) < T.size := fun i hi => by rw [hs]; omega
  have HT1 := hid hT1
  have HX := hid hx
  clear hT hs ht ht0 hT1 hx
  by_cases c0 : x < 256
  · have hw : wide x = if x = 0 then 0 else 1 := by unfold wide; rw [if_pos c0]
    have HW := hid hw
    obtain ⟨y, hy⟩ : ∃ y, Hid (x / 1 = y) := ⟨_, rfl⟩
    have hy256 : y < 256 := by have := hy.out; have := HX.out; omega
    have j0 : (0 : Int) ≤ (y : Int) := by omega
    have j1 := HT1.out y hy256
    have t4294967296 : ¬ (x : Int) ≥ 4294967296 := by have := HX.out; omega
    have u4294967296 := dec_no t4294967296
    have t65536 : ¬ (x : Int) ≥ 65536 := by have := HX.out; omega
    have u65536 := dec_no t65536
    have t256 : ¬ (x : Int) ≥ 256 := by have := HX.out; omega
    have u256 := dec_no t256
    have hwr : IntKind.u8.wrap ((x : Int)) = (y : Int) := wrap_u8 (by have := hy.out; omega) hy256
    clear hw
    clear c0
    go_wp2
    go_ret
    have b := HT.out y (by have := HS.out; omega) hy256
    refine ⟨0 + (T[y]'(by have := HS.out; omega)).toNat, ret_int ((len_one b.1).trans (by omega)), by omega, ?_, 0, rfl⟩
    rw [HW.out]
    have := hy.out
    split <;> omega
  by_cases c1 : x < 65536
  · have hw : wide x = 2 := by have := HX.out; unfold wide; rw [if_neg (by omega)]; rw [if_neg (by omega)]; rw [if_pos (by omega)]
    have HW := hid hw
    obtain ⟨y, hy⟩ : ∃ y, Hid (x / 256 = y) := ⟨_, rfl⟩
    have hy256 : y < 256 := by have := hy.out; have := HX.out; omega
    have j0 : (0 : Int) ≤ (y : Int) := by omega
    have j1 := HT1.out y hy256
    have t4294967296 : ¬ (x : Int) ≥ 4294967296 := by have := HX.out; omega
    have u4294967296 := dec_no t4294967296
    have t65536 : ¬ (x : Int) ≥ 65536 := by have := HX.out; omega
    have u65536 := dec_no t65536
    have t256 : (x : Int) ≥ 256 := by have := HX.out; omega
    have hwr : IntKind.u8.wrap ((x : Int) / 256) = (y : Int) := wrap_u8 (by have := hy.out; omega) hy256
    clear hw
    clear c0 c1
    go_wp2
    go_ret
    have b := HT.out y (by have := HS.out; omega) hy256
    refine ⟨8 + (T[y]'(by have := HS.out; omega)).toNat, ret_int ((len_sum 8 (by omega) (by omega) b.1).trans (by omega)), by omega, ?_, 0, rfl⟩
    rw [HW.out]
    have := hy.out
    omega
  by_cases c2 : x < 16777216
  · have hw : wide x = 3 := by have := HX.out; unfold wide; rw [if_neg (by omega)]; rw [if_neg (by omega)]; rw [if_neg (by omega)]; rw [if_pos (by omega)]
    have HW := hid hw
    obtain ⟨y, hy⟩ : ∃ y, Hid (x / 65536 = y) := ⟨_, rfl⟩
    have hy256 : y < 256 := by have := hy.out; have := HX.out; omega
    have j0 : (0 : Int) ≤ (y : Int) := by omega
    have j1 := HT1.out y hy256
    have t4294967296 : ¬ (x : Int) ≥ 4294967296 := by have := HX.out; omega
    have u4294967296 := dec_no t4294967296
    have t65536 : (x : Int) ≥ 65536 := by have := HX.out; omega
    have t256 : ¬ (x : Int) / 65536 ≥ 256 := by have := HX.out; omega
    have u256 := dec_no t256
    have hwr : IntKind.u8.wrap ((x : Int) / 65536) = (y : Int) := wrap_u8 (by have := hy.out; omega) hy256
    clear hw
    clear c0 c1 c2
    go_wp2
    go_ret
    have b := HT.out y (by have := HS.out; omega) hy256
    refine ⟨16 + (T[y]'(by have := HS.out; omega)).toNat, ret_int ((len_sum 16 (by omega) (by omega) b.1).trans (by omega)), by omega, ?_, 0, rfl⟩
    rw [HW.out]
    have := hy.out
    omega
  by_cases c3 : x < 4294967296
  · have hw : wide x = 4 := by have := HX.out; unfold wide; rw [if_neg (by omega)]; rw [if_neg (by omega)]; rw [if_neg (by omega)]; rw [if_neg (by omega)]; rw [if_pos (by omega)]
    have HW := hid hw
    obtain ⟨y, hy⟩ : ∃ y, Hid (x / 16777216 = y) := ⟨_, rfl⟩
    have hy256 : y < 256 := by have := hy.out; have := HX.out; omega
    have j0 : (0 : Int) ≤ (y : Int) := by omega
    have j1 := HT1.out y hy256
    have t4294967296 : ¬ (x : Int) ≥ 4294967296 := by have := HX.out; omega
    have u4294967296 := dec_no t4294967296
    have t65536 : (x : Int) ≥ 65536 := by have := HX.out; omega
    have t256 : (x : Int) / 65536 ≥ 256 := by have := HX.out; omega
    have hwr : IntKind.u8.wrap ((x : Int) / 65536 / 256) = (y : Int) := wrap_u8 (by have := hy.out; omega) hy256
    clear hw
    clear c0 c1 c2 c3
    go_wp2
    go_ret
    have b := HT.out y (by have := HS.out; omega) hy256
    refine ⟨24 + (T[y]'(by have := HS.out; omega)).toNat, ret_int ((len_sum 24 (by omega) (by omega) b.1).trans (by omega)), by omega, ?_, 0, rfl⟩
    rw [HW.out]
    have := hy.out
    omega
  by_cases c4 : x < 1099511627776
  · have hw : wide x = 5 := by have := HX.out; unfold wide; rw [if_neg (by omega)]; rw [if_neg (by omega)]; rw [if_neg (by omega)]; rw [if_neg (by omega)]; rw [if_neg (by omega)]; rw [if_pos (by omega)]
    have HW := hid hw
    obtain ⟨y, hy⟩ : ∃ y, Hid (x / 4294967296 = y) := ⟨_, rfl⟩
    have hy256 : y < 256 := by have := hy.out; have := HX.out; omega
    have j0 : (0 : Int) ≤ (y : Int) := by omega
    have j1 := HT1.out y hy256
    have t4294967296 : (x : Int) ≥ 4294967296 := by have := HX.out; omega
    have t65536 : ¬ (x : Int) / 4294967296 ≥ 65536 := by have := HX.out; omega
    have u65536 := dec_no t65536
    have t256 : ¬ (x : Int) / 4294967296 ≥ 256 := by have := HX.out; omega
    have u256 := dec_no t256
    have hwr : IntKind.u8.wrap ((x : Int) / 4294967296) = (y : Int) := wrap_u8 (by have := hy.out; omega) hy256
    clear hw
    clear c0 c1 c2 c3 c4
    go_wp2
    go_ret
    have b := HT.out y (by have := HS.out; omega) hy256
    refine ⟨32 + (T[y]'(by have := HS.out; omega)).toNat, ret_int ((len_sum 32 (by omega) (by omega) b.1).trans (by omega)), by omega, ?_, 0, rfl⟩
    rw [HW.out]
    have := hy.out
    omega
  have hw : wide x = 6 := by have := HX.out; unfold wide; rw [if_neg (by omega)]; rw [if_neg (by omega)]; rw [if_neg (by omega)]; rw [if_neg (by omega)]; rw [if_neg (by omega)]; rw [if_neg (by omega)]
  have HW := hid hw
  obtain ⟨y, hy⟩ : ∃ y, Hid (x / 1099511627776 = y) := ⟨_, rfl⟩
  have hy256 : y < 256 := by have := hy.out; have := HX.out; omega
  have j0 : (0 : Int) ≤ (y : Int) := by omega
  have j1 := HT1.out y hy256
  have t4294967296 : (x : Int) ≥ 4294967296 := by have := HX.out; omega
  have t65536 : ¬ (x : Int) / 4294967296 ≥ 65536 := by have := HX.out; omega
  have u65536 := dec_no t65536
  have t256 : (x : Int) / 4294967296 ≥ 256 := by have := HX.out; omega
  have hwr : IntKind.u8.wrap ((x : Int) / 4294967296 / 256) = (y : Int) := wrap_u8 (by have := hy.out; omega) hy256
  clear hw
  clear c0 c1 c2 c3 c4
  go_wp2
  go_ret
  have b := HT.out y (by have := HS.out; omega) hy256
  refine ⟨40 + (T[y]'(by have := HS.out; omega)).toNat, ret_int ((len_sum 40 (by omega) (by omega) b.1).trans (by omega)), by omega, ?_, 0, rfl⟩
  rw [HW.out]
  have := hy.out
  omega
theorem len_any (x : Nat) (hx : x < 281474976710656) (w : World) :
    Calls Try.prog 109 #[.int .u64 (x : Int)] w fun e w' => ∃ L : Nat, e = .returned (.int .i64 (L : Int)) ∧ L ≤ 64 ∧ (L + 7) / 8 = wide x ∧ ∃ n, w' = w.drewN n := by
  have cl := len64_any x hx
  have HX := hid hx
  clear hx
  go_enter Try.func109, Try.ntmps109
  go_wp2_with (go_at_call 114; (with_reducible refine (cl _).mono ?_); rintro e w' ⟨L, rfl, h1, h2, m, rfl⟩)
  go_ret
  exact ⟨L, rfl, h1, h2, m, rfl⟩
end Go.Proofs.Ytiajpjkkopdmgaa.field
/- Contracts of layer 12 (field): greatest, top. No condition but a right field. -/
namespace Go.Proofs.Ytiajpjkkopdmgaa.field
open Go.RowKit
set_option linter.unusedVariables false

theorem kinds {f : Fd} (h : f.Right) : f.kind = 1 ∨ f.kind = 2 ∨ f.kind = 3 ∨ f.kind = 4 := by unfold Fd.Right at h; omega
theorem greatest_any (f : Fd) (h : f.Right) (w : World) : Calls Try.prog 101 #[.agg #[.int .i64 f.id, .int .i64 f.kind, .int .i64 f.lo, .int .i64 f.hi, .int .i64 f.most]] w (Gives (.int .i64 f.great) w) := by
  have hk := kinds h
  have hs := h.span
  obtain ⟨i, k, lo, hi, m⟩ := f
  simp only at hk ⊢
  have hm : k = 3 → 1 ≤ m ∧ m ≤ 1000 := by intro h3; unfold Fd.Right at h; simp only at h; omega
  clear h hs
  unfold Gives
  rcases hk with rfl | rfl | rfl | rfl
  · rw [show Fd.great ⟨i, 1, lo, hi, m⟩ = hi from rfl]
    clear hm
    go_enter Try.func101, Try.ntmps101
    go_wp2
    go_ret
    exact ⟨rfl, newB _ _⟩
  · rw [show Fd.great ⟨i, 2, lo, hi, m⟩ = 1 from rfl]
    clear hm
    go_enter Try.func101, Try.ntmps101
    go_wp2
    go_ret
    exact ⟨rfl, newB _ _⟩
  · rw [show Fd.great ⟨i, 3, lo, hi, m⟩ = m - 1 from rfl]
    obtain ⟨m1, m2⟩ := hm rfl
    clear hm
    go_enter Try.func101, Try.ntmps101
    go_wp2
    go_ret
    exact ⟨rfl, newB _ _⟩
  · rw [show Fd.great ⟨i, 4, lo, hi, m⟩ = 0 from rfl]
    clear hm
    go_enter Try.func101, Try.ntmps101
    go_wp2
    go_ret
    exact ⟨rfl, newB _ _⟩
/-- the same, seen from an elder world -/
theorem gives_from {P : Program} {F : FuncId} {args : Array Value} {v : Value} {w0 w : World} (h : Calls P F args w (Gives v w)) (hb : Below w0.heap.size w0 w) : Calls P F args w fun e w' => e = .returned v ∧ Below w0.heap.size w0 w' :=
  h.mono fun _ _ ⟨he, hw⟩ => ⟨he, hb.trans (hw.mono hb.size)⟩
theorem top_any (f : Fd) (h : f.Right) (w : World) : Calls Try.prog 110 #[.agg #[.int .i64 f.id, .int .i64 f.kind, .int .i64 f.lo, .int .i64 f.hi, .int .i64 f.most]] w (Gives (.int .i64 (f.great - f.lo)) w) := by
  have HS := hid (five f w)
  have HB := hid (belowF f w)
  have hs := h.span
  have s1 := hs.1
  have s2 := hs.2.1
  have hb0 : Below (w.alloc (.cells #[.int .i64 f.id, .int .i64 f.kind, .int .i64 f.lo, .int .i64 f.hi, .int .i64 f.most] 26)).heap.size (w.alloc (.cells #[.int .i64 f.id, .int .i64 f.kind, .int .i64 f.lo, .int .i64 f.hi, .int .i64 f.most] 26)) (w.alloc (.cells #[.int .i64 f.id, .int .i64 f.kind, .int .i64 f.lo, .int .i64 f.hi, .int .i64 f.most] 26)).drew := below_drewN (Below.refl _ _) 1
  have cg := gives_from (greatest_any f h (w.alloc (.cells #[.int .i64 f.id, .int .i64 f.kind, .int .i64 f.lo, .int .i64 f.hi, .int .i64 f.most] 26)).drew) hb0
  have hk0 := HS.out _ hb0
  clear h hs
  unfold Gives
  generalize f.great = G at *
  go_enter Try.func110, Try.ntmps110
  go_wp2
  go_region_held3 (fun w' => (w'.cell? ⟨w.heap.size, 0, none⟩ = some (.int .i64 f.id) ∧ w'.cell? ⟨w.heap.size, 1, none⟩ = some (.int .i64 f.kind) ∧ w'.cell? ⟨w.heap.size, 2, none⟩ = some (.int .i64 f.lo) ∧ w'.cell? ⟨w.heap.size, 3, none⟩ = some (.int .i64 f.hi) ∧ w'.cell? ⟨w.heap.size, 4, none⟩ = some (.int .i64 f.most))) (first | assumption | go_keep) ((go_at_call 101; (with_reducible refine cg.mono ?_); rintro e w2 ⟨rfl, hb2⟩; have hk2 := HS.out w2 hb2))
  go_wp2
  go_ret
  exact ⟨ret_int (IntWalk.i64_in _ (by omega)), HB.out _ hb2⟩
end Go.Proofs.Ytiajpjkkopdmgaa.field
/- Contract of layer 12 (field): Size. No condition. -/
namespace Go.Proofs.Ytiajpjkkopdmgaa.field
open Go.RowKit
set_option linter.unusedVariables false

theorem size_any (f : Fd) (w : World) : Calls Try.prog 94 #[.agg #[.int .i64 f.id, .int .i64 f.kind, .int .i64 f.lo, .int .i64 f.hi, .int .i64 f.most]] w (Gives (.int .i64 (f.size : Int)) w) := by
  have HB := hid (belowF f w)
  have HS := hid (five f w)
  have hsz : f.size = if f.Right then (if f.kind = 4 then 1 + f.most.toNat else wide (f.great - f.lo).toNat) else 0 := rfl
  rw [hsz]
  have cr := gives_from (right_any f (w.alloc (.cells #[.int .i64 f.id, .int .i64 f.kind, .int .i64 f.lo, .int .i64 f.hi, .int .i64 f.most] 26))) (w0 := (w.alloc (.cells #[.int .i64 f.id, .int .i64 f.kind, .int .i64 f.lo, .int .i64 f.hi, .int .i64 f.most] 26))) (Below.refl _ _)
  by_cases hr : f.Right
  · rw [if_pos hr]
    rw [decide_eq_true hr] at cr
    have hk := kinds hr
    have hsp := hr.span
    obtain ⟨T, hT⟩ : ∃ T : Nat, f.great - f.lo = (T : Int) := ⟨(f.great - f.lo).toNat, by omega⟩
    have hTb : T ≤ 2199023255552 := by omega
    have ct := fun (w1 : World) (hb : Below (w.alloc (.cells #[.int .i64 f.id, .int .i64 f.kind, .int .i64 f.lo, .int .i64 f.hi, .int .i64 f.most] 26)).heap.size (w.alloc (.cells #[.int .i64 f.id, .int .i64 f.kind, .int .i64 f.lo, .int .i64 f.hi, .int .i64 f.most] 26)) w1) => gives_from (top_any f hr w1) hb
    rw [hT] at ct
    have cl := len_any T (by omega)
    rw [hT]
    have h4 : f.kind = 4 → 0 ≤ f.most ∧ f.most ≤ 32 := by intro h4; unfold Fd.Right at hr; omega
    have h2 : f.kind = 2 → f.great - f.lo = 1 := by intro h2; unfold Fd.Right at hr; unfold Fd.great; rw [h2]; simp; omega
    rw [hT] at h2
    clear hr hsp hsz hT
    obtain ⟨i, k, lo, hi, m⟩ := f
    simp only at hk h4 h2 HB HS cr ct ⊢
    rw [show ((T : Int)).toNat = T from rfl]
    unfold Gives
    have HT := hid hTb
    rcases hk with rfl | rfl | rfl | rfl
    · clear h4 h2
      rw [if_neg (by decide)]
      clear hTb
      have hu : IntKind.u64.wrap (T : Int) = (T : Int) := by have := HT.out; rw [IntWalk.u64_in _ (by omega)]
      go_enter Try.func94, Try.ntmps94
      go_wp2_with (first
        | (go_at_call 93; (with_reducible refine cr.mono ?_); rintro e w1 ⟨rfl, hb1⟩; have hk1 := HS.out _ hb1)
        | (go_at_call 110; (with_reducible refine (ct _ hb1).mono ?_); rintro e w2 ⟨rfl, hb2⟩)
        | (go_at_call 109; (with_reducible refine (cl _).mono ?_); rintro e w3 ⟨L, rfl, hL1, hL2, nd, rfl⟩; have HL := hid hL2; clear hL2))
      go_ret
      exact ⟨ret_int (by have := HL.out; omega), HB.out _ (below_drewN hb2 _)⟩
    · have hT1 : T = 1 := by have := h2 rfl; omega
      subst hT1
      clear h4 h2
      rw [if_neg (by decide), show wide 1 = 1 from rfl]
      go_enter Try.func94, Try.ntmps94
      go_wp2_with (go_at_call 93; (with_reducible refine cr.mono ?_); rintro e w1 ⟨rfl, hb1⟩; have hk1 := HS.out _ hb1)
      go_ret
      exact ⟨rfl, HB.out _ hb1⟩
    · clear h4 h2
      rw [if_neg (by decide)]
      clear hTb
      have hu : IntKind.u64.wrap (T : Int) = (T : Int) := by have := HT.out; rw [IntWalk.u64_in _ (by omega)]
      go_enter Try.func94, Try.ntmps94
      go_wp2_with (first
        | (go_at_call 93; (with_reducible refine cr.mono ?_); rintro e w1 ⟨rfl, hb1⟩; have hk1 := HS.out _ hb1)
        | (go_at_call 110; (with_reducible refine (ct _ hb1).mono ?_); rintro e w2 ⟨rfl, hb2⟩)
        | (go_at_call 109; (with_reducible refine (cl _).mono ?_); rintro e w3 ⟨L, rfl, hL1, hL2, nd, rfl⟩; have HL := hid hL2; clear hL2))
      go_ret
      exact ⟨ret_int (by have := HL.out; omega), HB.out _ (below_drewN hb2 _)⟩
    · obtain ⟨m1, m2⟩ := h4 rfl
      clear h4 h2
      rw [if_pos rfl]
      obtain ⟨M, rfl⟩ := Int.eq_ofNat_of_zero_le m1
      rw [show ((M : Int)).toNat = M from rfl]
      go_enter Try.func94, Try.ntmps94
      go_wp2_with (go_at_call 93; (with_reducible refine cr.mono ?_); rintro e w1 ⟨rfl, hb1⟩; have hk1 := HS.out _ hb1)
      go_ret
      exact ⟨ret_int (by omega), HB.out _ hb1⟩
  · rw [if_neg hr]
    rw [decide_eq_false hr] at cr
    clear hr hsz
    unfold Gives
    go_enter Try.func94, Try.ntmps94
    go_wp2_with (go_at_call 93; (with_reducible refine cr.mono ?_); rintro e w1 ⟨rfl, hb1⟩; have hk1 := HS.out _ hb1)
    go_ret
    exact ⟨rfl, HB.out _ hb1⟩
end Go.Proofs.Ytiajpjkkopdmgaa.field
/- Contracts of layer 13 (schema): Long. No condition but at most 40 fields. -/
namespace Go.Proofs.Ytiajpjkkopdmgaa.schema
open Go.RowKit
open Go.Proofs.Ytiajpjkkopdmgaa.field (Gives newB gives_from size_any)
set_option linter.unusedVariables false

theorem own_low {w : World} {B B' e size n : Nat} {v : Value} {xs : List Value} (h : w.ownsRow B e size v n xs) (hB : B' ≤ B) : w.ownsRow B' e size v n xs := by
  refine ⟨h.1, ?_⟩
  rcases h.2 with h0 | ⟨g, cap, cur, hv, hb, hg⟩
  · exact .inl h0
  · exact .inr ⟨g, cap, cur, hv, Nat.le_trans hB hb, hg⟩
theorem below_out {w w' : World} {d : Obj} (hb : Below (w.alloc d).heap.size (w.alloc d) w') : Below w.heap.size w w' := ((Below.refl _ _).alloc (Nat.le_refl _) _).trans (hb.mono (by simp))
theorem fields_below {w w' : World} {B : Nat} {a : Option Addr} {L : List field.Fd} (h : field.Fds w a L) (hB : w.heap.size ≤ B) (hb : Below B w w') : field.Fds w' a L := h.below (hb.mono hB)
/-- the cells of field k in a later world -/
theorem field_at {w w' : World} {a : Option Addr} {L : List field.Fd} (h : field.Fds w a L) (hb : Below w.heap.size w w') {k : Nat} (hk : k < L.length) :
    ∃ b off p, a = some ⟨b, off, none⟩ ∧ b < w'.heap.size ∧ L[k]? = some p ∧ w'.cell? ⟨b, off + k * 5, none⟩ = some (.int .i64 p.id) ∧ w'.cell? ⟨b, off + k * 5 + 1, none⟩ = some (.int .i64 p.kind) ∧ w'.cell? ⟨b, off + k * 5 + 2, none⟩ = some (.int .i64 p.lo) ∧ w'.cell? ⟨b, off + k * 5 + 3, none⟩ = some (.int .i64 p.hi) ∧ w'.cell? ⟨b, off + k * 5 + 4, none⟩ = some (.int .i64 p.most) := (h.below hb).at hk
theorem long_any (i : Int) (a : Option Addr) (cap : Nat) (L : List field.Fd) (w : World) (h : field.Fds w a L) (hL : L.length ≤ 40) :
    Calls Try.prog 68 #[.agg #[.int .i64 i, .slice a L.length cap]] w (Gives (.int .i64 (size L : Int)) w) := by
  have HO := hid (fun (w' : World) hb => below_out (w := w) (d := .cells #[.int .i64 i, .slice a L.length cap] 52) (w' := w') hb)
  have HF := hid (h.below (newB w (.cells #[.int .i64 i, .slice a L.length cap] 52)))
  obtain ⟨S, hS⟩ : ∃ S : Nat, Hid (size L = S) := ⟨_, rfl⟩
  rw [hS.out]
  unfold Gives
  clear h
  go_enter Try.func68, Try.ntmps68
  go_wp2
  go_loopw [3, 9] (fun s n wr => ∃ k : Nat, k ≤ L.length ∧ s = .int .i64 (size (L.take k) : Int) ∧ n = .int .i64 (k : Int) ∧ Hid (Below (w.alloc (.cells #[.int .i64 i, .slice a L.length cap] 52)).heap.size (w.alloc (.cells #[.int .i64 i, .slice a L.length cap] 52)) wr)) (fun _ n _ => L.length - (intOf n).toNat)
  case atStart => exact ⟨0, Nat.zero_le _, rfl, rfl, hid (Below.refl _ _)⟩
  case round =>
    obtain ⟨k, hk, rfl, rfl, HB⟩ := hrel
    by_cases hlt : k < L.length
    · obtain ⟨b, off, p, rfl, hbl, hp, c0, c1, c2, c3, c4⟩ := field_at HF.out HB.out hlt
      have i1 : (k : Int) < L.length := by omega
      have HP := hid hp
      have HSZ := hid (size_succ hp)
      have hst := size_take L k
      have hst2 := field.wide_le
      have cs := fun w' => size_any p w'
      have hps := fd_size_le p
      clear hp hst2
      generalize size (L.take k) = s at *
      go_wp2_with (go_at_call 94; ((with_reducible refine (cs _).mono ?_); rintro e w2 ⟨rfl, hb2⟩))
      exact ⟨⟨k + 1, by omega, by rw [HSZ.out]; go_num, by go_num, hid (HB.out.trans ((below_out hb2).mono HB.out.size))⟩, by simp [intOf]; omega⟩
    · obtain rfl : k = L.length := by omega
      go_wp2
      go_ret
      exact ⟨ret_int (by rw [← hS.out, List.take_of_length_le (Nat.le_refl _)]), HO.out _ HB.out⟩
end Go.Proofs.Ytiajpjkkopdmgaa.schema
/- Contracts of layer 13 (schema): within, fineFields. No condition. -/
namespace Go.Proofs.Ytiajpjkkopdmgaa.schema
open Go.RowKit
open Go.Proofs.Ytiajpjkkopdmgaa.field (Gives newB gives_from right_any)
set_option linter.unusedVariables false

theorem within_any (n lo hi : Int) (w : World) : Calls Try.prog 36 #[.int .i64 n, .int .i64 lo, .int .i64 hi] w (Gives (.bool (decide (lo ≤ n ∧ n ≤ hi))) w) := by
  obtain ⟨v, hv⟩ : ∃ v : Bool, Hid (decide (lo ≤ n ∧ n ≤ hi) = v) := ⟨_, rfl⟩
  rw [hv.out]
  unfold Gives
  by_cases h1 : lo ≤ n
  · by_cases h2 : n ≤ hi
    · obtain rfl : true = v := by rw [← hv.out]; simp [h1, h2]
      go_enter Try.func36, Try.ntmps36
      go_wp2
      go_ret
      exact ⟨rfl, Below.refl _ _⟩
    · obtain rfl : false = v := by rw [← hv.out]; simp [h1, h2]
      have hd : decide (n ≤ hi) = false := decide_eq_false h2
      go_enter Try.func36, Try.ntmps36
      go_wp2
      go_ret
      exact ⟨rfl, Below.refl _ _⟩
  · obtain rfl : false = v := by rw [← hv.out]; simp [h1]
    have hd : decide (lo ≤ n) = false := decide_eq_false h1
    go_enter Try.func36, Try.ntmps36
    go_wp2
    go_ret
    exact ⟨rfl, Below.refl _ _⟩

/-- the IDs seen so far, as an array -/
def seenV (l : List Int) : List Value := (List.range 256).map fun j : Nat => Value.bool (decide ((j : Int) ∈ l))
theorem seenV_at (l : List Int) (n : Nat) (h : n < 256) : (seenV l)[n]? = some (.bool (decide ((n : Int) ∈ l))) := by simp [seenV, h]
theorem seenV_set (l : List Int) (n : Nat) (h : n < 256) : (seenV l).set n (.bool true) = seenV (l ++ [(n : Int)]) := by
  apply List.ext_getElem?
  intro i
  rw [List.getElem?_set]
  by_cases hi : i < 256
  · rw [seenV_at _ i hi, seenV_at _ i hi]
    by_cases hn : n = i
    · subst hn; simp [seenV, h]
    · rw [if_neg hn]
      simp; omega
  · simp [seenV]
    simp [hi]
    omega
theorem seenV_zero : Try.zeroCells122 = (seenV []).toArray := by kernel_rfl
theorem fineFields_any (a : Option Addr) (cap : Nat) (L : List field.Fd) (w : World) (h : field.Fds w a L) (hL : L.length ≤ maxLen) :
    Calls Try.prog 67 #[.slice a L.length cap] w (Gives (.bool (decide (FineF L))) w) := by
  have hml : (L.length : Int) ≤ 9223372036854775807 := by unfold maxLen at hL; omega
  obtain ⟨v, hv⟩ : ∃ v : Bool, Hid (decide (FineF L) = v) := ⟨_, rfl⟩
  rw [hv.out]
  unfold Gives
  have HF := hid h
  have HZ : Hid (Block (w.alloc (.cells Try.zeroCells122 122)) w.heap.size 122 (seenV [])) := by rw [seenV_zero]; exact hid (Block.new w 122 (seenV []))
  have HN := hid (newB w (.cells Try.zeroCells122 122))
  clear h hL
  go_enter Try.func67, Try.ntmps67
  go_wp2
  generalize w.alloc (.cells Try.zeroCells122 122) = w1 at *
  obtain ⟨B, hB⟩ : ∃ B : Nat, Hid (w.heap.size = B) := ⟨_, rfl⟩
  rw [hB.out] at HZ ⊢
  go_loopw [8] (fun n wr => ∃ k : Nat, k ≤ L.length ∧ n = .int .i64 (k : Int) ∧ Hid (FineF (L.take k)) ∧ Hid (Block wr B 122 (seenV (ids (L.take k)))) ∧ Hid (Below w.heap.size w wr)) (fun n _ => L.length - (intOf n).toNat)
  case atStart => exact ⟨0, Nat.zero_le _, rfl, hid FineF.nil, HZ, HN⟩
  case round =>
    obtain ⟨k, hk, rfl, HOK, HBl, HB⟩ := hrel
    by_cases hlt : k < L.length
    · obtain ⟨b, off, p, rfl, hbl, hp, c0, c1, c2, c3, c4⟩ := field_at HF.out HB.out hlt
      have i1 : (k : Int) < L.length := by omega
      have HP := hid hp
      have HNO := hid (fineF_no hp)
      have HSUC := hid (fineF_succ hp)
      have HIDS : Hid (ids (L.take (k + 1)) = ids (L.take k) ++ [p.id]) := hid (by rw [take_succ_at hp]; simp [ids])
      have cs := fun w' => right_any p w'
      clear hp
      generalize hI : ids (L.take k) = I at *
      clear hI
      by_cases hr : p.Right
      · obtain ⟨n, hn⟩ := Int.eq_ofNat_of_zero_le hr.1.1
        have hn2 : n ≤ 255 := by have := hr.1.2; omega
        rw [decide_eq_true hr] at cs
        have HR := hid hr
        clear hr
        obtain ⟨q, qk, ql, qh, qm⟩ := p
        simp only at hn HNO HSUC HIDS HR c0 c1 c2 c3 c4 cs
        subst hn
        have hsd := seenV_at I n (by omega)
        by_cases hm : (n : Int) ∈ I
        · rw [decide_eq_true hm] at hsd
          obtain rfl : false = v := by rw [← hv.out]; exact (decide_eq_false (HNO.out (fun h => h.2 hm))).symm
          clear hm
          have H5 := hid (field.five ⟨n, qk, ql, qh, qm⟩ wr)
          go_wp2_with (go_at_call 93; ((with_reducible refine (cs _).mono ?_); rintro e w2 ⟨rfl, hb2⟩; have hc := ((HBl.out.alloc _).later hb2).cell n; rw [hsd] at hc; have z0 := (H5.out w2 hb2).1))
          go_ret
          exact ⟨rfl, HB.out.trans ((below_out hb2).mono HB.out.size)⟩
        · rw [decide_eq_false hm] at hsd
          have HM := hid hm
          clear hm
          have H5 := hid (field.five ⟨n, qk, ql, qh, qm⟩ wr)
          have HLT := hid (show w.heap.size ≤ B by rw [hB.out]; exact Nat.le_refl _)
          go_wp2_with (go_at_call 93; ((with_reducible refine (cs _).mono ?_); rintro e w2 ⟨rfl, hb2⟩; have hblk := (HBl.out.alloc _).later hb2; have hc := hblk.cell n; rw [hsd] at hc; have z0 := (H5.out w2 hb2).1; have hfz := hblk.frozen n; have HBK := hid hblk; clear hblk))
          refine ⟨⟨k + 1, by omega, by go_num, hid (HSUC.out.2 ⟨HOK.out, HR.out, HM.out⟩), hid ?_, hid ?_⟩, by simp [intOf]; omega⟩
          · have := HBK.out.setCell n (.bool true)
            rw [seenV_set _ _ (by omega)] at this
            rw [HIDS.out]; exact this
          · exact below_setCells (HB.out.trans ((below_out hb2).mono HB.out.size)) HLT.out n [.bool true]
      · obtain rfl : false = v := by rw [← hv.out]; exact (decide_eq_false (HNO.out (fun h => hr h.1))).symm
        rw [decide_eq_false hr] at cs
        clear hr
        go_wp2_with (go_at_call 93; ((with_reducible refine (cs _).mono ?_); rintro e w2 ⟨rfl, hb2⟩))
        go_ret
        exact ⟨rfl, HB.out.trans ((below_out hb2).mono HB.out.size)⟩
    · obtain rfl : k = L.length := by omega
      obtain rfl : true = v := by rw [← hv.out]; have := HOK.out; rw [List.take_of_length_le (Nat.le_refl _)] at this; exact (decide_eq_true this).symm
      go_wp2
      go_ret
      exact ⟨rfl, HB.out⟩
end Go.Proofs.Ytiajpjkkopdmgaa.schema
/- Contract of layer 13 (schema): Fine. No condition. -/
namespace Go.Proofs.Ytiajpjkkopdmgaa.schema
open Go.RowKit
open Go.Proofs.Ytiajpjkkopdmgaa.field (Gives newB gives_from)
set_option linter.unusedVariables false

/-- a form that has just been boxed stays -/
theorem boxM (i : Int) (a : Option Addr) (L : List field.Fd) (cap : Nat) (w w' : World) (hb : Below (w.alloc (.cells #[.int .i64 i, .slice a L.length cap] 52)).heap.size (w.alloc (.cells #[.int .i64 i, .slice a L.length cap] 52)) w') : w'.cell? ⟨w.heap.size, 0, none⟩ = some (.int .i64 i) ∧ w'.cell? ⟨w.heap.size, 1, none⟩ = some (.slice a L.length cap) ∧ Below w.heap.size w w' := by
  have hB := (Block.new w 52 [.int .i64 i, .slice a L.length cap]).later hb
  exact ⟨hB.cell 0, hB.cell 1, below_out hb⟩
/-- a call that gives v, from every later world -/
abbrev From (F : FuncId) (args : Array Value) (v : Value) (w0 : World) : Prop := ∀ w', Below w0.heap.size w0 w' → Calls Try.prog F args w' fun e w2 => e = .returned v ∧ Below w0.heap.size w0 w2
theorem from_all {F : FuncId} {args : Array Value} {v : Value} (w0 : World) (h : ∀ w', Calls Try.prog F args w' (Gives v w')) : From F args v w0 := fun w' hb => gives_from (h w') hb
theorem from_fields {F : FuncId} {args : Array Value} {v : Value} {a : Option Addr} {L : List field.Fd} {w0 : World} (hf : field.Fds w0 a L) (h : ∀ w', field.Fds w' a L → Calls Try.prog F args w' (Gives v w')) : From F args v w0 := fun w' hb => gives_from (h w' (hf.below hb)) hb
theorem within_from (n lo hi : Int) (w0 : World) (v : Bool) (h : decide (lo ≤ n ∧ n ≤ hi) = v) : From 36 #[.int .i64 n, .int .i64 lo, .int .i64 hi] (.bool v) w0 := from_all w0 (fun w' => h ▸ within_any n lo hi w')
theorem fine_any (i : Int) (a : Option Addr) (cap : Nat) (L : List field.Fd) (w : World) (h : field.Fds w a L) (hL : L.length ≤ maxLen) :
    Calls Try.prog 37 #[.agg #[.int .i64 i, .slice a L.length cap]] w (Gives (.bool (decide (Fine (i, L)))) w) := by
  have HX := hid (boxM i a L cap w)
  have HF := h.below (newB w (.cells #[.int .i64 i, .slice a L.length cap] 52))
  obtain ⟨v, hv⟩ : ∃ v : Bool, Hid (decide (Fine (i, L)) = v) := ⟨_, rfl⟩
  rw [hv.out]
  unfold Gives
  have cA := fun v h => within_from i 0 200 (w.alloc (.cells #[.int .i64 i, .slice a L.length cap] 52)) v h
  have cB := fun v h => within_from (L.length : Int) 1 8 (w.alloc (.cells #[.int .i64 i, .slice a L.length cap] 52)) v h
  have cC := from_fields HF (fun w' h' => fineFields_any a cap L w' h' hL)
  clear h
  by_cases h1 : 0 ≤ i ∧ i ≤ 200
  · replace cA := cA true (decide_eq_true h1)
    by_cases h2 : 1 ≤ L.length ∧ L.length ≤ 8
    · replace cB := cB true (decide_eq_true (by omega))
      have cD := from_fields HF (fun w' h' => long_any i a cap L w' h' (by omega))
      by_cases h3 : FineF L
      · rw [decide_eq_true h3] at cC
        have hsz := size_le L
        by_cases h4 : size L ≤ 64
        · obtain rfl : true = v := by rw [← hv.out]; exact (decide_eq_true ⟨h1, h2, h3, h4⟩).symm
          have hd : decide ((size L : Int) ≤ 64) = true := decide_eq_true (by omega)
          clear h3 HF
          generalize size L = s at *
          go_enter Try.func37, Try.ntmps37
          go_wp2_with (first
            | (go_at_call 36; ((with_reducible refine (cA _ (by first | exact Below.refl _ _ | assumption)).mono ?_); rintro e w2 ⟨rfl, hb2⟩; obtain ⟨z0, z1, hbo⟩ := HX.out _ hb2))
            | (go_at_call 36; ((with_reducible refine (cB _ (by first | exact Below.refl _ _ | assumption)).mono ?_); rintro e w2 ⟨rfl, hb2⟩; obtain ⟨z0, z1, hbo⟩ := HX.out _ hb2))
            | (go_at_call 67; ((with_reducible refine (cC _ (by first | exact Below.refl _ _ | assumption)).mono ?_); rintro e w2 ⟨rfl, hb2⟩; obtain ⟨z0, z1, hbo⟩ := HX.out _ hb2))
            | (go_at_call 68; ((with_reducible refine (cD _ (by first | exact Below.refl _ _ | assumption)).mono ?_); rintro e w2 ⟨rfl, hb2⟩; obtain ⟨z0, z1, hbo⟩ := HX.out _ hb2)))
          go_ret
          exact ⟨by first | rfl | exact ret_bool (by assumption), by assumption⟩
        · obtain rfl : false = v := by rw [← hv.out]; exact (decide_eq_false (fun h => h4 h.2.2.2)).symm
          have hd : decide ((size L : Int) ≤ 64) = false := decide_eq_false (by omega)
          clear h3 HF h4
          generalize size L = s at *
          go_enter Try.func37, Try.ntmps37
          go_wp2_with (first
            | (go_at_call 36; ((with_reducible refine (cA _ (by first | exact Below.refl _ _ | assumption)).mono ?_); rintro e w2 ⟨rfl, hb2⟩; obtain ⟨z0, z1, hbo⟩ := HX.out _ hb2))
            | (go_at_call 36; ((with_reducible refine (cB _ (by first | exact Below.refl _ _ | assumption)).mono ?_); rintro e w2 ⟨rfl, hb2⟩; obtain ⟨z0, z1, hbo⟩ := HX.out _ hb2))
            | (go_at_call 67; ((with_reducible refine (cC _ (by first | exact Below.refl _ _ | assumption)).mono ?_); rintro e w2 ⟨rfl, hb2⟩; obtain ⟨z0, z1, hbo⟩ := HX.out _ hb2))
            | (go_at_call 68; ((with_reducible refine (cD _ (by first | exact Below.refl _ _ | assumption)).mono ?_); rintro e w2 ⟨rfl, hb2⟩; obtain ⟨z0, z1, hbo⟩ := HX.out _ hb2)))
          go_ret
          exact ⟨by first | rfl | exact ret_bool (by assumption), by assumption⟩
      · obtain rfl : false = v := by rw [← hv.out]; exact (decide_eq_false (fun h => h3 h.2.2.1)).symm
        rw [decide_eq_false h3] at cC
        clear h3 HF cD
        go_enter Try.func37, Try.ntmps37
        go_wp2_with (first
          | (go_at_call 36; ((with_reducible refine (cA _ (by first | exact Below.refl _ _ | assumption)).mono ?_); rintro e w2 ⟨rfl, hb2⟩; obtain ⟨z0, z1, hbo⟩ := HX.out _ hb2))
          | (go_at_call 36; ((with_reducible refine (cB _ (by first | exact Below.refl _ _ | assumption)).mono ?_); rintro e w2 ⟨rfl, hb2⟩; obtain ⟨z0, z1, hbo⟩ := HX.out _ hb2))
          | (go_at_call 67; ((with_reducible refine (cC _ (by first | exact Below.refl _ _ | assumption)).mono ?_); rintro e w2 ⟨rfl, hb2⟩; obtain ⟨z0, z1, hbo⟩ := HX.out _ hb2))
          | (go_at_call 68; ((with_reducible refine (cD _ (by first | exact Below.refl _ _ | assumption)).mono ?_); rintro e w2 ⟨rfl, hb2⟩; obtain ⟨z0, z1, hbo⟩ := HX.out _ hb2)))
        go_ret
        exact ⟨by first | rfl | exact ret_bool (by assumption), by assumption⟩
    · obtain rfl : false = v := by rw [← hv.out]; exact (decide_eq_false (fun h => h2 h.2.1)).symm
      replace cB := cB false (decide_eq_false (by omega))
      clear HF cC h2
      go_enter Try.func37, Try.ntmps37
      go_wp2_with (first
        | (go_at_call 36; ((with_reducible refine (cA _ (by first | exact Below.refl _ _ | assumption)).mono ?_); rintro e w2 ⟨rfl, hb2⟩; obtain ⟨z0, z1, hbo⟩ := HX.out _ hb2))
        | (go_at_call 36; ((with_reducible refine (cB _ (by first | exact Below.refl _ _ | assumption)).mono ?_); rintro e w2 ⟨rfl, hb2⟩; obtain ⟨z0, z1, hbo⟩ := HX.out _ hb2))
        | (go_at_call 67; ((with_reducible refine (cC _ (by first | exact Below.refl _ _ | assumption)).mono ?_); rintro e w2 ⟨rfl, hb2⟩; obtain ⟨z0, z1, hbo⟩ := HX.out _ hb2))
        | (go_at_call 68; ((with_reducible refine (cD _ (by first | exact Below.refl _ _ | assumption)).mono ?_); rintro e w2 ⟨rfl, hb2⟩; obtain ⟨z0, z1, hbo⟩ := HX.out _ hb2)))
      go_ret
      exact ⟨by first | rfl | exact ret_bool (by assumption), by assumption⟩
  · obtain rfl : false = v := by rw [← hv.out]; exact (decide_eq_false (fun h => h1 h.1)).symm
    replace cA := cA false (decide_eq_false h1)
    clear HF cC cB h1
    go_enter Try.func37, Try.ntmps37
    go_wp2_with (first
      | (go_at_call 36; ((with_reducible refine (cA _ (by first | exact Below.refl _ _ | assumption)).mono ?_); rintro e w2 ⟨rfl, hb2⟩; obtain ⟨z0, z1, hbo⟩ := HX.out _ hb2))
      | (go_at_call 36; ((with_reducible refine (cB _ (by first | exact Below.refl _ _ | assumption)).mono ?_); rintro e w2 ⟨rfl, hb2⟩; obtain ⟨z0, z1, hbo⟩ := HX.out _ hb2))
      | (go_at_call 67; ((with_reducible refine (cC _ (by first | exact Below.refl _ _ | assumption)).mono ?_); rintro e w2 ⟨rfl, hb2⟩; obtain ⟨z0, z1, hbo⟩ := HX.out _ hb2))
      | (go_at_call 68; ((with_reducible refine (cD _ (by first | exact Below.refl _ _ | assumption)).mono ?_); rintro e w2 ⟨rfl, hb2⟩; obtain ⟨z0, z1, hbo⟩ := HX.out _ hb2)))
    go_ret
    exact ⟨by first | rfl | exact ret_bool (by assumption), by assumption⟩
theorem fm_info2 (x y : Value) : (Try.prog.info? 52).map (·.size) = some [x, y].length := by kernel_rfl
end Go.Proofs.Ytiajpjkkopdmgaa.schema
/- The first place of a number in a list of numbers. No condition. -/
namespace Go.Proofs.Ytiajpjkkopdmgaa.schema
open Go.RowKit
open Go.Proofs.Ytiajpjkkopdmgaa.field (Gives newB gives_from)
set_option linter.unusedVariables false
theorem below_drew {B : Nat} {a w : World} (h : Below B a w) : Below B a w.drew := below_drewN h 1

/-- the place of the first x, or -1 -/
def firstAt (l : List Int) (x : Int) : Int := if x ∈ l then (l.idxOf x : Int) else -1
theorem idxOf_hit : ∀ (l : List Int) (k : Nat) (x : Int), x ∉ l.take k → l[k]? = some x → l.idxOf x = k := by
  intro l
  induction l with
  | nil => intro k x _ h; simp at h
  | cons y l ih =>
    intro k x hn h
    cases k with
    | zero => simp at h; subst h; simp
    | succ k =>
      simp only [List.take_succ_cons, List.mem_cons, not_or] at hn
      have hb : (y == x) = false := beq_eq_false_iff_ne.2 (Ne.symm hn.1)
      rw [List.idxOf_cons, hb, ih k x hn.2 (by simpa using h)]
      rfl
theorem first_hit {l : List Int} {k : Nat} {x : Int} (hn : x ∉ l.take k) (h : l[k]? = some x) : firstAt l x = k := by
  unfold firstAt
  rw [if_pos (List.mem_of_getElem? h), idxOf_hit l k x hn h]
theorem first_none {l : List Int} {x : Int} (hn : x ∉ l) : firstAt l x = -1 := if_neg hn
theorem not_take_succ {l : List Int} {k : Nat} {x y : Int} (hn : x ∉ l.take k) (h : l[k]? = some y) (hy : y ≠ x) : x ∉ l.take (k + 1) := by
  rw [take_succ_at h]; simp [hn]; omega
theorem ids_at {L : List field.Fd} {k : Nat} {p : field.Fd} (h : L[k]? = some p) : (ids L)[k]? = some p.id := by simp [ids, h]
theorem ids_length (L : List field.Fd) : (ids L).length = L.length := List.length_map _
end Go.Proofs.Ytiajpjkkopdmgaa.schema
