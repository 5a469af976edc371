/- Values of layer 18 (item): keys, and lists of items. No condition. -/
import Derived.Test.YtccaibdklgkgeaaItemOpen
import Derived.Laws.Strings
namespace Go.Proofs.Ytccaibdklgkgeaa.item
open Go.RowKit
set_option linter.unusedVariables false

instance : DecidableEq It := fun a b =>
  if h : a.key = b.key ∧ a.data.toList = b.data.toList then isTrue (by
    obtain ⟨n, ⟨⟨s⟩⟩⟩ := a
    obtain ⟨m, ⟨⟨t⟩⟩⟩ := b
    obtain ⟨h1, h2⟩ := h
    simp only at h1 h2
    rw [ByteArray.toList_eq, ByteArray.toList_eq] at h2
    simp only at h2
    subst h1 h2; rfl) else isFalse (by rintro rfl; simp at h)
theorem it_eq {n m : Nat} {s t : ByteArray} : (⟨n, s⟩ : It) = ⟨m, t⟩ ↔ n = m ∧ s.toList = t.toList := by
  constructor
  · intro h; cases h; exact ⟨rfl, rfl⟩
  · rintro ⟨rfl, h⟩
    obtain ⟨⟨s⟩⟩ := s
    obtain ⟨⟨t⟩⟩ := t
    rw [ByteArray.toList_eq, ByteArray.toList_eq] at h
    simp only at h
    subst h; rfl
/-- may element i stand there? -/
def okAt (L : List It) (i : Nat) : Bool := match L[i]? with
  | none => true
  | some p => decide (p.data.size ≤ 64) && (i == 0 || match L[i - 1]? with | none => true | some q => decide (q.key < p.key))
/-- may a list be? -/
def Right (L : List It) : Prop := ∀ i < L.length, okAt L i = true
instance (L : List It) : Decidable (Right L) := by unfold Right; exact inferInstance
/-- the data of the first item of a key -/
def find (k : Nat) (L : List It) : Option It := L.find? (fun p => p.key == k)
def data (o : Option It) : ByteArray := match o with | none => ⟨#[]⟩ | some p => p.data
def between (lo hi : Nat) (L : List It) : List It := L.filter (fun p => decide (lo ≤ p.key) && decide (p.key ≤ hi))
def put (L : List It) (x : It) : List It := L.filter (fun p => decide (p.key < x.key)) ++ x :: L.filter (fun p => decide (x.key < p.key))
def cut (L : List It) (k : Nat) : List It := L.filter (fun p => !(p.key == k))
/-- numbers of a key -/
def fits (f i : Int) : Prop := 0 ≤ f ∧ f ≤ 200 ∧ 0 ≤ i ∧ i ≤ 65535
instance (f i : Int) : Decidable (fits f i) := by unfold fits; exact inferInstance

theorem right_iff (L : List It) : Right L ↔ (∀ p ∈ L, p.data.size ≤ 64) ∧ L.Pairwise (fun a b => a.key < b.key) := by
  constructor
  · intro h
    have h1 : ∀ i (hi : i < L.length), (L[i]).data.size ≤ 64 := by
      intro i hi
      have := h i hi
      unfold okAt at this
      rw [List.getElem?_eq_getElem hi] at this
      simp only [Bool.and_eq_true, decide_eq_true_eq] at this
      exact this.1
    have h2 : ∀ i (hi : i + 1 < L.length), (L[i]).key < (L[i + 1]).key := by
      intro i hi
      have := h (i + 1) hi
      unfold okAt at this
      rw [List.getElem?_eq_getElem hi] at this
      simp only [Nat.add_sub_cancel, List.getElem?_eq_getElem (show i < L.length by omega), Bool.and_eq_true, decide_eq_true_eq, Bool.or_eq_true] at this
      rcases this.2 with h | h
      · simp at h
      · exact h
    refine ⟨fun p hp => ?_, ?_⟩
    · obtain ⟨i, hi, rfl⟩ := List.mem_iff_getElem.1 hp
      exact h1 i hi
    · rw [List.pairwise_iff_getElem]
      intro i j hi hj hij
      have key : ∀ d (hd : i + 1 + d < L.length), (L[i]).key < (L[i + 1 + d]).key := by
        intro d
        induction d with
        | zero => intro hd; exact h2 i hd
        | succ d ih => intro hd; exact Nat.lt_trans (ih (by omega)) (h2 (i + 1 + d) hd)
      have := key (j - i - 1) (by omega)
      simpa [show i + 1 + (j - i - 1) = j by omega] using this
  · rintro ⟨h1, h2⟩ i hi
    unfold okAt
    rw [List.getElem?_eq_getElem hi]
    simp only [Bool.and_eq_true, decide_eq_true_eq, Bool.or_eq_true]
    refine ⟨h1 _ (List.getElem_mem hi), ?_⟩
    by_cases h0 : i = 0
    · left; simp [h0]
    · right
      rw [List.getElem?_eq_getElem (show i - 1 < L.length by omega)]
      exact decide_eq_true ((List.pairwise_iff_getElem.1 h2) (i - 1) i (by omega) hi (by omega))
theorem right_put {L : List It} {x : It} (h : Right L) (hx : x.data.size ≤ 64) : Right (put L x) := by
  rw [right_iff] at h ⊢
  unfold put
  refine ⟨fun p hp => ?_, ?_⟩
  · rw [List.mem_append, List.mem_cons] at hp
    rcases hp with hp | rfl | hp
    · exact h.1 p (List.mem_filter.1 hp).1
    · exact hx
    · exact h.1 p (List.mem_filter.1 hp).1
  · rw [List.pairwise_append, List.pairwise_cons]
    refine ⟨h.2.filter _, ⟨fun b hb => by simpa using (List.mem_filter.1 hb).2, h.2.filter _⟩, fun a ha b hb => ?_⟩
    have ha := (List.mem_filter.1 ha).2
    rw [List.mem_cons] at hb
    simp only [decide_eq_true_eq] at ha
    rcases hb with rfl | hb
    · exact ha
    · have hb := (List.mem_filter.1 hb).2
      simp only [decide_eq_true_eq] at hb
      omega
theorem right_cut {L : List It} (k : Nat) (h : Right L) : Right (cut L k) := by
  rw [right_iff] at h ⊢
  exact ⟨fun p hp => h.1 p (List.mem_filter.1 hp).1, h.2.filter _⟩
theorem put_length (L : List It) (x : It) : (put L x).length = (cut L x.key).length + 1 := by
  unfold put cut
  rw [List.length_append, List.length_cons]
  induction L with
  | nil => simp
  | cons p L ih =>
    simp only [List.filter_cons]
    rcases Nat.lt_trichotomy p.key x.key with h | h | h
    · have h1 : ¬ x.key < p.key := by omega
      have h2 : (p.key == x.key) = false := by rw [beq_eq_false_iff_ne]; omega
      simp only [h, h1, h2, decide_true, decide_false, Bool.not_false, if_true, List.length_cons]
      simp; omega
    · have h1 : ¬ x.key < p.key := by omega
      have h3 : ¬ p.key < x.key := by omega
      have h2 : (p.key == x.key) = true := by rw [beq_iff_eq]; exact h
      simp only [h1, h3, h2, decide_false, Bool.not_true]
      simpa using ih
    · have h1 : ¬ p.key < x.key := by omega
      have h2 : (p.key == x.key) = false := by rw [beq_eq_false_iff_ne]; omega
      simp only [h, h1, h2, decide_true, decide_false, Bool.not_false, if_true, List.length_cons]
      simp; omega
theorem find_filter {L : List It} {f : It → Bool} {k : Nat} (h : ∀ p ∈ L, p.key = k → f p = true) : find k (L.filter f) = find k L := by
  unfold find
  induction L with
  | nil => rfl
  | cons p L ih =>
    have ih := ih (fun q hq => h q (List.mem_cons_of_mem _ hq))
    rw [List.filter_cons]
    by_cases hk : p.key = k
    · rw [if_pos (h p (List.mem_cons_self ..) hk), List.find?_cons, List.find?_cons]
      simp [hk]
    · have hk' : (p.key == k) = false := by rw [beq_eq_false_iff_ne]; exact hk
      rw [List.find?_cons, hk']
      by_cases hf : f p = true
      · rw [if_pos hf, List.find?_cons, hk']; exact ih
      · rw [if_neg hf]; exact ih
theorem find_none {L : List It} {f : It → Bool} {k : Nat} (h : ∀ p ∈ L, p.key = k → f p = false) : find k (L.filter f) = none := by
  unfold find
  rw [List.find?_eq_none]
  intro p hp hk
  have hp := List.mem_filter.1 hp
  rw [h p hp.1 (by simpa using hk)] at hp
  exact absurd hp.2 (by simp)
theorem find_put (L : List It) (x : It) (k : Nat) : find k (put L x) = if k = x.key then some x else find k L := by
  have e : find k (put L x) = (find k (L.filter (fun p => decide (p.key < x.key)))).or (if k = x.key then some x else find k (L.filter (fun p => decide (x.key < p.key)))) := by
    unfold put find
    rw [List.find?_append, List.find?_cons]
    by_cases h : k = x.key
    · simp [h]
    · have h' : (x.key == k) = false := by rw [beq_eq_false_iff_ne]; exact fun e => h e.symm
      simp [h, h']
  rw [e]
  by_cases h : k = x.key
  · rw [if_pos h, if_pos h, find_none (fun p _ hp => by simp; omega)]; rfl
  · rw [if_neg h, if_neg h]
    rcases Nat.lt_or_ge k x.key with hl | hl
    · rw [find_filter (f := fun p => decide (p.key < x.key)) (fun p _ hp => by simp; omega), find_none (fun p _ hp => by simp; omega)]
      simp
    · rw [find_none (f := fun p => decide (p.key < x.key)) (fun p _ hp => by simp; omega), find_filter (fun p _ hp => by simp; omega)]
      rfl
theorem find_cut (L : List It) (c k : Nat) : find k (cut L c) = if k = c then none else find k L := by
  unfold cut
  by_cases h : k = c
  · rw [if_pos h, find_none (fun p _ hp => by simp [hp, h])]
  · rw [if_neg h, find_filter (fun p _ hp => by simp [hp, h])]
theorem cut_le (L : List It) (k : Nat) : (cut L k).length ≤ L.length := List.length_filter_le ..
theorem cut_lt (L : List It) (k : Nat) : (cut L k).length < L.length ↔ (find k L).isSome = true := by
  unfold cut find
  induction L with
  | nil => simp
  | cons p L ih =>
    rw [List.filter_cons, List.find?_cons]
    have hle := cut_le L k
    unfold cut at hle
    by_cases h : p.key = k
    · have h' : (p.key == k) = true := by rw [beq_iff_eq]; exact h
      rw [h']; simp; omega
    · have h' : (p.key == k) = false := by rw [beq_eq_false_iff_ne]; exact h
      rw [h']; simp
/-- in a right list at most one item has a key -/
theorem cut_right {L : List It} (h : Right L) (k : Nat) : (cut L k).length < L.length ↔ ((cut L k).length : Int) = (L.length : Int) - 1 := by
  have key : ∀ M : List It, M.Pairwise (fun a b => a.key < b.key) → M.length ≤ (cut M k).length + 1 := by
    intro M
    unfold cut
    induction M with
    | nil => simp
    | cons p M ih =>
      intro hp
      rw [List.pairwise_cons] at hp
      rw [List.filter_cons]
      by_cases hk : p.key = k
      · have h' : (p.key == k) = true := by rw [beq_iff_eq]; exact hk
        have : M.filter (fun p => !(p.key == k)) = M := List.filter_eq_self.2 (fun q hq => by have := hp.1 q hq; simp; omega)
        rw [h', this]; simp
      · have h' : (p.key == k) = false := by rw [beq_eq_false_iff_ne]; exact hk
        have := ih hp.2
        rw [h']; simpa using this
  have := key L ((right_iff L).1 h).2
  have := cut_le L k
  omega
/-- a right list has at most as many items as there are keys -/
theorem right_len {L : List It} (h : Right L) (hk : ∀ p ∈ L, p.key < 4294967296) : L.length ≤ 4294967296 := by
  have hp := (right_iff L |>.1 h).2
  have key : ∀ i (hi : i < L.length), i ≤ (L[i]).key := by
    intro i
    induction i with
    | zero => intro _; exact Nat.zero_le _
    | succ i ih =>
      intro hi
      have h1 := ih (by omega)
      have h2 := (List.pairwise_iff_getElem.1 hp) i (i + 1) (by omega) hi (by omega)
      omega
  by_cases h0 : L.length = 0
  · omega
  · have h1 := key (L.length - 1) (by omega)
    have h2 := hk _ (List.getElem_mem (show L.length - 1 < L.length by omega))
    omega
/-- what layer 18's third law asks of the values -/
theorem by_key {L : List It} {x : It} (k : Nat) (h : Right L) (hx : x.data.size ≤ 64) :
    Right (put L x) ∧ Right (cut L x.key) ∧ (decide ((cut L x.key).length < L.length) = decide (((cut L x.key).length : Int) = (L.length : Int) - 1)) ∧ (put L x).length = (cut L x.key).length + 1 ∧
    (if k = x.key then find k (put L x) = some x ∧ find k (cut L x.key) = none ∧ (find k L).isSome = decide ((cut L x.key).length < L.length) else find k (put L x) = find k L ∧ find k (cut L x.key) = find k L) := by
  refine ⟨right_put h hx, right_cut _ h, decide_eq_decide.2 (cut_right h _), put_length L x, ?_⟩
  rw [find_put, find_cut]
  by_cases hk : k = x.key
  · subst hk
    simp only [if_true, true_and]
    rw [Bool.eq_iff_iff, decide_eq_true_eq, cut_lt]
  · simp only [if_neg hk, and_self]
theorem between_lt (L : List It) (x : Nat) (h : 0 < x) : between 0 (x - 1) L = L.filter (fun p => decide (p.key < x)) := by
  unfold between
  congr 1; funext p
  rw [Bool.eq_iff_iff]; simp; omega
theorem between_gt {L : List It} (x : Nat) (hL : ∀ p ∈ L, p.key < 4294967296) : between (x + 1) 4294967295 L = L.filter (fun p => decide (x < p.key)) := by
  unfold between
  refine List.filter_congr (fun p hp => ?_)
  have := hL p hp
  rw [Bool.eq_iff_iff]; simp; omega
def mains (L : List It) : List It := L.filter (fun p => decide (p.key < 16777216))
def sides (L : List It) : List It := L.filter (fun p => !(decide (p.key < 16777216)))
theorem between_mains (L : List It) : between 0 16777215 L = mains L := between_lt L 16777216 (by omega)
theorem between_sides {L : List It} (hL : ∀ p ∈ L, p.key < 4294967296) : between 16777216 4294967295 L = sides L := by
  unfold between sides
  refine List.filter_congr (fun p hp => ?_)
  have := hL p hp
  rw [Bool.eq_iff_iff]; simp; omega
theorem take_succ_at {α : Type} {L : List α} {k : Nat} {p : α} (h : L[k]? = some p) : L.take (k + 1) = L.take k ++ [p] := by
  rw [List.take_add_one, h]; rfl
theorem filter_yes {α : Type} {L : List α} {f : α → Bool} {k : Nat} {p : α} (h : L[k]? = some p) (hf : f p = true) : (L.take (k + 1)).filter f = (L.take k).filter f ++ [p] := by
  rw [take_succ_at h, List.filter_append]; simp [hf]
theorem filter_no {α : Type} {L : List α} {f : α → Bool} {k : Nat} {p : α} (h : L[k]? = some p) (hf : f p = false) : (L.take (k + 1)).filter f = (L.take k).filter f := by
  rw [take_succ_at h, List.filter_append]; simp [hf]
theorem find_yes {α : Type} {L : List α} {f : α → Bool} {k : Nat} {p : α} (h : L[k]? = some p) (h0 : (L.take k).find? f = none) (hf : f p = true) : L.find? f = some p := by
  rw [← List.take_append_drop k L, List.find?_append, h0]
  have hk := (List.getElem?_eq_some_iff.1 h).1
  rw [List.drop_eq_getElem_cons hk, (List.getElem?_eq_some_iff.1 h).2]
  simp [hf]
theorem find_no {α : Type} {L : List α} {f : α → Bool} {k : Nat} {p : α} (h : L[k]? = some p) (h0 : (L.take k).find? f = none) (hf : f p = false) : (L.take (k + 1)).find? f = none := by
  rw [take_succ_at h, List.find?_append, h0]; simp [hf]
end Go.Proofs.Ytccaibdklgkgeaa.item
