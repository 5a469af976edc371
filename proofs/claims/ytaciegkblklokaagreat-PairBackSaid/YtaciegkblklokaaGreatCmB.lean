/- Contracts and lemmas that the claims of this seat share: SchemaMath, ValueEq, StepMath, Tail, Arr, FieldRight, BitsLen, FieldTop. Each says its own conditions. -/
import Derived.Test.YtaciegkblklokaaGreatCmA
import Derived.Laws.Strings
import Derived.StillTail
import Derived.Deep.RegionHeld3
import Derived.Deep.QuietTactic
import Derived.BigQuiet
import Derived.WalkKit
import Derived.Test.YtaciegkblklokaaGreatRows
import Derived.Deep.MidRow
import Derived.Deep.WholeRow
import Derived.Laws.OwnMore
import Derived.IntWalk
import Derived.Handy
set_option linter.unusedVariables false
namespace Go.Proofs.YtaciegkblklokaaGreat.schema
open Go.RowKit Go.Proofs.YtaciegkblklokaaGreat.pen
instance : DecidableEq field.Fd := fun a b =>
 if h : a.id = b.id ∧ a.kind = b.kind ∧ a.lo = b.lo ∧ a.hi = b.hi ∧ a.most = b.most then isTrue (by cases a; cases b; simp_all) else isFalse (by rintro rfl; simp at h)
abbrev Form := Int × List field.Fd
def Fm.p (f : Fm) : Form := (f.id, f.fL)
def forms (F : List Fm) : List Form := F.map Fm.p
theorem forms_length (F : List Fm) : (forms F).length = F.length := List.length_map _
theorem forms_at {F : List Fm} {i : Nat} {p : Fm} (h : F[i]? = some p) : (forms F)[i]? = some p.p := by simp [forms, h]
def size (L : List field.Fd) : Nat := (L.map field.Fd.size).sum
def ids (L : List field.Fd) : List Int := L.map field.Fd.id
def FineF (L : List field.Fd) : Prop := (∀ f ∈ L, f.Right) ∧ (ids L).Nodup
instance (L : List field.Fd) : Decidable (FineF L) := by unfold FineF; infer_instance
def Fine (p : Form) : Prop := (0 ≤ p.1 ∧ p.1 ≤ 200) ∧ (1 ≤ p.2.length ∧ p.2.length ≤ 8) ∧ FineF p.2 ∧ size p.2 ≤ 64
instance (p : Form) : Decidable (Fine p) := by unfold Fine; infer_instance
def FineS (F : List Form) : Prop := (∀ p ∈ F, Fine p) ∧ (F.map (·.1)).Pairwise (· < ·)
instance (F : List Form) : Decidable (FineS F) := by unfold FineS; infer_instance
def Right (v : Int) (F : List Form) : Prop := (1 ≤ v ∧ v ≤ 65535) ∧ F.length ≤ 8 ∧ FineS F
instance (v : Int) (F : List Form) : Decidable (Right v F) := by unfold Right; infer_instance
theorem fd_size_le (f : field.Fd) : f.size ≤ 33 := by
 have := @field.wide_le
 unfold field.Fd.size
 split
 ·rename_i h
  split
  ·unfold field.Fd.Right at h; omega
  ·exact Nat.le_trans (this _) (by omega)
 ·omega
theorem size_le (L : List field.Fd) : size L ≤ 33 * L.length := by
 induction L with
 | nil => simp [size]
 | cons f L ih =>
  have := fd_size_le f
  simp only [size, List.map_cons, List.sum_cons, List.length_cons] at ih ⊢
  omega
theorem take_succ_at {α : Type} {L : List α} {k : Nat} {x : α} (h : L[k]? = some x) : L.take (k + 1) = L.take k ++ [x] := by
 rw [List.take_add_one, h]; rfl
theorem size_succ {L : List field.Fd} {k : Nat} {x : field.Fd} (h : L[k]? = some x) : size (L.take (k + 1)) = size (L.take k) + x.size := by
 rw [take_succ_at h]; simp [size]
theorem size_take (L : List field.Fd) (k : Nat) : size (L.take k) ≤ 33 * k := by
 have := size_le (L.take k)
 simp at this
 omega
theorem FineF.nil : FineF [] := ⟨by simp, by simp [ids]⟩
theorem fineF_succ {L : List field.Fd} {k : Nat} {x : field.Fd} (h : L[k]? = some x) : FineF (L.take (k + 1)) ↔ FineF (L.take k) ∧ x.Right ∧ x.id ∉ ids (L.take k) := by
 rw [take_succ_at h]
 unfold FineF ids
 simp only [List.map_append, List.map_cons, List.map_nil, List.nodup_append, List.mem_append, List.mem_singleton]
 constructor
 ·rintro ⟨h1, h2, h3, h4⟩
  refine ⟨⟨fun f hf => h1 f (.inl hf), h2⟩, h1 x (.inr rfl), fun hm => h4 _ hm _ rfl rfl⟩
 ·rintro ⟨⟨h1, h2⟩, h3, h4⟩
  refine ⟨fun f hf => hf.elim (h1 f) (fun e => e ▸ h3), h2, by simp, fun a ha b hb e => h4 (by rw [← hb, ← e]; exact ha)⟩
theorem fineF_take {L : List field.Fd} (h : FineF L) (k : Nat) : FineF (L.take k) :=
 ⟨fun f hf => h.1 f (List.mem_of_mem_take hf), by unfold ids; rw [List.map_take]; exact h.2.sublist (List.take_sublist _ _)⟩
theorem fineF_no {L : List field.Fd} {k : Nat} {x : field.Fd} (h : L[k]? = some x) (hn : ¬ (x.Right ∧ x.id ∉ ids (L.take k))) : ¬ FineF L := fun hf => hn ((fineF_succ h).1 (fineF_take hf _)).2
theorem FineS.nil : FineS [] := ⟨by simp, by simp⟩
theorem fineS_succ {F : List Form} {k : Nat} {x : Form} (h : F[k]? = some x) : FineS (F.take (k + 1)) ↔ FineS (F.take k) ∧ Fine x ∧ ∀ p ∈ F.take k, p.1 < x.1 := by
 rw [take_succ_at h]
 unfold FineS
 simp only [List.map_append, List.map_cons, List.map_nil, List.pairwise_append, List.mem_append, List.mem_singleton, List.mem_map]
 constructor
 ·rintro ⟨h1, h2, h3, h4⟩
  exact ⟨⟨fun f hf => h1 f (.inl hf), h2⟩, h1 x (.inr rfl), fun p hp => h4 _ ⟨p, hp, rfl⟩ _ rfl⟩
 ·rintro ⟨⟨h1, h2⟩, h3, h4⟩
  exact ⟨fun f hf => hf.elim (h1 f) (fun e => e ▸ h3), h2, by simp, by rintro a ⟨p, hp, rfl⟩ b rfl; exact h4 p hp⟩
theorem fineS_take {F : List Form} (h : FineS F) (k : Nat) : FineS (F.take k) :=
 ⟨fun f hf => h.1 f (List.mem_of_mem_take hf), by rw [List.map_take]; exact h.2.sublist (List.take_sublist _ _)⟩
theorem fineS_no {F : List Form} {k : Nat} {x : Form} (h : F[k]? = some x) (hn : ¬ (Fine x ∧ ∀ p ∈ F.take k, p.1 < x.1)) : ¬ FineS F := fun hf => hn ((fineS_succ h).1 (fineS_take hf _)).2
theorem rise {F : List Form} {k : Nat} {y x : Form} (hy : F[k]? = some y) (hk : FineS (F.take (k + 1))) : (∀ p ∈ F.take (k + 1), p.1 < x.1) ↔ y.1 < x.1 := by
 have h1 := (fineS_succ hy).1 hk
 rw [take_succ_at hy]
 constructor
 ·intro h; exact h y (by simp)
 ·intro h p hp
  rcases List.mem_append.1 hp with h2 | h2
  ·have := h1.2.2 p h2; omega
  ·obtain rfl := List.mem_singleton.1 h2; exact h
theorem right_span {f : field.Fd} (h : f.Right) : (0 ≤ f.id ∧ f.id ≤ 255) ∧ (1 ≤ f.kind ∧ f.kind ≤ 4) ∧ (-1099511627776 ≤ f.lo ∧ f.lo ≤ 1099511627776) ∧ (-1099511627776 ≤ f.hi ∧ f.hi ≤ 1099511627776) ∧ (0 ≤ f.most ∧ f.most ≤ 1000) := by
 unfold field.Fd.Right at h; omega
end Go.Proofs.YtaciegkblklokaaGreat.schema
namespace Go.Proofs.YtaciegkblklokaaGreat.record
open Go.RowKit
open Go.Proofs.YtaciegkblklokaaGreat.field (Va)
instance : DecidableEq Va := fun a b =>
 if h : a.n = b.n ∧ a.s.toList = b.s.toList then isTrue (by
  obtain ⟨n, ⟨⟨s⟩⟩⟩ := a
  obtain ⟨m, ⟨⟨t⟩⟩⟩ := b
  obtain ⟨h1, h2⟩ := h
  simp only at h1 h2
  rw [ByteArray.toList_eq, ByteArray.toList_eq] at h2
  simp only at h2
  subst h1 h2; rfl) else isFalse (by rintro rfl; simp at h)
theorem va_eq {n m : Int} {s t : ByteArray} : (⟨n, s⟩ : Va) = ⟨m, t⟩ ↔ n = m ∧ s.toList = t.toList := by
 constructor
 ·intro h; cases h; exact ⟨rfl, rfl⟩
 ·rintro ⟨rfl, h⟩
  obtain ⟨⟨s⟩⟩ := s
  obtain ⟨⟨t⟩⟩ := t
  rw [ByteArray.toList_eq, ByteArray.toList_eq] at h
  simp only at h
  subst h; rfl
end Go.Proofs.YtaciegkblklokaaGreat.record
namespace Go.Proofs.YtaciegkblklokaaGreat.step
open Go.RowKit Go.Proofs.YtaciegkblklokaaGreat.pen
open Go.Proofs.YtaciegkblklokaaGreat.schema (take_succ_at)
instance : DecidableEq Sp := fun x y =>
 if h : x.op = y.op ∧ x.fm = y.fm ∧ x.fd = y.fd ∧ x.pl = y.pl ∧ x.tt = y.tt ∧ x.a = y.a ∧ x.b = y.b ∧ x.f = y.f ∧ x.v = y.v ∧ x.t = y.t ∧ x.l = y.l then isTrue (by
  cases x; cases y; simp only at h
  obtain ⟨rfl, rfl, rfl, rfl, rfl, rfl, rfl, rfl, rfl, rfl, rfl⟩ := h; rfl) else isFalse (by rintro rfl; simp at h)
abbrev fd0 : field.Fd := ⟨0, 0, 0, 0, 0⟩
abbrev va0 : field.Va := ⟨0, ⟨#[]⟩⟩
abbrev Sp.zero : Sp := ⟨0, 0, 0, 0, 0, 0, 0, fd0, va0, [], []⟩
def mem (op : Int) : List Nat :=
 if op = 1 ∨ op = 22 then [0, 2, 9] else if op = 2 then [0, 1, 10] else if op = 3 ∨ op = 23 then [0, 1, 8] else if op = 4 then [0, 1, 5] else if op = 24 then [0, 1, 5, 8]
 else if op = 5 then [0, 1, 6] else if op = 25 then [0, 1, 7] else if op = 6 then [0, 1, 4, 3] else if op = 26 then [0, 1, 4, 3, 8] else if op = 7 ∨ op = 27 then [0, 1, 2]
 else if op = 8 ∨ op = 28 then [0, 1, 3] else if op = 9 ∨ op = 30 then [0, 11] else if op = 10 ∨ op = 29 then [0] else if op = 21 then [0, 1] else []
def uses (op : Int) : List UInt8 :=
 if op = 1 ∨ op = 22 then [102, 112, 70, 86] else if op = 2 then [102, 100, 86] else if op = 3 ∨ op = 23 then [102, 100, 70] else if op = 4 then [102, 100, 98] else if op = 24 then [102, 100, 98, 70]
 else if op = 5 then [102, 100, 97, 84] else if op = 25 then [102, 100, 84] else if op = 6 then [102, 100, 97, 116] else if op = 26 then [102, 100, 97, 116, 70] else if op = 7 ∨ op = 27 then [102, 100, 112]
 else if op = 8 ∨ op = 28 then [102, 100, 116] else if op = 9 ∨ op = 30 then [102, 76] else if op = 10 ∨ op = 29 then [102] else if op = 21 then [102, 100] else []
theorem ops (op : Int) : (op = 1 ∨ op = 22 ∨ op = 2 ∨ op = 3 ∨ op = 23 ∨ op = 4 ∨ op = 24 ∨ op = 5 ∨ op = 25 ∨ op = 6 ∨ op = 26 ∨ op = 7 ∨ op = 27 ∨ op = 8 ∨ op = 28 ∨ op = 9 ∨ op = 30 ∨ op = 10 ∨ op = 29 ∨ op = 21) ∨
  (¬ op = 1 ∧ ¬ op = 22 ∧ ¬ op = 2 ∧ ¬ op = 3 ∧ ¬ op = 23 ∧ ¬ op = 4 ∧ ¬ op = 24 ∧ ¬ op = 5 ∧ ¬ op = 25 ∧ ¬ op = 6 ∧ ¬ op = 26 ∧ ¬ op = 7 ∧ ¬ op = 27 ∧ ¬ op = 8 ∧ ¬ op = 28 ∧ ¬ op = 9 ∧ ¬ op = 30 ∧ ¬ op = 10 ∧ ¬ op = 29 ∧ ¬ op = 21) := by omega
theorem mem_none {op : Int} (h : ¬ op = 1 ∧ ¬ op = 22 ∧ ¬ op = 2 ∧ ¬ op = 3 ∧ ¬ op = 23 ∧ ¬ op = 4 ∧ ¬ op = 24 ∧ ¬ op = 5 ∧ ¬ op = 25 ∧ ¬ op = 6 ∧ ¬ op = 26 ∧ ¬ op = 7 ∧ ¬ op = 27 ∧ ¬ op = 8 ∧ ¬ op = 28 ∧ ¬ op = 9 ∧ ¬ op = 30 ∧ ¬ op = 10 ∧ ¬ op = 29 ∧ ¬ op = 21) : mem op = [] ∧ uses op = [] := by
 unfold mem uses
 simp [h]
theorem all_ops {Q : Int → Prop} (h1 : Q 1) (h22 : Q 22) (h2 : Q 2) (h3 : Q 3) (h23 : Q 23) (h4 : Q 4) (h24 : Q 24) (h5 : Q 5) (h25 : Q 25) (h6 : Q 6) (h26 : Q 26) (h7 : Q 7) (h27 : Q 27) (h8 : Q 8) (h28 : Q 28) (h9 : Q 9) (h30 : Q 30) (h10 : Q 10) (h29 : Q 29) (h21 : Q 21)
  (h0 : ∀ op, mem op = [] → uses op = [] → Q op) (op : Int) : Q op := by
 rcases ops op with h | h
 ·rcases h with rfl | rfl | rfl | rfl | rfl | rfl | rfl | rfl | rfl | rfl | rfl | rfl | rfl | rfl | rfl | rfl | rfl | rfl | rfl | rfl <;> assumption
 ·exact h0 op (mem_none h).1 (mem_none h).2
theorem mem_lt (op : Int) : ∀ m ∈ mem op, m < 12 := by
 refine all_ops (Q := fun op => ∀ m ∈ mem op, m < 12) ?_ ?_ ?_ ?_ ?_ ?_ ?_ ?_ ?_ ?_ ?_ ?_ ?_ ?_ ?_ ?_ ?_ ?_ ?_ ?_ ?h0 op
 case h0 => intro op h1 h2; rw [h1]; simp
 all_goals decide
theorem mem_span {op : Int} (h : mem op ≠ []) : 1 ≤ op ∧ op ≤ 30 := by
 rcases ops op with h1 | h1
 ·omega
 ·exact absurd (mem_none h1).1 h
theorem mem_len (op : Int) : (mem op).length ≤ 5 := by
 refine all_ops (Q := fun op => (mem op).length ≤ 5) ?_ ?_ ?_ ?_ ?_ ?_ ?_ ?_ ?_ ?_ ?_ ?_ ?_ ?_ ?_ ?_ ?_ ?_ ?_ ?_ ?h0 op
 case h0 => intro op h1 h2; rw [h1]; simp
 all_goals decide
theorem uses_len (op : Int) : (uses op).length ≤ 5 := by
 refine all_ops (Q := fun op => (uses op).length ≤ 5) ?_ ?_ ?_ ?_ ?_ ?_ ?_ ?_ ?_ ?_ ?_ ?_ ?_ ?_ ?_ ?_ ?_ ?_ ?_ ?_ ?h0 op
 case h0 => intro op h1 h2; rw [h2]; simp
 all_goals decide
def Table (t : List Int) (lim : Int) : Prop := (1 ≤ t.length ∧ t.length ≤ 64) ∧ (∀ n ∈ t, 0 ≤ n ∧ n ≤ lim - 1) ∧ t.Nodup
instance (t : List Int) (lim : Int) : Decidable (Table t lim) := by unfold Table; infer_instance
def Sp.Fine (s : Sp) (m : Nat) : Prop :=
 if m = 0 then 0 ≤ s.fm ∧ s.fm ≤ 200 else if m = 1 then 0 ≤ s.fd ∧ s.fd ≤ 255 else if m = 2 then 0 ≤ s.pl ∧ s.pl ≤ 8 else if m = 3 then (0 ≤ s.tt ∧ s.tt ≤ 255) ∧ s.tt ≠ s.fd
 else if m = 4 then 2 ≤ s.a ∧ s.a ≤ 1048576 else if m = 5 then ((-1048576 ≤ s.a ∧ s.a ≤ 1048576) ∧ s.a ≠ 0) ∧ (-1099511627776 ≤ s.b ∧ s.b ≤ 1099511627776)
 else if m = 6 then (1 ≤ s.a ∧ s.a ≤ 1000) ∧ Table s.t s.a else if m = 7 then Table s.t 1000 else if m = 8 then s.f.Right ∧ s.f.id = s.fd else if m = 9 then s.f.Has s.v
 else if m = 10 then (-1099511627776 ≤ s.v.n ∧ s.v.n ≤ 1099511627776) ∧ s.v.s.size ≤ 32 else schema.Fine (s.fm, s.l)
instance (s : Sp) (m : Nat) : Decidable (s.Fine m) := by unfold Sp.Fine; infer_instance
def Sp.clear (s : Sp) (m : Nat) : Sp :=
 if m = 0 then { s with fm := 0 } else if m = 1 then { s with fd := 0 } else if m = 2 then { s with pl := 0 } else if m = 3 then { s with tt := 0 } else if m = 4 then { s with a := 0 }
 else if m = 5 then { s with a := 0, b := 0 } else if m = 6 then { s with a := 0, t := [] } else if m = 7 then { s with t := [] } else if m = 8 then { s with f := fd0 } else if m = 9 then { s with f := fd0, v := va0 }
 else if m = 10 then { s with v := va0 } else { s with l := [] }
def Sp.Right (s : Sp) : Prop := (∀ m ∈ mem s.op, s.Fine m) ∧ mem s.op ≠ [] ∧ (mem s.op).foldl Sp.clear { s with op := 0 } = Sp.zero
instance (s : Sp) : Decidable s.Right := by unfold Sp.Right; infer_instance
def takeA (e : Sight) : field.Fd × Sight :=
 let a := eCount 255 e
 let k := eCount 4 a.2
 let l := eInt k.2
 let h := eInt l.2
 let m := eCount 1000 h.2
 (⟨a.1, k.1, l.1, h.1, m.1⟩, m.2)
def takeAs : Nat → Sight → List field.Fd × Sight
 | 0, e => ([], e)
 | n + 1, e => ((takeAs n e).1 ++ [(takeA (takeAs n e).2).1], (takeA (takeAs n e).2).2)
def takeNs : Nat → Sight → List Int × Sight
 | 0, e => ([], e)
 | n + 1, e => ((takeNs n e).1 ++ [((eCount 1000 (takeNs n e).2).1 : Int)], (eCount 1000 (takeNs n e).2).2)
def takeL (c : UInt8) (s : Sp) (e : Sight) : Sp × Sight :=
 if c = 102 then ({ s with fm := (eCount 200 e).1 }, (eCount 200 e).2) else if c = 100 then ({ s with fd := (eCount 255 e).1 }, (eCount 255 e).2)
 else if c = 112 then ({ s with pl := (eCount 8 e).1 }, (eCount 8 e).2) else if c = 116 then ({ s with tt := (eCount 255 e).1 }, (eCount 255 e).2)
 else if c = 97 then ({ s with a := (eCount 1048576 e).1 }, (eCount 1048576 e).2) else if c = 98 then ({ s with a := (eInt e).1, b := (eInt (eInt e).2).1 }, (eInt (eInt e).2).2)
 else if c = 70 then ({ s with f := (takeA e).1 }, (takeA e).2) else if c = 86 then ({ s with v := ⟨(eInt e).1, strOf (eText 32 (eInt e).2).1⟩ }, (eText 32 (eInt e).2).2)
 else if c = 84 then ({ s with t := s.t ++ (takeNs (eCount 64 e).1 (eCount 64 e).2).1 }, (takeNs (eCount 64 e).1 (eCount 64 e).2).2)
 else ({ s with l := s.l ++ (takeAs (eCount 8 e).1 (eCount 8 e).2).1 }, (takeAs (eCount 8 e).1 (eCount 8 e).2).2)
def run (cs : List UInt8) (p : Sp × Sight) : Sp × Sight := cs.foldl (fun p c => takeL c p.1 p.2) p
theorem run_app (a b : List UInt8) (p : Sp × Sight) : run (a ++ b) p = run b (run a p) := List.foldl_append
end Go.Proofs.YtaciegkblklokaaGreat.step
namespace Go.Proofs.YtaciegkblklokaaGreat.tail
open Go
section
variable {P : Program} {ops : Array Oper} {md : Region.Mode} {C : World → Prop}
def anyL (P : Program) (md : Region.Mode) (ops : Array Oper) (C : World → Prop) (n : Nat) (L : Array Bool → Act → Prop) : Nat → Array Bool → Act → Prop
 | 0, listed, a => L listed a
 | f + 1, listed, a =>
  Region.ready md ops listed ≠ [] ∧ ∀ i ∈ Region.ready md ops listed, i < n ∧ qOp P ops C i (anyL P md ops C n L f (listed.setIfInBounds i true)) a
theorem any_of_head {n g : Nat} {L : Array Bool → Act → Prop} {Q' : Exit → Act → World → Prop} (hL : ∀ listed a w, C w → L listed a → wpAny P md ops Q' g listed a w) :
  ∀ (f : Nat) (listed : Array Bool) (a : Act) (w : World), C w → anyL P md ops C n L f listed a → wpAny P md ops Q' (f + g) listed a w
 | 0, listed, a, w, hw, h => by rw [Nat.zero_add]; exact hL _ _ _ hw h
 | f + 1, listed, a, w, hw, h => by
  rw [show f + 1 + g = (f + g) + 1 by omega]
  exact ⟨fun h0 => absurd h0 h.1, fun i hi => wpOp_of_qOp hw (fun a' w' hw' h' => any_of_head hL f _ a' w' hw' h') (h.2 i hi).2⟩
theorem anyL_first {n i : Nat} {oi : Oper} {v : Value} {L : Array Bool → Act → Prop} (hi : ops[i]? = some oi) (hsel : ∀ (j : Nat) (o : Oper) cs b, ops[j]? = some o → o.op ≠ .select cs b)
  (hs : Region.sinkB md ops n = true) (hc : Region.chainB md ops n = true) (hn : n < ops.size) (hin : i < n)
  (hdone : ∀ listed a, L listed a → ∀ j ∈ Region.ready md ops listed, n ≤ j) :
  ∀ (f : Nat) (listed : Array Bool) (a : Act), HeadInv md ops n listed →
   (∀ j oj, ops[j]? = some oj → j ≠ i → listed.getD j true = false → (∀ e ∈ oj.after, Region.binds md e = true → e.on ≠ i) → oi.apart ops oj = true) →
   i ∈ Region.ready md ops listed → YieldsIn P ops C oi v a →
   anyL P md ops C n L f (listed.setIfInBounds i true) (a.put oi.dst v) → anyL P md ops C n L (f + 1) listed a := by
 intro f
 induction f with
 | zero =>
  intro listed a inv _ hr hy H
  have hun := (mem_ready.1 hr).1
  refine ⟨fun h => (by rw [h] at hr; cases hr), fun j hj => ?_⟩
  have hjn : j < n := by
   rcases Nat.lt_or_ge j n with h | h
   ·exact h
   ·exact absurd hj (tail_waits hs hc hn inv _ i rfl hin hun j h)
  refine ⟨hjn, ?_⟩
  by_cases hji : j = i
  ·subst hji; exact hy.qOp hi H
  ·have := hdone _ _ H j (ready_mono hj hji)
   omega
 | succ f ih =>
  intro listed a inv hfree hr hy H
  have hun := (mem_ready.1 hr).1
  refine ⟨fun h => (by rw [h] at hr; cases hr), fun j hj => ?_⟩
  have hjn : j < n := by
   rcases Nat.lt_or_ge j n with h | h
   ·exact h
   ·exact absurd hj (tail_waits hs hc hn inv _ i rfl hin hun j h)
  refine ⟨hjn, ?_⟩
  by_cases hji : j = i
  ·subst hji; exact hy.qOp hi H
  ·have h1 := (H.2 j (ready_mono hj hji)).2
   obtain ⟨hjun, oj, hoj, hall⟩ := mem_ready.1 hj
   have hnot : ∀ e ∈ oj.after, Region.binds md e = true → e.on ≠ i := fun e he hb heq => by
    have h1 := hall e he hb
    rw [heq, getD_both hun] at h1
    cases h1
   have h2 := qOp_put hoj (hfree j oj hoj hji hjun hnot) (fun cs b => hsel i oi cs b hi) (fun cs b => hsel j oj cs b hoj) hy h1
   have hfree' : ∀ k ok, ops[k]? = some ok → k ≠ i → (listed.setIfInBounds j true).getD k true = false →
     (∀ e ∈ ok.after, Region.binds md e = true → e.on ≠ i) → oi.apart ops ok = true := fun k ok hk hki hun hno => by
    refine hfree k ok hk hki ?_ hno
    by_cases hjk : j = k
    ·subst hjk; exact hjun
    ·rw [getD_set_ne true hjk] at hun; exact hun
   refine qOp_mono (fun a' h3 => ih (listed.setIfInBounds j true) a' (inv.set hj hjn) hfree' (ready_mono hr (Ne.symm hji)) h3.1 ?_) h2
   rw [Array.setIfInBounds_comm _ _ hji]
   exact h3.2
theorem anyL_lex {n g : Nat} {Lq : Act → Prop} (hsel : Region.noSelect ops = true) (hs : Region.sinkB md ops n = true) (hc : Region.chainB md ops n = true) (hn : n < ops.size) :
  ∀ (l : List Oper) (k : Nat) (listed : Array Bool) (a : Act), (∀ j, j < l.length → l[j]? = ops[k + j]?) → k + l.length = n → HeadInv md ops n listed →
  Region.lexHead md ops g l.length k listed = true → wpQuiet P ops C Lq l a →
  anyL P md ops C n (fun listed' a' => Region.seqB md ops g n listed' = true ∧ Lq a') l.length listed a
 | [], k, listed, a, _, hk, _, hB, h => by
  have : k = n := by simpa using hk
  subst this
  exact ⟨by simpa [Region.lexHead] using hB, h⟩
 | o :: l, k, listed, a, hl, hk, inv, hB, h => by
  have h0 : ops[k]? = some o := by simpa using (hl 0 (by simp)).symm
  simp only [List.length_cons, Region.lexHead, Bool.and_eq_true] at hB
  obtain ⟨⟨hr, hf⟩, hB'⟩ := hB
  have hkn : k < n := by simp only [List.length_cons] at hk; omega
  have hr' : k ∈ Region.ready md ops listed := by simpa using hr
  have hst : qOp P ops C k (wpQuiet P ops C Lq l) a := by unfold qOp; simp only [h0]; exact h
  obtain ⟨v, hy, hK⟩ := yieldsIn_of_qOp h0 hst
  exact anyL_first h0 (Region.noSelect_spec hsel) hs hc hn hkn (fun listed' a' hL => seqB_ready hL.1) l.length listed a inv (Region.free_spec h0 hf) hr' hy
   (anyL_lex hsel hs hc hn l (k + 1) _ _ (fun j hj => by have := hl (j + 1) (by simp; omega); simpa [Nat.add_assoc, Nat.add_comm 1 j] using this) (by simp only [List.length_cons] at hk; omega) (inv.set hr' hkn) hB' hK)
theorem region {id : Nat} {Q : Exit → Act → World → Prop} {a : Act} {w : World} {l : List Oper} (n : Nat) (hm : P.follows .mixedOrders = true) (hB : Region.lexTailB .any l.toArray n = true)
  (h : wpQuiet P l.toArray (fun w' => ∃ n, w' = w.drewN n) (fun a' => ∀ w', (∃ n, w' = w.drewN n) → wpList P l.toArray Q (l.drop n) a' w') (l.take n) a) : (Code.region id l.toArray true).wp P Q a w := by
 simp only [Region.lexTailB, Bool.and_eq_true, decide_eq_true_eq] at hB
 obtain ⟨⟨⟨⟨hsel, hn⟩, hs⟩, hc⟩, hlex⟩ := hB
 have hn' : n < l.length := by simpa using hn
 have htl : (l.take n).length = n := by simp; omega
 have hdl : (l.drop n).length = l.toArray.size - n := by simp
 have inv0 : HeadInv .any l.toArray n (Array.replicate l.toArray.size false) :=
  ⟨by simp, fun j oj _ hl => (by rw [getD_replicate_false] at hl; cases hl), fun t _ ht => getD_in (by simpa using ht) (getD_replicate_false _ _)⟩
 have H := anyL_lex (md := .any) (g := l.toArray.size - n) hsel hs hc hn (l.take n) 0 _ a (fun j hj => by
  have hj' : j < n := by rw [htl] at hj; exact hj
  simp [hj']) (by simpa using htl) inv0 (by rw [htl]; exact hlex) h
 refine wp_region_any hm ?_
 have := any_of_head (C := fun w' => ∃ n, w' = w.drewN n) (Q' := Q) (g := l.toArray.size - n) (fun listed a' w' hw' hL => by
  have := wpAny_of_seq (md := .any) (Q' := Q) (l.drop n) n listed a' w' (fun j => by simp [List.getElem?_drop]) (by rw [hdl]; exact hL.1) (hL.2 w' hw')
  rwa [hdl] at this) _ _ _ _ ⟨1, rfl⟩ H
 rw [htl, show n + (l.toArray.size - n) = l.toArray.size by omega] at this
 exact this
theorem held_of_any {Q : Exit → Act → World → Prop} : ∀ (fuel : Nat) (listed : Array Bool) (a : Act) (w : World), wpAny P md ops Q fuel listed a w → wpAnyH P md ops Q (fun _ => True) fuel listed a w
 | 0, _, _, _, h => h
 | fuel + 1, _, _, _, h => ⟨h.1, fun i hi => wpOp_mono (fun a' w' h' => ⟨trivial, held_of_any fuel _ a' w' h'⟩) (h.2 i hi)⟩
end
end Go.Proofs.YtaciegkblklokaaGreat.tail
namespace Go.Proofs.YtaciegkblklokaaGreat
open Go.RowKit
def Block (w : World) (b : Nat) (t : TypeId) (cs : List Value) : Prop := w.heap[b]? = some (.cells cs.toArray t (0, 0))
theorem Block.lt {w : World} {b : Nat} {t : TypeId} {cs : List Value} (h : Block w b t cs) : b < w.heap.size := (Array.getElem?_eq_some_iff.1 h).1
theorem Block.cell {w : World} {b : Nat} {t : TypeId} {cs : List Value} (h : Block w b t cs) (j : Nat) : w.cell? ⟨b, j, none⟩ = cs[j]? := by
 rw [cell_of_row w b j cs.toArray t (0, 0) h]; simp
theorem Block.frozen {w : World} {b : Nat} {t : TypeId} {cs : List Value} (h : Block w b t cs) (j : Nat) : w.frozen? ⟨b, j, none⟩ = false := frozen_of_row w b j cs.toArray t h
theorem Block.range {w : World} {b : Nat} {t : TypeId} {cs : List Value} (h : Block w b t cs) (o : Nat) (vs : List Value) (hv : ∀ j v, vs[j]? = some v → cs[o + j]? = some v) : w.rangeAt b o vs :=
 fun j v hj => by rw [h.cell]; exact hv j v hj
theorem Block.whole {w : World} {b : Nat} {t : TypeId} {cs : List Value} (h : Block w b t cs) : w.rangeAt b 0 cs := h.range 0 cs (fun j v hj => by rw [Nat.zero_add]; exact hj)
theorem Block.there {w : World} {b : Nat} {t : TypeId} {cs : List Value} (h : Block w b t cs) (o n : Nat) (hn : o + n ≤ cs.length) : w.there b o n :=
 fun j hj => ⟨by rw [h.cell, List.getElem?_eq_getElem (by omega)]; rfl, h.frozen _⟩
theorem Block.setCell {w : World} {b : Nat} {t : TypeId} {cs : List Value} (h : Block w b t cs) (j : Nat) (v : Value) : Block (w.setCell ⟨b, j, none⟩ v) b t (cs.set j v) := by
 have := heap_setCell_same w b j cs.toArray t v h
 unfold Block
 rw [this]
 simp
def put (cs : List Value) : Nat → List Value → List Value
 | _, [] => cs
 | o, v :: r => put (cs.set o v) (o + 1) r
theorem put_mid (A X C Y : List Value) (h : X.length = Y.length) : put (A ++ X ++ C) A.length Y = A ++ Y ++ C := by
 induction Y generalizing A X with
 | nil => obtain rfl : X = [] := List.eq_nil_of_length_eq_zero (by simpa using h); rfl
 | cons y r ih =>
  cases X with
  | nil => simp at h
  | cons x X =>
   have e : (A ++ x :: X ++ C).set A.length y = (A ++ [y]) ++ X ++ C := by simp
   have := ih (A ++ [y]) X (by simpa using h)
   rw [put, e, show A.length + 1 = (A ++ [y]).length by simp, this]
   simp
theorem put_all (X Y : List Value) (h : X.length = Y.length) : put X 0 Y = Y := by
 have := put_mid [] X [] Y h
 simpa using this
theorem Block.setCells {b : Nat} {t : TypeId} : ∀ {vs : List Value} {o : Nat} {w : World} {cs : List Value}, Block w b t cs → Block (w.setCells b o vs) b t (put cs o vs)
 | [], _, _, _, h => h
 | v :: r, o, w, cs, h => Block.setCells (vs := r) (o := o + 1) (h.setCell o v)
theorem Block.alloc {w : World} {b : Nat} {t : TypeId} {cs : List Value} (h : Block w b t cs) (ob : Obj) : Block (w.alloc ob) b t cs := (Below.heap_alloc w ob b h.lt).trans h
theorem Block.new (w : World) (t : TypeId) (cs : List Value) : Block (w.alloc (.cells cs.toArray t)) w.heap.size t cs := heap_alloc_last w _
theorem Block.drewN {w : World} {b : Nat} {t : TypeId} {cs : List Value} (h : Block w b t cs) (n : Nat) : Block (w.drewN n) b t cs := h
theorem Block.below {w w' : World} {b B : Nat} {t : TypeId} {cs : List Value} (h : Block w b t cs) (hb : Below B w w') (hB : b < B) : Block w' b t cs := (hb.block b hB).trans h
theorem Block.later {w w' : World} {b : Nat} {t : TypeId} {cs : List Value} (h : Block w b t cs) (hb : Below w.heap.size w w') : Block w' b t cs := h.below hb h.lt
theorem Block.apart {w : World} {b : Nat} {t : TypeId} {cs : List Value} (h : Block w b t cs) (g o : Nat) (v : Value) (hg : b ≠ g) : Block (w.setCell ⟨g, o, none⟩ v) b t cs :=
 (Below.heap_setCell w ⟨g, o, none⟩ v b hg).trans h
theorem heap_setCells (g : Nat) : ∀ (vs : List Value) (o : Nat) (w : World) (k : Nat), k ≠ g → (w.setCells g o vs).heap[k]? = w.heap[k]?
 | [], _, _, _, _ => rfl
 | v :: r, o, w, k, h => (heap_setCells g r (o + 1) _ k h).trans (Below.heap_setCell w ⟨g, o, none⟩ v k h)
theorem size_setCells (g : Nat) : ∀ (vs : List Value) (o : Nat) (w : World), (w.setCells g o vs).heap.size = w.heap.size
 | [], _, _ => rfl
 | v :: r, o, w => (size_setCells g r (o + 1) _).trans (by simp)
theorem rest_setCells (g : Nat) : ∀ (vs : List Value) (o : Nat) (w : World), (w.setCells g o vs).os = w.os ∧ (w.setCells g o vs).tape = w.tape ∧ (w.setCells g o vs).output = w.output
 | [], _, _ => ⟨rfl, rfl, rfl⟩
 | v :: r, o, w => rest_setCells g r (o + 1) (w.setCell ⟨g, o, none⟩ v)
theorem Block.aparts {w : World} {b : Nat} {t : TypeId} {cs : List Value} (h : Block w b t cs) (g o : Nat) (vs : List Value) (hg : b ≠ g) : Block (w.setCells g o vs) b t cs :=
 (heap_setCells g vs o w b hg).trans h
theorem below_setCells {B g : Nat} {a w : World} (h : Below B a w) (hg : B ≤ g) (o : Nat) (vs : List Value) : Below B a (w.setCells g o vs) :=
 h.trans ⟨(rest_setCells g vs o w).1, (rest_setCells g vs o w).2.1, (rest_setCells g vs o w).2.2, by rw [size_setCells]; exact Nat.le_refl _, fun k hk => heap_setCells g vs o w k (by omega)⟩
theorem wpList_store_named {P : Program} {w : World} {ops : Array Oper} {rest : List Oper} {op : Oper} {a : Act} {Q : Exit → Act → World → Prop} (hgd : op.guard = none) (ty : TypeId) (x y : Operand) (ho : op.op = .store ty x y)
  (b o : Nat) (cells : Array Value) (hx : a.eval x = .pointer (some ⟨b, o, none⟩)) (hy : a.eval y = .agg cells)
  (ht : w.there b o cells.size) (hi : (P.info? ty).map (·.size) = some cells.size) (h1 : cells.all (·.oneCell') = true)
  (h : ∀ w', Hid (w.setCells b o cells.toList = w') → wpList P ops Q rest (a.put op.dst undef) w') : wpList P ops Q (op :: rest) a w :=
 wpList_store_mid hgd ty x y ho b o cells hx hy ht hi h1 (h _ rfl)
theorem results_cell {fn : Func} {p : Tmp} {ty : TypeId} {tmps : Array Value} {P : Program} {w : World} {b o : Nat} {cs : List Value} {d : TypeDesc} (h : fn.results = #[.cell p ty])
  (hp : tmps.getD p undef = .pointer (some ⟨b, o, none⟩)) (hc : w.rangeAt b o cs) (hu : P.underlying ty = some d) (hd : d.isRow = true) (hi : (P.info? ty).map (·.size) = some cs.length) :
  (results fn tmps).run P w = .ok (.agg cs.toArray) w := by
 simp only [results, h]
 simp at hp
 simp [hp, asAddr, run_loadVar_mid w b o ty cs d hc hu hd hi]
theorem ownsRow_later {w w' : World} {base e size n : Nat} {v : Value} {xs : List Value} (h : w.ownsRow base e size v n xs) (hb : Below w.heap.size w w') : w'.ownsRow base e size v n xs := by
 refine ⟨h.1, ?_⟩
 rcases h.2 with h0 | ⟨g, cap, cur, hv, h1, hg, h2, h3, h4, h5⟩
 ·exact .inl h0
 ·exact .inr ⟨g, cap, cur, hv, h1, (hb.block g (Array.getElem?_eq_some_iff.1 hg).1).trans hg, h2, h3, h4, h5⟩
def But (B g : Nat) (w w' : World) : Prop :=
 w'.os = w.os ∧ w'.tape = w.tape ∧ w'.output = w.output ∧ w.heap.size ≤ w'.heap.size ∧ ∀ k, k < B → k ≠ g → w'.heap[k]? = w.heap[k]?
theorem But.refl (B g : Nat) (w : World) : But B g w w := ⟨rfl, rfl, rfl, Nat.le_refl _, fun _ _ _ => rfl⟩
theorem But.trans {B g : Nat} {a b c : World} (h : But B g a b) (k : But B g b c) : But B g a c :=
 ⟨k.1.trans h.1, k.2.1.trans h.2.1, k.2.2.1.trans h.2.2.1, Nat.le_trans h.2.2.2.1 k.2.2.2.1, fun j h1 h2 => (k.2.2.2.2 j h1 h2).trans (h.2.2.2.2 j h1 h2)⟩
theorem Below.but {B g : Nat} {a b : World} (h : Below B a b) : But B g a b := ⟨h.os, h.tape, h.output, h.size, fun k hk _ => h.block k hk⟩
theorem But.below {B B' g : Nat} {a b : World} (h : But B g a b) (hB : B' ≤ B) (hg : B' ≤ g) : Below B' a b := ⟨h.1, h.2.1, h.2.2.1, h.2.2.2.1, fun k hk => h.2.2.2.2 k (by omega) (by omega)⟩
theorem But.mono {B B' g : Nat} {a b : World} (h : But B g a b) (hB : B' ≤ B) : But B' g a b := ⟨h.1, h.2.1, h.2.2.1, h.2.2.2.1, fun k hk hg => h.2.2.2.2 k (by omega) hg⟩
theorem But.setCells {B g : Nat} {a w : World} (h : But B g a w) (o : Nat) (vs : List Value) : But B g a (w.setCells g o vs) :=
 h.trans ⟨(rest_setCells g vs o w).1, (rest_setCells g vs o w).2.1, (rest_setCells g vs o w).2.2, by rw [size_setCells]; exact Nat.le_refl _, fun k _ hg => heap_setCells g vs o w k hg⟩
theorem But.setCell {B g : Nat} {a w : World} (h : But B g a w) (o : Nat) (v : Value) : But B g a (w.setCell ⟨g, o, none⟩ v) := h.setCells o [v]
theorem But.step {B g : Nat} {a w w' : World} (h : But B g a w) (k : Below w.heap.size w w') (hB : B ≤ w.heap.size) : But B g a w' := h.trans (Below.but (k.mono hB))
theorem But.drewN {B g : Nat} {a w : World} (h : But B g a w) (n : Nat) : But B g a (w.drewN n) := h
theorem Block.but {w w' : World} {b B g : Nat} {t : TypeId} {cs : List Value} (h : Block w b t cs) (hb : But B g w w') (hB : b < B) (hg : b ≠ g) : Block w' b t cs := (hb.2.2.2.2 b hB hg).trans h
theorem Reads.but {k : IntKind} {w w' : World} {b off len B g : Nat} {xs : List Nat} (h : Reads k w (some ⟨b, off, none⟩) len xs) (hb : But B g w w') (hB : b < B) (hg : b ≠ g) : Reads k w' (some ⟨b, off, none⟩) len xs := by
 refine ⟨h.1, ?_⟩
 rcases h.2 with h | ⟨b', off', ha, hlt, hc⟩
 ·exact .inl h
 ·cases ha
  refine .inr ⟨b, off, rfl, Nat.lt_of_lt_of_le hlt hb.2.2.2.1, fun i hi => ?_⟩
  rw [World.cell?_of_block (w := w) (hb.2.2.2.2 b hB hg)]; exact hc i hi
theorem Block.reads {k : IntKind} {w : World} {b : Nat} {t : TypeId} {cs : List Value} (h : Block w b t cs) (o : Nat) (xs : List Nat) (hx : ∀ i, i < xs.length → cs[o + i]? = some (.int k ((xs.getD i 0 : Nat) : Int))) (n : Nat) (hn : xs.length = n) : Reads k w (some ⟨b, o, none⟩) n xs :=
 ⟨hn, .inr ⟨b, o, rfl, h.lt, fun i hi => by rw [h.cell]; exact hx i (by omega)⟩⟩
end Go.Proofs.YtaciegkblklokaaGreat
namespace Go.Proofs.YtaciegkblklokaaGreat.field
open Go.RowKit
def Gives (v : Value) (w : World) (e : Ending) (w' : World) : Prop := e = .returned v ∧ Below w.heap.size w w'
theorem newB (w : World) (d : Obj) : Below w.heap.size w (w.alloc d) := (Below.refl _ _).alloc (Nat.le_refl _) _
theorem five (f : Fd) (w w' : World) (hb : Below (w.alloc (.cells (zF f) 26)).heap.size (w.alloc (.cells (zF f) 26)) w') : (w'.cell? ⟨w.heap.size, 0, none⟩ = some (.int .i64 f.id) ∧ w'.cell? ⟨w.heap.size, 1, none⟩ = some (.int .i64 f.kind) ∧ w'.cell? ⟨w.heap.size, 2, none⟩ = some (.int .i64 f.lo) ∧ w'.cell? ⟨w.heap.size, 3, none⟩ = some (.int .i64 f.hi) ∧ w'.cell? ⟨w.heap.size, 4, none⟩ = some (.int .i64 f.most)) := by
 have hB := (Block.new w 26 (zF f)).later hb
 exact ⟨hB.cell 0, hB.cell 1, hB.cell 2, hB.cell 3, hB.cell 4⟩
theorem belowF (f : Fd) (w w' : World) (hb : Below (w.alloc (.cells (zF f) 26)).heap.size (w.alloc (.cells (zF f) 26)) w') : Below w.heap.size w w' := ((Below.refl _ _).alloc (Nat.le_refl _) _).trans (hb.mono (by simp))
theorem within_yes (n lo hi : Int) (w : World) (h1 : lo ≤ n) (h2 : n ≤ hi) : Calls Tryz.prog 101 #[.int .i64 n, .int .i64 lo, .int .i64 hi] w fun e w' => e = .returned (.bool true) ∧ w = w' := by
 go_enter Tryz.func101, Tryz.ntmps101
 go_wp2
 go_ret
 exact ⟨rfl, rfl⟩
theorem within_no (n lo hi : Int) (w : World) (h : n < lo ∨ hi < n) : Calls Tryz.prog 101 #[.int .i64 n, .int .i64 lo, .int .i64 hi] w fun e w' => e = .returned (.bool false) ∧ w = w' := by
 by_cases h1 : n < lo
 ·clear h
  go_enter Tryz.func101, Tryz.ntmps101
  go_wp2
  go_ret
  exact ⟨rfl, rfl⟩
 ·have h2 : hi < n := by omega
  have h3 : lo ≤ n := by omega
  have hd : decide (n ≤ hi) = false := decide_eq_false (by omega)
  clear h h1
  go_enter Tryz.func101, Tryz.ntmps101
  go_wp2
  go_ret
  exact ⟨rfl, rfl⟩
theorem unbounded_yes (i k m : Int) (w : World) : Calls Tryz.prog 108 #[.agg #[.int .i64 i, .int .i64 k, .int .i64 0, .int .i64 0, .int .i64 m]] w (Gives (.bool true) w) := by
 unfold Gives
 go_enter Tryz.func108, Tryz.ntmps108
 go_wp2
 go_ret
 exact ⟨rfl, newB _ _⟩
theorem unbounded_no (i k lo hi m : Int) (h : lo ≠ 0 ∨ hi ≠ 0) (w : World) : Calls Tryz.prog 108 #[.agg #[.int .i64 i, .int .i64 k, .int .i64 lo, .int .i64 hi, .int .i64 m]] w (Gives (.bool false) w) := by
 unfold Gives
 by_cases h1 : lo = 0
 ·have h2 : (hi == 0) = false := by rw [beq_eq_false_iff_ne]; omega
  subst h1
  clear h
  go_enter Tryz.func108, Tryz.ntmps108
  go_wp2
  go_ret
  exact ⟨rfl, newB _ _⟩
 ·have h2 : (lo == 0) = false := by rw [beq_eq_false_iff_ne]; omega
  clear h h1
  go_enter Tryz.func108, Tryz.ntmps108
  go_wp2
  go_ret
  exact ⟨rfl, newB _ _⟩
theorem right_yes (f : Fd) (h : f.Right) (w : World) : Calls Tryz.prog 97 #[zF f] w (Gives (.bool true) w) := by
 have HB := hid (belowF f w)
 have HS := hid (five f w)
 obtain ⟨i, k, lo, hi, m⟩ := f
 obtain ⟨⟨h1, h2⟩, h⟩ := h
 simp only at h h1 h2 HB HS ⊢
 have hw0 := within_yes i 0 255 (w.alloc (.cells #[.int .i64 i, .int .i64 k, .int .i64 lo, .int .i64 hi, .int .i64 m] 26)) h1 h2
 clear h1 h2
 unfold Gives
 rcases h with ⟨rfl, h1, h2, h3, rfl⟩ | ⟨rfl, ⟨rfl, rfl⟩, rfl⟩ | ⟨rfl, ⟨rfl, rfl⟩, h1, h2⟩ | ⟨rfl, ⟨rfl, rfl⟩, h1, h2⟩
 all_goals
  go_enter Tryz.func97, Tryz.ntmps97
  go_wp2_with (first
   | (go_at_call 101; (with_reducible refine hw0.mono ?_); rintro e w' ⟨rfl, rfl⟩; clear hw0)
   | (go_at_call 101; (with_reducible refine (within_yes _ _ _ _ h1 h2).mono ?_); rintro e w' ⟨rfl, rfl⟩)
   | (go_at_call 108; (with_reducible refine (unbounded_yes _ _ _ _).mono ?_); rintro e w1 ⟨rfl, hb1⟩; have hk1 := HS.out w1 hb1))
  go_ret
  exact ⟨rfl, HB.out _ (by first | assumption | exact Below.refl _ _)⟩
theorem Fd.wrong {i k lo hi m : Int} (h : ¬ (⟨i, k, lo, hi, m⟩ : Fd).Right) : (i < 0 ∨ 255 < i) ∨ ((0 ≤ i ∧ i ≤ 255) ∧ (
  (k = 1 ∧ ((lo > hi) ∨ (lo ≤ hi ∧ lo < -1099511627776) ∨ (lo ≤ hi ∧ -1099511627776 ≤ lo ∧ 1099511627776 < hi) ∨ (lo ≤ hi ∧ -1099511627776 ≤ lo ∧ hi ≤ 1099511627776 ∧ m ≠ 0))) ∨
  (k = 2 ∧ ((lo ≠ 0 ∨ hi ≠ 0) ∨ ((lo = 0 ∧ hi = 0) ∧ m ≠ 0))) ∨
  (k = 3 ∧ ((lo ≠ 0 ∨ hi ≠ 0) ∨ ((lo = 0 ∧ hi = 0) ∧ (m < 1 ∨ 1000 < m)))) ∨
  (k = 4 ∧ ((lo ≠ 0 ∨ hi ≠ 0) ∨ ((lo = 0 ∧ hi = 0) ∧ (m < 0 ∨ 32 < m)))) ∨
  (k ≠ 1 ∧ k ≠ 2 ∧ k ≠ 3 ∧ k ≠ 4))) := by
 unfold Fd.Right at h
 simp only at h
 omega
theorem right_no (f : Fd) (h : ¬ f.Right) (w : World) : Calls Tryz.prog 97 #[zF f] w (Gives (.bool false) w) := by
 have HB := hid (belowF f w)
 have HS := hid (five f w)
 obtain ⟨i, k, lo, hi, m⟩ := f
 replace h := Fd.wrong h
 simp only at h HB HS ⊢
 unfold Gives
 rcases h with hn | ⟨⟨h1, h2⟩, h⟩
 ·have hw0 := within_no i 0 255 (w.alloc (.cells #[.int .i64 i, .int .i64 k, .int .i64 lo, .int .i64 hi, .int .i64 m] 26)) hn
  clear hn
  go_enter Tryz.func97, Tryz.ntmps97
  go_wp2_with (go_at_call 101; (with_reducible refine hw0.mono ?_); rintro e w' ⟨rfl, rfl⟩; clear hw0)
  go_ret
  exact ⟨rfl, HB.out _ (Below.refl _ _)⟩
 have hw0 := within_yes i 0 255 (w.alloc (.cells #[.int .i64 i, .int .i64 k, .int .i64 lo, .int .i64 hi, .int .i64 m] 26)) h1 h2
 clear h1 h2
 rcases h with ⟨rfl, h⟩ | ⟨rfl, h⟩ | ⟨rfl, h⟩ | ⟨rfl, h⟩ | ⟨n1, n2, n3, n4⟩
 ·rcases h with h | ⟨h1, h⟩ | ⟨h1, h2, h⟩ | ⟨h1, h2, h3, h⟩
  ·have hd : decide (lo ≤ hi) = false := decide_eq_false (by omega)
   clear h
   go_enter Tryz.func97, Tryz.ntmps97
   go_wp2_with (first
    | (go_at_call 101; (with_reducible refine hw0.mono ?_); rintro e w' ⟨rfl, rfl⟩; clear hw0)
    | (go_at_call 101; (with_reducible refine (within_no _ _ _ _ hn).mono ?_); rintro e w' ⟨rfl, rfl⟩)
    | (go_at_call 108; (with_reducible refine (unbounded_yes _ _ _ _).mono ?_); rintro e w1 ⟨rfl, hb1⟩; have hk1 := HS.out w1 hb1)
    | (go_at_call 108; (with_reducible refine (unbounded_no _ _ _ _ _ hn _).mono ?_); rintro e w1 ⟨rfl, hb1⟩; have hk1 := HS.out w1 hb1))
   go_ret
   exact ⟨rfl, HB.out _ (by first | assumption | exact Below.refl _ _)⟩
  ·have hd : decide (lo ≥ -1099511627776) = false := decide_eq_false (by omega)
   clear h
   go_enter Tryz.func97, Tryz.ntmps97
   go_wp2_with (first
    | (go_at_call 101; (with_reducible refine hw0.mono ?_); rintro e w' ⟨rfl, rfl⟩; clear hw0)
    | (go_at_call 101; (with_reducible refine (within_no _ _ _ _ hn).mono ?_); rintro e w' ⟨rfl, rfl⟩)
    | (go_at_call 108; (with_reducible refine (unbounded_yes _ _ _ _).mono ?_); rintro e w1 ⟨rfl, hb1⟩; have hk1 := HS.out w1 hb1)
    | (go_at_call 108; (with_reducible refine (unbounded_no _ _ _ _ _ hn _).mono ?_); rintro e w1 ⟨rfl, hb1⟩; have hk1 := HS.out w1 hb1))
   go_ret
   exact ⟨rfl, HB.out _ (by first | assumption | exact Below.refl _ _)⟩
  ·have hd : decide (hi ≤ 1099511627776) = false := decide_eq_false (by omega)
   have h2' : lo ≥ -1099511627776 := h2
   clear h
   go_enter Tryz.func97, Tryz.ntmps97
   go_wp2_with (first
    | (go_at_call 101; (with_reducible refine hw0.mono ?_); rintro e w' ⟨rfl, rfl⟩; clear hw0)
    | (go_at_call 101; (with_reducible refine (within_no _ _ _ _ hn).mono ?_); rintro e w' ⟨rfl, rfl⟩)
    | (go_at_call 108; (with_reducible refine (unbounded_yes _ _ _ _).mono ?_); rintro e w1 ⟨rfl, hb1⟩; have hk1 := HS.out w1 hb1)
    | (go_at_call 108; (with_reducible refine (unbounded_no _ _ _ _ _ hn _).mono ?_); rintro e w1 ⟨rfl, hb1⟩; have hk1 := HS.out w1 hb1))
   go_ret
   exact ⟨rfl, HB.out _ (by first | assumption | exact Below.refl _ _)⟩
  ·have hd : (m == 0) = false := by rw [beq_eq_false_iff_ne]; exact h
   have h2' : lo ≥ -1099511627776 := h2
   clear h
   go_enter Tryz.func97, Tryz.ntmps97
   go_wp2_with (first
    | (go_at_call 101; (with_reducible refine hw0.mono ?_); rintro e w' ⟨rfl, rfl⟩; clear hw0)
    | (go_at_call 101; (with_reducible refine (within_no _ _ _ _ hn).mono ?_); rintro e w' ⟨rfl, rfl⟩)
    | (go_at_call 108; (with_reducible refine (unbounded_yes _ _ _ _).mono ?_); rintro e w1 ⟨rfl, hb1⟩; have hk1 := HS.out w1 hb1)
    | (go_at_call 108; (with_reducible refine (unbounded_no _ _ _ _ _ hn _).mono ?_); rintro e w1 ⟨rfl, hb1⟩; have hk1 := HS.out w1 hb1))
   go_ret
   exact ⟨rfl, HB.out _ (by first | assumption | exact Below.refl _ _)⟩
 ·rcases h with hn | ⟨⟨rfl, rfl⟩, h⟩
  ·go_enter Tryz.func97, Tryz.ntmps97
   go_wp2_with (first
    | (go_at_call 101; (with_reducible refine hw0.mono ?_); rintro e w' ⟨rfl, rfl⟩; clear hw0)
    | (go_at_call 101; (with_reducible refine (within_no _ _ _ _ hn).mono ?_); rintro e w' ⟨rfl, rfl⟩)
    | (go_at_call 108; (with_reducible refine (unbounded_yes _ _ _ _).mono ?_); rintro e w1 ⟨rfl, hb1⟩; have hk1 := HS.out w1 hb1)
    | (go_at_call 108; (with_reducible refine (unbounded_no _ _ _ _ _ hn _).mono ?_); rintro e w1 ⟨rfl, hb1⟩; have hk1 := HS.out w1 hb1))
   go_ret
   exact ⟨rfl, HB.out _ (by first | assumption | exact Below.refl _ _)⟩
  ·have hd : (m == 0) = false := by rw [beq_eq_false_iff_ne]; exact h
   clear h
   go_enter Tryz.func97, Tryz.ntmps97
   go_wp2_with (first
    | (go_at_call 101; (with_reducible refine hw0.mono ?_); rintro e w' ⟨rfl, rfl⟩; clear hw0)
    | (go_at_call 101; (with_reducible refine (within_no _ _ _ _ hn).mono ?_); rintro e w' ⟨rfl, rfl⟩)
    | (go_at_call 108; (with_reducible refine (unbounded_yes _ _ _ _).mono ?_); rintro e w1 ⟨rfl, hb1⟩; have hk1 := HS.out w1 hb1)
    | (go_at_call 108; (with_reducible refine (unbounded_no _ _ _ _ _ hn _).mono ?_); rintro e w1 ⟨rfl, hb1⟩; have hk1 := HS.out w1 hb1))
   go_ret
   exact ⟨rfl, HB.out _ (by first | assumption | exact Below.refl _ _)⟩
 ·rcases h with hn | ⟨⟨rfl, rfl⟩, hn⟩
  ·go_enter Tryz.func97, Tryz.ntmps97
   go_wp2_with (first
    | (go_at_call 101; (with_reducible refine hw0.mono ?_); rintro e w' ⟨rfl, rfl⟩; clear hw0)
    | (go_at_call 101; (with_reducible refine (within_no _ _ _ _ hn).mono ?_); rintro e w' ⟨rfl, rfl⟩)
    | (go_at_call 108; (with_reducible refine (unbounded_yes _ _ _ _).mono ?_); rintro e w1 ⟨rfl, hb1⟩; have hk1 := HS.out w1 hb1)
    | (go_at_call 108; (with_reducible refine (unbounded_no _ _ _ _ _ hn _).mono ?_); rintro e w1 ⟨rfl, hb1⟩; have hk1 := HS.out w1 hb1))
   go_ret
   exact ⟨rfl, HB.out _ (by first | assumption | exact Below.refl _ _)⟩
  ·go_enter Tryz.func97, Tryz.ntmps97
   go_wp2_with (first
    | (go_at_call 101; (with_reducible refine hw0.mono ?_); rintro e w' ⟨rfl, rfl⟩; clear hw0)
    | (go_at_call 101; (with_reducible refine (within_no _ _ _ _ hn).mono ?_); rintro e w' ⟨rfl, rfl⟩)
    | (go_at_call 108; (with_reducible refine (unbounded_yes _ _ _ _).mono ?_); rintro e w1 ⟨rfl, hb1⟩; have hk1 := HS.out w1 hb1)
    | (go_at_call 108; (with_reducible refine (unbounded_no _ _ _ _ _ hn _).mono ?_); rintro e w1 ⟨rfl, hb1⟩; have hk1 := HS.out w1 hb1))
   go_ret
   exact ⟨rfl, HB.out _ (by first | assumption | exact Below.refl _ _)⟩
 ·rcases h with hn | ⟨⟨rfl, rfl⟩, hn⟩
  ·go_enter Tryz.func97, Tryz.ntmps97
   go_wp2_with (first
    | (go_at_call 101; (with_reducible refine hw0.mono ?_); rintro e w' ⟨rfl, rfl⟩; clear hw0)
    | (go_at_call 101; (with_reducible refine (within_no _ _ _ _ hn).mono ?_); rintro e w' ⟨rfl, rfl⟩)
    | (go_at_call 108; (with_reducible refine (unbounded_yes _ _ _ _).mono ?_); rintro e w1 ⟨rfl, hb1⟩; have hk1 := HS.out w1 hb1)
    | (go_at_call 108; (with_reducible refine (unbounded_no _ _ _ _ _ hn _).mono ?_); rintro e w1 ⟨rfl, hb1⟩; have hk1 := HS.out w1 hb1))
   go_ret
   exact ⟨rfl, HB.out _ (by first | assumption | exact Below.refl _ _)⟩
  ·go_enter Tryz.func97, Tryz.ntmps97
   go_wp2_with (first
    | (go_at_call 101; (with_reducible refine hw0.mono ?_); rintro e w' ⟨rfl, rfl⟩; clear hw0)
    | (go_at_call 101; (with_reducible refine (within_no _ _ _ _ hn).mono ?_); rintro e w' ⟨rfl, rfl⟩)
    | (go_at_call 108; (with_reducible refine (unbounded_yes _ _ _ _).mono ?_); rintro e w1 ⟨rfl, hb1⟩; have hk1 := HS.out w1 hb1)
    | (go_at_call 108; (with_reducible refine (unbounded_no _ _ _ _ _ hn _).mono ?_); rintro e w1 ⟨rfl, hb1⟩; have hk1 := HS.out w1 hb1))
   go_ret
   exact ⟨rfl, HB.out _ (by first | assumption | exact Below.refl _ _)⟩
 ·have e1 : (k == 1) = false := by rw [beq_eq_false_iff_ne]; exact n1
  have e2 : (k == 2) = false := by rw [beq_eq_false_iff_ne]; exact n2
  have e3 : (k == 3) = false := by rw [beq_eq_false_iff_ne]; exact n3
  have e4 : (k == 4) = false := by rw [beq_eq_false_iff_ne]; exact n4
  clear n1 n2 n3 n4
  go_enter Tryz.func97, Tryz.ntmps97
  go_wp2_with (first
   | (go_at_call 101; (with_reducible refine hw0.mono ?_); rintro e w' ⟨rfl, rfl⟩; clear hw0)
   | (go_at_call 101; (with_reducible refine (within_no _ _ _ _ hn).mono ?_); rintro e w' ⟨rfl, rfl⟩)
   | (go_at_call 108; (with_reducible refine (unbounded_yes _ _ _ _).mono ?_); rintro e w1 ⟨rfl, hb1⟩; have hk1 := HS.out w1 hb1)
   | (go_at_call 108; (with_reducible refine (unbounded_no _ _ _ _ _ hn _).mono ?_); rintro e w1 ⟨rfl, hb1⟩; have hk1 := HS.out w1 hb1))
  go_ret
  exact ⟨rfl, HB.out _ (by first | assumption | exact Below.refl _ _)⟩
theorem right_any (f : Fd) (w : World) : Calls Tryz.prog 97 #[zF f] w (Gives (.bool (decide f.Right)) w) := by
 by_cases h : f.Right
 ·rw [decide_eq_true h]; exact right_yes f h w
 ·rw [decide_eq_false h]; exact right_no f h w
end Go.Proofs.YtaciegkblklokaaGreat.field
namespace Go.Proofs.YtaciegkblklokaaGreat.field
open Go.RowKit
theorem dec_no {p : Prop} [Decidable p] (h : ¬ p) : decide p = false := decide_eq_false h
theorem wrap_u8 {x : Int} {n : Nat} (h : x = (n : Int)) (hn : n < 256) : IntKind.u8.wrap x = (n : Int) := by subst h; simp [IntKind.wrap, IntKind.bits, IntKind.signed]; omega
theorem len_sum {q : Nat} (a : Int) (h0 : 0 ≤ a) (ha : a ≤ 40) (hq : q ≤ 8) : wrap64 (a + wrap64 (q : Int)) = a + (q : Int) := by
 rw [IntWalk.wrap64_in (q : Int) (by omega), IntWalk.wrap64_in _ (by omega)]
theorem len_one {q : Nat} (hq : q ≤ 8) : wrap64 (wrap64 (q : Int)) = (q : Int) := by
 rw [IntWalk.wrap64_in (q : Int) (by omega), IntWalk.wrap64_in _ (by omega)]
set_option maxRecDepth 1000000 in
set_option maxHeartbeats 4000000 in
theorem len64_any (x : Nat) (hx : x < 281474976710656) (w : World) :
  Calls Tryz.prog 114 #[.int .u64 (x : Int)] w fun e w' => ∃ L : Nat, e = .returned (.int .i64 (L : Int)) ∧ L ≤ 64 ∧ (L + 7) / 8 = wide x ∧ ∃ n, w' = w.drewN n := by
 go_enter Tryz.func114, Tryz.ntmps114
 generalize hT : ByteArray.mk _ = T
 have hs : T.size = 256 := by rw [← hT]; decide +kernel
 have ht0 : ∀ i : Fin 256, (T.data.getD i.val 0).toNat ≤ 8 ∧ ((T.data.getD i.val 0).toNat = 0 ↔ i.val = 0) := by rw [← hT]; decide +kernel
 have ht : ∀ (i : Nat) (h : i < T.size), i < 256 → (T[i]'h).toNat ≤ 8 ∧ ((T[i]'h).toNat = 0 ↔ i = 0) := fun i h hi => by
  have := ht0 ⟨i, hi⟩
  have h' : i < T.data.size := h
  simp only [Array.getD, h', dif_pos] at this
  exact this
 have HT := hid ht
 have HS := hid hs
 have hT1 : ∀ i : Nat, i < 256 → (i : Int) < T.size := fun i hi => by rw [hs]; omega
 have HT1 := hid hT1
 have HX := hid hx
 clear hT hs ht ht0 hT1 hx
 by_cases c0 : x < 256
 ·have hw : wide x = if x = 0 then 0 else 1 := by unfold wide; rw [if_pos c0]
  have HW := hid hw
  obtain ⟨y, hy⟩ : ∃ y, Hid (x / 1 = y) := ⟨_, rfl⟩
  have hy256 : y < 256 := by have := hy.out; have := HX.out; omega
  have j0 : (0 : Int) ≤ (y : Int) := by omega
  have j1 := HT1.out y hy256
  have t4294967296 : ¬ (x : Int) ≥ 4294967296 := by have := HX.out; omega
  have u4294967296 := dec_no t4294967296
  have t65536 : ¬ (x : Int) ≥ 65536 := by have := HX.out; omega
  have u65536 := dec_no t65536
  have t256 : ¬ (x : Int) ≥ 256 := by have := HX.out; omega
  have u256 := dec_no t256
  have hwr : IntKind.u8.wrap ((x : Int)) = (y : Int) := wrap_u8 (by have := hy.out; omega) hy256
  clear hw
  clear c0
  go_wp2
  go_ret
  have b := HT.out y (by have := HS.out; omega) hy256
  refine ⟨0 + (T[y]'(by have := HS.out; omega)).toNat, ret_int ((len_one b.1).trans (by omega)), by omega, ?_, 0, rfl⟩
  rw [HW.out]
  have := hy.out
  split <;> omega
 by_cases c1 : x < 65536
 ·have hw : wide x = 2 := by have := HX.out; unfold wide; rw [if_neg (by omega)]; rw [if_neg (by omega)]; rw [if_pos (by omega)]
  have HW := hid hw
  obtain ⟨y, hy⟩ : ∃ y, Hid (x / 256 = y) := ⟨_, rfl⟩
  have hy256 : y < 256 := by have := hy.out; have := HX.out; omega
  have j0 : (0 : Int) ≤ (y : Int) := by omega
  have j1 := HT1.out y hy256
  have t4294967296 : ¬ (x : Int) ≥ 4294967296 := by have := HX.out; omega
  have u4294967296 := dec_no t4294967296
  have t65536 : ¬ (x : Int) ≥ 65536 := by have := HX.out; omega
  have u65536 := dec_no t65536
  have t256 : (x : Int) ≥ 256 := by have := HX.out; omega
  have hwr : IntKind.u8.wrap ((x : Int) / 256) = (y : Int) := wrap_u8 (by have := hy.out; omega) hy256
  clear hw
  clear c0 c1
  go_wp2
  go_ret
  have b := HT.out y (by have := HS.out; omega) hy256
  refine ⟨8 + (T[y]'(by have := HS.out; omega)).toNat, ret_int ((len_sum 8 (by omega) (by omega) b.1).trans (by omega)), by omega, ?_, 0, rfl⟩
  rw [HW.out]
  have := hy.out
  omega
 by_cases c2 : x < 16777216
 ·have hw : wide x = 3 := by have := HX.out; unfold wide; rw [if_neg (by omega)]; rw [if_neg (by omega)]; rw [if_neg (by omega)]; rw [if_pos (by omega)]
  have HW := hid hw
  obtain ⟨y, hy⟩ : ∃ y, Hid (x / 65536 = y) := ⟨_, rfl⟩
  have hy256 : y < 256 := by have := hy.out; have := HX.out; omega
  have j0 : (0 : Int) ≤ (y : Int) := by omega
  have j1 := HT1.out y hy256
  have t4294967296 : ¬ (x : Int) ≥ 4294967296 := by have := HX.out; omega
  have u4294967296 := dec_no t4294967296
  have t65536 : (x : Int) ≥ 65536 := by have := HX.out; omega
  have t256 : ¬ (x : Int) / 65536 ≥ 256 := by have := HX.out; omega
  have u256 := dec_no t256
  have hwr : IntKind.u8.wrap ((x : Int) / 65536) = (y : Int) := wrap_u8 (by have := hy.out; omega) hy256
  clear hw
  clear c0 c1 c2
  go_wp2
  go_ret
  have b := HT.out y (by have := HS.out; omega) hy256
  refine ⟨16 + (T[y]'(by have := HS.out; omega)).toNat, ret_int ((len_sum 16 (by omega) (by omega) b.1).trans (by omega)), by omega, ?_, 0, rfl⟩
  rw [HW.out]
  have := hy.out
  omega
 by_cases c3 : x < 4294967296
 ·have hw : wide x = 4 := by have := HX.out; unfold wide; rw [if_neg (by omega)]; rw [if_neg (by omega)]; rw [if_neg (by omega)]; rw [if_neg (by omega)]; rw [if_pos (by omega)]
  have HW := hid hw
  obtain ⟨y, hy⟩ : ∃ y, Hid (x / 16777216 = y) := ⟨_, rfl⟩
  have hy256 : y < 256 := by have := hy.out; have := HX.out; omega
  have j0 : (0 : Int) ≤ (y : Int) := by omega
  have j1 := HT1.out y hy256
  have t4294967296 : ¬ (x : Int) ≥ 4294967296 := by have := HX.out; omega
  have u4294967296 := dec_no t4294967296
  have t65536 : (x : Int) ≥ 65536 := by have := HX.out; omega
  have t256 : (x : Int) / 65536 ≥ 256 := by have := HX.out; omega
  have hwr : IntKind.u8.wrap ((x : Int) / 65536 / 256) = (y : Int) := wrap_u8 (by have := hy.out; omega) hy256
  clear hw
  clear c0 c1 c2 c3
  go_wp2
  go_ret
  have b := HT.out y (by have := HS.out; omega) hy256
  refine ⟨24 + (T[y]'(by have := HS.out; omega)).toNat, ret_int ((len_sum 24 (by omega) (by omega) b.1).trans (by omega)), by omega, ?_, 0, rfl⟩
  rw [HW.out]
  have := hy.out
  omega
 by_cases c4 : x < 1099511627776
 ·have hw : wide x = 5 := by have := HX.out; unfold wide; rw [if_neg (by omega)]; rw [if_neg (by omega)]; rw [if_neg (by omega)]; rw [if_neg (by omega)]; rw [if_neg (by omega)]; rw [if_pos (by omega)]
  have HW := hid hw
  obtain ⟨y, hy⟩ : ∃ y, Hid (x / 4294967296 = y) := ⟨_, rfl⟩
  have hy256 : y < 256 := by have := hy.out; have := HX.out; omega
  have j0 : (0 : Int) ≤ (y : Int) := by omega
  have j1 := HT1.out y hy256
  have t4294967296 : (x : Int) ≥ 4294967296 := by have := HX.out; omega
  have t65536 : ¬ (x : Int) / 4294967296 ≥ 65536 := by have := HX.out; omega
  have u65536 := dec_no t65536
  have t256 : ¬ (x : Int) / 4294967296 ≥ 256 := by have := HX.out; omega
  have u256 := dec_no t256
  have hwr : IntKind.u8.wrap ((x : Int) / 4294967296) = (y : Int) := wrap_u8 (by have := hy.out; omega) hy256
  clear hw
  clear c0 c1 c2 c3 c4
  go_wp2
  go_ret
  have b := HT.out y (by have := HS.out; omega) hy256
  refine ⟨32 + (T[y]'(by have := HS.out; omega)).toNat, ret_int ((len_sum 32 (by omega) (by omega) b.1).trans (by omega)), by omega, ?_, 0, rfl⟩
  rw [HW.out]
  have := hy.out
  omega
 have hw : wide x = 6 := by have := HX.out; unfold wide; rw [if_neg (by omega)]; rw [if_neg (by omega)]; rw [if_neg (by omega)]; rw [if_neg (by omega)]; rw [if_neg (by omega)]; rw [if_neg (by omega)]
 have HW := hid hw
 obtain ⟨y, hy⟩ : ∃ y, Hid (x / 1099511627776 = y) := ⟨_, rfl⟩
 have hy256 : y < 256 := by have := hy.out; have := HX.out; omega
 have j0 : (0 : Int) ≤ (y : Int) := by omega
 have j1 := HT1.out y hy256
 have t4294967296 : (x : Int) ≥ 4294967296 := by have := HX.out; omega
 have t65536 : ¬ (x : Int) / 4294967296 ≥ 65536 := by have := HX.out; omega
 have u65536 := dec_no t65536
 have t256 : (x : Int) / 4294967296 ≥ 256 := by have := HX.out; omega
 have hwr : IntKind.u8.wrap ((x : Int) / 4294967296 / 256) = (y : Int) := wrap_u8 (by have := hy.out; omega) hy256
 clear hw
 clear c0 c1 c2 c3 c4
 go_wp2
 go_ret
 have b := HT.out y (by have := HS.out; omega) hy256
 refine ⟨40 + (T[y]'(by have := HS.out; omega)).toNat, ret_int ((len_sum 40 (by omega) (by omega) b.1).trans (by omega)), by omega, ?_, 0, rfl⟩
 rw [HW.out]
 have := hy.out
 omega
theorem len_any (x : Nat) (hx : x < 281474976710656) (w : World) :
  Calls Tryz.prog 109 #[.int .u64 (x : Int)] w fun e w' => ∃ L : Nat, e = .returned (.int .i64 (L : Int)) ∧ L ≤ 64 ∧ (L + 7) / 8 = wide x ∧ ∃ n, w' = w.drewN n := by
 have cl := len64_any x hx
 have HX := hid hx
 clear hx
 go_enter Tryz.func109, Tryz.ntmps109
 go_wp2_with (go_at_call 114; (with_reducible refine (cl _).mono ?_); rintro e w' ⟨L, rfl, h1, h2, m, rfl⟩)
 go_ret
 exact ⟨L, rfl, h1, h2, m, rfl⟩
end Go.Proofs.YtaciegkblklokaaGreat.field
namespace Go.Proofs.YtaciegkblklokaaGreat.field
open Go.RowKit
theorem kinds {f : Fd} (h : f.Right) : f.kind = 1 ∨ f.kind = 2 ∨ f.kind = 3 ∨ f.kind = 4 := by unfold Fd.Right at h; omega
theorem greatest_any (f : Fd) (h : f.Right) (w : World) : Calls Tryz.prog 102 #[zF f] w (Gives (.int .i64 f.great) w) := by
 have hk := kinds h
 have hs := h.span
 obtain ⟨i, k, lo, hi, m⟩ := f
 simp only at hk ⊢
 have hm : k = 3 → 1 ≤ m ∧ m ≤ 1000 := by intro h3; unfold Fd.Right at h; simp only at h; omega
 clear h hs
 unfold Gives
 rcases hk with rfl | rfl | rfl | rfl
 ·rw [show Fd.great ⟨i, 1, lo, hi, m⟩ = hi from rfl]
  clear hm
  go_enter Tryz.func102, Tryz.ntmps102
  go_wp2
  go_ret
  exact ⟨rfl, newB _ _⟩
 ·rw [show Fd.great ⟨i, 2, lo, hi, m⟩ = 1 from rfl]
  clear hm
  go_enter Tryz.func102, Tryz.ntmps102
  go_wp2
  go_ret
  exact ⟨rfl, newB _ _⟩
 ·rw [show Fd.great ⟨i, 3, lo, hi, m⟩ = m - 1 from rfl]
  obtain ⟨m1, m2⟩ := hm rfl
  clear hm
  go_enter Tryz.func102, Tryz.ntmps102
  go_wp2
  go_ret
  exact ⟨rfl, newB _ _⟩
 ·rw [show Fd.great ⟨i, 4, lo, hi, m⟩ = 0 from rfl]
  clear hm
  go_enter Tryz.func102, Tryz.ntmps102
  go_wp2
  go_ret
  exact ⟨rfl, newB _ _⟩
theorem gives_from {P : Program} {F : FuncId} {args : Array Value} {v : Value} {w0 w : World} (h : Calls P F args w (Gives v w)) (hb : Below w0.heap.size w0 w) : Calls P F args w fun e w' => e = .returned v ∧ Below w0.heap.size w0 w' :=
 h.mono fun _ _ ⟨he, hw⟩ => ⟨he, hb.trans (hw.mono hb.size)⟩
theorem top_any (f : Fd) (h : f.Right) (w : World) : Calls Tryz.prog 110 #[zF f] w (Gives (.int .i64 (f.great - f.lo)) w) := by
 have HS := hid (five f w)
 have HB := hid (belowF f w)
 have hs := h.span
 have s1 := hs.1
 have s2 := hs.2.1
 have hb0 : Below (w.alloc (.cells (zF f) 26)).heap.size (w.alloc (.cells (zF f) 26)) (w.alloc (.cells (zF f) 26)).drew := below_drewN (Below.refl _ _) 1
 have cg := gives_from (greatest_any f h (w.alloc (.cells (zF f) 26)).drew) hb0
 have hk0 := HS.out _ hb0
 clear h hs
 unfold Gives
 generalize f.great = G at *
 go_enter Tryz.func110, Tryz.ntmps110
 go_wp2
 go_region_held3 (fun w' => (w'.cell? ⟨w.heap.size, 0, none⟩ = some (.int .i64 f.id) ∧ w'.cell? ⟨w.heap.size, 1, none⟩ = some (.int .i64 f.kind) ∧ w'.cell? ⟨w.heap.size, 2, none⟩ = some (.int .i64 f.lo) ∧ w'.cell? ⟨w.heap.size, 3, none⟩ = some (.int .i64 f.hi) ∧ w'.cell? ⟨w.heap.size, 4, none⟩ = some (.int .i64 f.most))) (first | assumption | go_keep) ((go_at_call 102; (with_reducible refine cg.mono ?_); rintro e w2 ⟨rfl, hb2⟩; have hk2 := HS.out w2 hb2))
 go_wp2
 go_ret
 exact ⟨ret_int (IntWalk.i64_in _ (by omega)), HB.out _ hb2⟩
end Go.Proofs.YtaciegkblklokaaGreat.field
