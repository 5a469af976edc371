/- Lemmas of the claim HTypingRight. Each says its own conditions. -/
import Derived.Test.YtiajpjkkopdmgaaClHTypingRightF
import Derived.Test.YtiajpjkkopdmgaaClHTypingRightE
import Derived.IntWalk
import Derived.Handy
import Derived.Test.YtiajpjkkopdmgaaClHTypingRightC
/- Steps by plain values: which members an operation uses, when a step is right, what steps are as bytes, how bytes are read. No condition. -/
namespace Go.Proofs.Ytiajpjkkopdmgaa.step
open Go.RowKit Go.Proofs.Ytiajpjkkopdmgaa.pen
open Go.Proofs.Ytiajpjkkopdmgaa.schema (take_succ_at)
open Go.Proofs.Ytiajpjkkopdmgaa.field (bytesOf)
set_option linter.unusedVariables false

instance : DecidableEq Sp := fun x y =>
  if h : x.op = y.op ∧ x.fm = y.fm ∧ x.fd = y.fd ∧ x.pl = y.pl ∧ x.tt = y.tt ∧ x.a = y.a ∧ x.b = y.b ∧ x.f = y.f ∧ x.v = y.v ∧ x.t = y.t ∧ x.l = y.l then isTrue (by
    cases x; cases y; simp only at h
    obtain ⟨rfl, rfl, rfl, rfl, rfl, rfl, rfl, rfl, rfl, rfl, rfl⟩ := h; rfl) else isFalse (by rintro rfl; simp at h)
abbrev fd0 : field.Fd := ⟨0, 0, 0, 0, 0⟩
abbrev va0 : field.Va := ⟨0, ⟨#[]⟩⟩
abbrev Sp.zero : Sp := ⟨0, 0, 0, 0, 0, 0, 0, fd0, va0, [], []⟩
/-- the members that an operation uses -/
def mem (op : Int) : List Nat :=
  if op = 1 ∨ op = 22 then [0, 2, 9] else if op = 2 then [0, 1, 10] else if op = 3 ∨ op = 23 then [0, 1, 8] else if op = 4 then [0, 1, 5] else if op = 24 then [0, 1, 5, 8]
  else if op = 5 then [0, 1, 6] else if op = 25 then [0, 1, 7] else if op = 6 then [0, 1, 4, 3] else if op = 26 then [0, 1, 4, 3, 8] else if op = 7 ∨ op = 27 then [0, 1, 2]
  else if op = 8 ∨ op = 28 then [0, 1, 3] else if op = 9 ∨ op = 30 then [0, 11] else if op = 10 ∨ op = 29 then [0] else if op = 21 then [0, 1] else []
/-- the same by the reference's letters -/
def uses (op : Int) : List UInt8 :=
  if op = 1 ∨ op = 22 then [102, 112, 70, 86] else if op = 2 then [102, 100, 86] else if op = 3 ∨ op = 23 then [102, 100, 70] else if op = 4 then [102, 100, 98] else if op = 24 then [102, 100, 98, 70]
  else if op = 5 then [102, 100, 97, 84] else if op = 25 then [102, 100, 84] else if op = 6 then [102, 100, 97, 116] else if op = 26 then [102, 100, 97, 116, 70] else if op = 7 ∨ op = 27 then [102, 100, 112]
  else if op = 8 ∨ op = 28 then [102, 100, 116] else if op = 9 ∨ op = 30 then [102, 76] else if op = 10 ∨ op = 29 then [102] else if op = 21 then [102, 100] else []
/-- a member's letters -/
def lets (m : Nat) : List UInt8 :=
  if m = 0 then [102] else if m = 1 then [100] else if m = 2 then [112] else if m = 3 then [116] else if m = 4 then [97] else if m = 5 then [98] else if m = 6 then [97, 84] else if m = 7 then [84]
  else if m = 8 then [70] else if m = 9 then [70, 86] else if m = 10 then [86] else [76]
/-- the operations, one by one -/
theorem ops (op : Int) : (op = 1 ∨ op = 22 ∨ op = 2 ∨ op = 3 ∨ op = 23 ∨ op = 4 ∨ op = 24 ∨ op = 5 ∨ op = 25 ∨ op = 6 ∨ op = 26 ∨ op = 7 ∨ op = 27 ∨ op = 8 ∨ op = 28 ∨ op = 9 ∨ op = 30 ∨ op = 10 ∨ op = 29 ∨ op = 21) ∨
    (¬ op = 1 ∧ ¬ op = 22 ∧ ¬ op = 2 ∧ ¬ op = 3 ∧ ¬ op = 23 ∧ ¬ op = 4 ∧ ¬ op = 24 ∧ ¬ op = 5 ∧ ¬ op = 25 ∧ ¬ op = 6 ∧ ¬ op = 26 ∧ ¬ op = 7 ∧ ¬ op = 27 ∧ ¬ op = 8 ∧ ¬ op = 28 ∧ ¬ op = 9 ∧ ¬ op = 30 ∧ ¬ op = 10 ∧ ¬ op = 29 ∧ ¬ op = 21) := by omega
theorem mem_none {op : Int} (h : ¬ op = 1 ∧ ¬ op = 22 ∧ ¬ op = 2 ∧ ¬ op = 3 ∧ ¬ op = 23 ∧ ¬ op = 4 ∧ ¬ op = 24 ∧ ¬ op = 5 ∧ ¬ op = 25 ∧ ¬ op = 6 ∧ ¬ op = 26 ∧ ¬ op = 7 ∧ ¬ op = 27 ∧ ¬ op = 8 ∧ ¬ op = 28 ∧ ¬ op = 9 ∧ ¬ op = 30 ∧ ¬ op = 10 ∧ ¬ op = 29 ∧ ¬ op = 21) : mem op = [] ∧ uses op = [] := by
  unfold mem uses
  simp [h]
/-- what holds of each operation holds of all -/
theorem all_ops {Q : Int → Prop} (h1 : Q 1) (h22 : Q 22) (h2 : Q 2) (h3 : Q 3) (h23 : Q 23) (h4 : Q 4) (h24 : Q 24) (h5 : Q 5) (h25 : Q 25) (h6 : Q 6) (h26 : Q 26) (h7 : Q 7) (h27 : Q 27) (h8 : Q 8) (h28 : Q 28) (h9 : Q 9) (h30 : Q 30) (h10 : Q 10) (h29 : Q 29) (h21 : Q 21)
    (h0 : ∀ op, mem op = [] → uses op = [] → Q op) (op : Int) : Q op := by
  rcases ops op with h | h
  · rcases h with rfl | rfl | rfl | rfl | rfl | rfl | rfl | rfl | rfl | rfl | rfl | rfl | rfl | rfl | rfl | rfl | rfl | rfl | rfl | rfl <;> assumption
  · exact h0 op (mem_none h).1 (mem_none h).2
theorem uses_mem (op : Int) : uses op = ((mem op).map lets).flatten := by
  refine all_ops (Q := fun op => uses op = ((mem op).map lets).flatten) ?_ ?_ ?_ ?_ ?_ ?_ ?_ ?_ ?_ ?_ ?_ ?_ ?_ ?_ ?_ ?_ ?_ ?_ ?_ ?_ ?h0 op
  case h0 => intro op h1 h2; rw [h1, h2]; rfl
  all_goals rfl
theorem mem_lt (op : Int) : ∀ m ∈ mem op, m < 12 := by
  refine all_ops (Q := fun op => ∀ m ∈ mem op, m < 12) ?_ ?_ ?_ ?_ ?_ ?_ ?_ ?_ ?_ ?_ ?_ ?_ ?_ ?_ ?_ ?_ ?_ ?_ ?_ ?_ ?h0 op
  case h0 => intro op h1 h2; rw [h1]; simp
  all_goals decide
theorem mem_span {op : Int} (h : mem op ≠ []) : 1 ≤ op ∧ op ≤ 30 := by
  rcases ops op with h1 | h1
  · omega
  · exact absurd (mem_none h1).1 h
theorem mem_len (op : Int) : (mem op).length ≤ 5 := by
  refine all_ops (Q := fun op => (mem op).length ≤ 5) ?_ ?_ ?_ ?_ ?_ ?_ ?_ ?_ ?_ ?_ ?_ ?_ ?_ ?_ ?_ ?_ ?_ ?_ ?_ ?_ ?h0 op
  case h0 => intro op h1 h2; rw [h1]; simp
  all_goals decide
theorem uses_len (op : Int) : (uses op).length ≤ 5 := by
  refine all_ops (Q := fun op => (uses op).length ≤ 5) ?_ ?_ ?_ ?_ ?_ ?_ ?_ ?_ ?_ ?_ ?_ ?_ ?_ ?_ ?_ ?_ ?_ ?_ ?_ ?_ ?h0 op
  case h0 => intro op h1 h2; rw [h2]; simp
  all_goals decide
theorem uses_nil (op : Int) : uses op = [] ↔ mem op = [] := by
  refine all_ops (Q := fun op => uses op = [] ↔ mem op = []) ?_ ?_ ?_ ?_ ?_ ?_ ?_ ?_ ?_ ?_ ?_ ?_ ?_ ?_ ?_ ?_ ?_ ?_ ?_ ?_ ?h0 op
  case h0 => intro op h1 h2; rw [h1, h2]; exact ⟨fun _ => rfl, fun _ => rfl⟩
  all_goals decide
/-- the ten letters -/
def Letter (c : UInt8) : Prop := c = 102 ∨ c = 100 ∨ c = 112 ∨ c = 116 ∨ c = 97 ∨ c = 98 ∨ c = 70 ∨ c = 86 ∨ c = 84 ∨ c = 76
instance (c : UInt8) : Decidable (Letter c) := by unfold Letter; infer_instance
theorem uses_letter (op : Int) : ∀ c ∈ uses op, Letter c := by
  refine all_ops (Q := fun op => ∀ c ∈ uses op, Letter c) ?_ ?_ ?_ ?_ ?_ ?_ ?_ ?_ ?_ ?_ ?_ ?_ ?_ ?_ ?_ ?_ ?_ ?_ ?_ ?_ ?h0 op
  case h0 => intro op h1 h2; rw [h2]; simp
  all_goals decide

/-! right -/
def Table (t : List Int) (lim : Int) : Prop := (1 ≤ t.length ∧ t.length ≤ 64) ∧ (∀ n ∈ t, 0 ≤ n ∧ n ≤ lim - 1) ∧ t.Nodup
instance (t : List Int) (lim : Int) : Decidable (Table t lim) := by unfold Table; infer_instance
/-- a member that is used is as it must be -/
def Sp.Fine (s : Sp) (m : Nat) : Prop :=
  if m = 0 then 0 ≤ s.fm ∧ s.fm ≤ 200 else if m = 1 then 0 ≤ s.fd ∧ s.fd ≤ 255 else if m = 2 then 0 ≤ s.pl ∧ s.pl ≤ 8 else if m = 3 then (0 ≤ s.tt ∧ s.tt ≤ 255) ∧ s.tt ≠ s.fd
  else if m = 4 then 2 ≤ s.a ∧ s.a ≤ 1048576 else if m = 5 then ((-1048576 ≤ s.a ∧ s.a ≤ 1048576) ∧ s.a ≠ 0) ∧ (-1099511627776 ≤ s.b ∧ s.b ≤ 1099511627776)
  else if m = 6 then (1 ≤ s.a ∧ s.a ≤ 1000) ∧ Table s.t s.a else if m = 7 then Table s.t 1000 else if m = 8 then s.f.Right ∧ s.f.id = s.fd else if m = 9 then s.f.Has s.v
  else if m = 10 then (-1099511627776 ≤ s.v.n ∧ s.v.n ≤ 1099511627776) ∧ s.v.s.size ≤ 32 else schema.Fine (s.fm, s.l)
instance (s : Sp) (m : Nat) : Decidable (s.Fine m) := by unfold Sp.Fine; infer_instance
/-- a member is set to zero -/
def Sp.clear (s : Sp) (m : Nat) : Sp :=
  if m = 0 then { s with fm := 0 } else if m = 1 then { s with fd := 0 } else if m = 2 then { s with pl := 0 } else if m = 3 then { s with tt := 0 } else if m = 4 then { s with a := 0 }
  else if m = 5 then { s with a := 0, b := 0 } else if m = 6 then { s with a := 0, t := [] } else if m = 7 then { s with t := [] } else if m = 8 then { s with f := fd0 } else if m = 9 then { s with f := fd0, v := va0 }
  else if m = 10 then { s with v := va0 } else { s with l := [] }
def Sp.bare (s : Sp) (k : Nat) : Sp := ((mem s.op).take k).foldl Sp.clear { s with op := 0 }
def Sp.Right (s : Sp) : Prop := (∀ m ∈ mem s.op, s.Fine m) ∧ mem s.op ≠ [] ∧ (mem s.op).foldl Sp.clear { s with op := 0 } = Sp.zero
instance (s : Sp) : Decidable s.Right := by unfold Sp.Right; infer_instance
def Rights (L : List Sp) : Prop := ∀ s ∈ L, s.Right
instance (L : List Sp) : Decidable (Rights L) := by unfold Rights; infer_instance

/-! bytes -/
def fieldA (f : field.Fd) : List Nat := vb f.id.toNat ++ vb f.kind.toNat ++ vb (zig f.lo) ++ vb (zig f.hi) ++ vb f.most.toNat
def fieldsA (L : List field.Fd) : List Nat := (L.map fieldA).flatten
def numsA (L : List Int) : List Nat := (L.map fun n => vb n.toNat).flatten
def Sp.letB (s : Sp) (c : UInt8) : List Nat :=
  if c = 102 then vb s.fm.toNat else if c = 100 then vb s.fd.toNat else if c = 112 then vb s.pl.toNat else if c = 116 then vb s.tt.toNat else if c = 97 then vb s.a.toNat
  else if c = 98 then vb (zig s.a) ++ vb (zig s.b) else if c = 70 then fieldA s.f else if c = 86 then vb (zig s.v.n) ++ (vb s.v.s.size ++ bytesOf s.v.s)
  else if c = 84 then vb s.t.length ++ numsA s.t else vb s.l.length ++ fieldsA s.l
def Sp.memB (s : Sp) (m : Nat) : List Nat := ((lets m).map s.letB).flatten
def Sp.stepB (s : Sp) : List Nat := vb s.op.toNat ++ ((uses s.op).map s.letB).flatten
def listB (L : List Sp) : List Nat := vb L.length ++ (L.map Sp.stepB).flatten
theorem stepB_mem (s : Sp) : s.stepB = vb s.op.toNat ++ ((mem s.op).map s.memB).flatten := by
  unfold Sp.stepB Sp.memB
  rw [uses_mem]
  congr 1
  induction mem s.op with
  | nil => rfl
  | cons m M ih => simp only [List.map_cons, List.flatten_cons, List.map_append, List.flatten_append, ih]

/-! reading -/
def takeA (e : Sight) : field.Fd × Sight :=
  let a := eCount 255 e
  let k := eCount 4 a.2
  let l := eInt k.2
  let h := eInt l.2
  let m := eCount 1000 h.2
  (⟨a.1, k.1, l.1, h.1, m.1⟩, m.2)
def takeAs : Nat → Sight → List field.Fd × Sight
  | 0, e => ([], e)
  | n + 1, e => ((takeAs n e).1 ++ [(takeA (takeAs n e).2).1], (takeA (takeAs n e).2).2)
def takeNs : Nat → Sight → List Int × Sight
  | 0, e => ([], e)
  | n + 1, e => ((takeNs n e).1 ++ [((eCount 1000 (takeNs n e).2).1 : Int)], (eCount 1000 (takeNs n e).2).2)
theorem takeAs_len (n : Nat) (e : Sight) : (takeAs n e).1.length = n := by
  induction n with
  | zero => rfl
  | succ n ih => simp [takeAs, ih]
theorem takeNs_len (n : Nat) (e : Sight) : (takeNs n e).1.length = n := by
  induction n with
  | zero => rfl
  | succ n ih => simp [takeNs, ih]
def takeL (c : UInt8) (s : Sp) (e : Sight) : Sp × Sight :=
  if c = 102 then ({ s with fm := (eCount 200 e).1 }, (eCount 200 e).2) else if c = 100 then ({ s with fd := (eCount 255 e).1 }, (eCount 255 e).2)
  else if c = 112 then ({ s with pl := (eCount 8 e).1 }, (eCount 8 e).2) else if c = 116 then ({ s with tt := (eCount 255 e).1 }, (eCount 255 e).2)
  else if c = 97 then ({ s with a := (eCount 1048576 e).1 }, (eCount 1048576 e).2) else if c = 98 then ({ s with a := (eInt e).1, b := (eInt (eInt e).2).1 }, (eInt (eInt e).2).2)
  else if c = 70 then ({ s with f := (takeA e).1 }, (takeA e).2) else if c = 86 then ({ s with v := ⟨(eInt e).1, strOf (eText 32 (eInt e).2).1⟩ }, (eText 32 (eInt e).2).2)
  else if c = 84 then ({ s with t := s.t ++ (takeNs (eCount 64 e).1 (eCount 64 e).2).1 }, (takeNs (eCount 64 e).1 (eCount 64 e).2).2)
  else ({ s with l := s.l ++ (takeAs (eCount 8 e).1 (eCount 8 e).2).1 }, (takeAs (eCount 8 e).1 (eCount 8 e).2).2)
def run (cs : List UInt8) (p : Sp × Sight) : Sp × Sight := cs.foldl (fun p c => takeL c p.1 p.2) p
theorem run_app (a b : List UInt8) (p : Sp × Sight) : run (a ++ b) p = run b (run a p) := List.foldl_append
theorem run_one (c : UInt8) (p : Sp × Sight) : run [c] p = takeL c p.1 p.2 := rfl
def startS (op : Int) : Sp := { Sp.zero with op := op }
def takeS (e : Sight) : Sp × Sight := run (uses (eCount 30 e).1) (startS (eCount 30 e).1, (eCount 30 e).2)
def takeSs : Nat → Sight → List Sp × Sight
  | 0, e => ([], e)
  | n + 1, e => ((takeSs n e).1 ++ [(takeS (takeSs n e).2).1], (takeS (takeSs n e).2).2)
theorem takeSs_len (n : Nat) (e : Sight) : (takeSs n e).1.length = n := by
  induction n with
  | zero => rfl
  | succ n ih => simp [takeSs, ih]
def readL (xs : List Nat) : List Sp × Sight := takeSs (eCount 40 (xs, 0)).1 (eCount 40 (xs, 0)).2
/-- the steps of bytes, and the error -/
def parsed (xs : List Nat) : List Sp × Nat :=
  if eEnd (readL xs).2 ≠ 0 then ([], eEnd (readL xs).2) else if Rights (readL xs).1 then ((readL xs).1, 0) else ([], 2)
/-- why there are no bytes -/
def rightsE (L : List Sp) : Nat := if 40 < L.length then 7 else if Rights L then 0 else 2
end Go.Proofs.Ytiajpjkkopdmgaa.step
/- The effect of a step on a schema by plain values: what stands in its way, what comes of it; the same as the reference has it. No condition. -/
namespace Go.Proofs.Ytiajpjkkopdmgaa.typing
open Go.RowKit Go.Proofs.Ytiajpjkkopdmgaa.schema Go.Proofs.Ytiajpjkkopdmgaa.field Go.Proofs.Ytiajpjkkopdmgaa.step
set_option linter.unusedVariables false

theorem firstAt_nonneg {l : List Int} {x : Int} : 0 ≤ firstAt l x ↔ x ∈ l := by
  unfold firstAt
  split <;> simp_all
theorem firstAt_lt {l : List Int} {x : Int} (h : 0 ≤ firstAt l x) : (firstAt l x).toNat < l.length ∧ l[(firstAt l x).toNat]? = some x := by
  have hm := firstAt_nonneg.1 h
  unfold firstAt
  rw [if_pos hm]
  simp only [Int.toNat_natCast]
  have := List.idxOf_lt_length_of_mem hm
  exact ⟨this, by rw [List.getElem?_eq_getElem this, List.getElem_idxOf]⟩
theorem firstAt_neg {l : List Int} {x : Int} : firstAt l x < 0 ↔ x ∉ l := by
  rw [← firstAt_nonneg]; omega
theorem firstAt_neg1 {l : List Int} {x : Int} (h : x ∉ l) : firstAt l x = -1 := if_neg h

/-- a step, and what it names as the schema has it -/
structure Ch where
  (s : Sp) (fi : Int) (L : List field.Fd) (kn : Bool) (at_ : Int) (old : field.Fd)
def found (c : Ch) : Bool := if c.s.op = 9 then true else if c.s.op = 1 ∨ c.s.op = 10 then c.kn else decide (0 ≤ c.at_)
def twice (c : Ch) : Bool := if c.s.op = 9 then c.kn else if c.s.op = 1 then decide (0 ≤ firstAt (ids c.L) c.s.f.id) else if c.s.op = 6 ∨ c.s.op = 8 then decide (0 ≤ firstAt (ids c.L) c.s.tt) else false
def beyond (c : Ch) : Bool := if c.s.op = 1 then decide ((c.L.length : Int) < c.s.pl) else if c.s.op = 7 then decide ((c.L.length : Int) - 1 < c.s.pl) else false
def scA (c : Ch) : Int := c.s.a * c.old.lo + c.s.b
def scB (c : Ch) : Int := c.s.a * c.old.hi + c.s.b
def low (c : Ch) : Int := if scB c < scA c then scB c else scA c
def high (c : Ch) : Int := if scA c < scB c then scB c else scA c
def suits (c : Ch) : Bool :=
  if c.s.op = 2 then decide (c.old.Has c.s.v) else if c.s.op = 3 then decide (c.old.Wider c.s.f) else if c.s.op = 4 then decide (c.old.kind = 1 ∧ -1099511627776 ≤ low c ∧ high c ≤ 1099511627776)
  else if c.s.op = 5 then decide (c.old.kind = 3 ∧ c.old.most = c.s.t.length) else if c.s.op = 6 then decide (c.old.kind = 1 ∧ c.old.lo = 0) else true
def err (c : Ch) : Nat := if found c = false then 8 else if twice c = true then 9 else if beyond c = true then 3 else if suits c = false then 17 else 0
def mn (a b : Int) : Int := if b < a then b else a
def heirs (c : Ch) : List field.Fd :=
  if c.s.op = 2 then [] else if c.s.op = 3 then [c.s.f] else if c.s.op = 4 then [{ c.old with lo := low c, hi := high c }] else if c.s.op = 5 then [{ c.old with most := c.s.a }]
  else if c.s.op = 6 then [{ c.old with hi := Int.tdiv c.old.hi c.s.a }, ⟨c.s.tt, 1, 0, mn (c.s.a - 1) c.old.hi, 0⟩] else if c.s.op = 8 then [{ c.old with id := c.s.tt }] else [c.old]
def cutL (L : List field.Fd) (k : Nat) : List field.Fd := L.take k ++ L.drop (k + 1)
def putL (L : List field.Fd) (k : Nat) (f : field.Fd) : List field.Fd := L.take k ++ ([f] ++ L.drop k)
def fields (c : Ch) : List field.Fd :=
  if c.s.op = 1 then putL c.L c.s.pl.toNat c.s.f else if c.s.op = 7 then putL (cutL c.L c.at_.toNat) c.s.pl.toNat c.old
  else c.L.take c.at_.toNat ++ (heirs c ++ c.L.drop (c.at_.toNat + 1))
/-- how many forms have a lesser ID -/
def pos : List schema.Form → Int → Nat
  | [], _ => 0
  | p :: r, x => if p.1 < x then pos r x + 1 else 0
def setF (F : List schema.Form) (i : Nat) (l : List field.Fd) : List schema.Form := match F[i]? with
  | some p => F.set i (p.1, l)
  | none => F
def applied (F : List schema.Form) (c : Ch) : List schema.Form :=
  if c.s.op = 9 then F.take (pos F c.s.fm) ++ ([(c.s.fm, c.s.l)] ++ F.drop (pos F c.s.fm)) else if c.s.op = 10 then F.take (pos F c.s.fm) ++ F.drop (pos F c.s.fm + 1) else setF F (pos F c.s.fm) (fields c)
def oldAt (L : List field.Fd) (k : Int) : field.Fd := if 0 ≤ k then L.getD k.toNat fd0 else fd0
def named (F : List schema.Form) (x : Int) : Option schema.Form := F.find? (fun p => p.1 == x)
def begin_ (F : List schema.Form) (s : Sp) : Ch := match named F s.fm with
  | some p => ⟨s, s.fm, p.2, true, firstAt (ids p.2) s.fd, oldAt p.2 (firstAt (ids p.2) s.fd)⟩
  | none => ⟨s, 0, [], false, -1, fd0⟩
def Fit (v : Int) (F : List schema.Form) (s : Sp) : Prop := Right v F ∧ s.Right ∧ s.op ≤ 10
instance (v : Int) (F : List schema.Form) (s : Sp) : Decidable (Fit v F s) := by unfold Fit; infer_instance
def on (v : Int) (F : List schema.Form) (s : Sp) : Int × List schema.Form × Nat :=
  if Fit v F s then (if err (begin_ F s) = 0 then (if Right v (applied F (begin_ F s)) then (v, applied F (begin_ F s), 0) else (0, [], 7)) else (0, [], err (begin_ F s))) else (0, [], 2)
def all : Nat → Int → List schema.Form → List Sp → Int × List schema.Form × Nat × Nat
  | _, v, F, [] => (v, F, 0, 0)
  | k, v, F, s :: r => if (on v F s).2.2 = 0 then all (k + 1) (on v F s).1 (on v F s).2.1 r else (0, [], k, (on v F s).2.2)

/-! forms in order -/
def Sorted (F : List schema.Form) : Prop := (F.map (·.1)).Pairwise (· < ·)
theorem Sorted.tail {p : schema.Form} {r : List schema.Form} (h : Sorted (p :: r)) : Sorted r := (List.pairwise_cons.1 h).2
theorem Sorted.head {p : schema.Form} {r : List schema.Form} (h : Sorted (p :: r)) : ∀ q ∈ r, p.1 < q.1 := fun q hq => (List.pairwise_cons.1 h).1 q.1 (List.mem_map_of_mem hq)
theorem right_sorted {v : Int} {F : List schema.Form} (h : Right v F) : Sorted F := h.2.2.2
theorem pos_le (F : List schema.Form) (x : Int) : pos F x ≤ F.length := by
  induction F with
  | nil => simp [pos]
  | cons p r ih => unfold pos; split <;> simp <;> omega
theorem pos_eq {F : List schema.Form} {x : Int} {i : Nat} (hs : Sorted F) (hi : i ≤ F.length) (h1 : ∀ p ∈ F.take i, p.1 < x) (h2 : ∀ p ∈ F.drop i, ¬ p.1 < x) : pos F x = i := by
  induction F generalizing i with
  | nil => simp at hi; simp [pos, hi]
  | cons p r ih =>
    unfold pos
    cases i with
    | zero => rw [if_neg (h2 p (by simp))]
    | succ i =>
      rw [if_pos (h1 p (by simp)), ih hs.tail (by simpa using hi) (fun q hq => h1 q (by simp [hq])) (fun q hq => h2 q (by simpa using hq))]
theorem pos_at {F : List schema.Form} {p : schema.Form} (hs : Sorted F) (hp : p ∈ F) : F[pos F p.1]? = some p := by
  induction F with
  | nil => simp at hp
  | cons q r ih =>
    unfold pos
    rcases List.mem_cons.1 hp with rfl | h
    · simp
    · rw [if_pos (hs.head p h)]
      simpa using ih hs.tail h
theorem named_some {F : List schema.Form} {x : Int} {p : schema.Form} (h : named F x = some p) : p ∈ F ∧ p.1 = x := ⟨List.mem_of_find?_eq_some h, by have := List.find?_some h; simpa using this⟩
theorem named_none {F : List schema.Form} {x : Int} (h : named F x = none) : x ∉ F.map (·.1) := by
  intro hm
  obtain ⟨p, hp, rfl⟩ := List.mem_map.1 hm
  have := List.find?_eq_none.1 h p hp
  simp at this
theorem setF_at {F : List schema.Form} {x : Int} {p : schema.Form} (hs : Sorted F) (h : named F x = some p) (l : List field.Fd) : setF F (pos F x) l = F.set (pos F x) (x, l) := by
  obtain ⟨h1, h2⟩ := named_some h
  have := pos_at hs h1
  rw [h2] at this
  unfold setF
  rw [this]
  simp [h2]

/-! the reference's way -/
def go (x : Int) (l : List field.Fd) : List schema.Form → Bool → List schema.Form
  | [], d => if d then [] else [(x, l)]
  | p :: r, d => (if d = false ∧ x ≤ p.1 then [(x, l)] else []) ++ ((if p.1 = x then [] else [p]) ++ go x l r (d || decide (x ≤ p.1)))
def formsR (F : List schema.Form) (x : Int) (l : List field.Fd) : List schema.Form := go x l F (decide (l = []))
theorem go_true (x : Int) (l : List field.Fd) (F : List schema.Form) : go x l F true = F.filter (fun p => decide (p.1 ≠ x)) := by
  induction F with
  | nil => rfl
  | cons p r ih =>
    unfold go
    simp only [Bool.true_eq_false, false_and, if_false, List.nil_append, Bool.true_or, ih, List.filter_cons]
    by_cases h : p.1 = x <;> simp [h]
theorem filter_all {F : List schema.Form} {x : Int} (h : ∀ p ∈ F, p.1 ≠ x) : F.filter (fun p => decide (p.1 ≠ x)) = F := List.filter_eq_self.2 (fun p hp => by simpa using h p hp)
theorem go_set {F : List schema.Form} {p : schema.Form} (hs : Sorted F) (hp : p ∈ F) (l : List field.Fd) : go p.1 l F false = F.set (pos F p.1) (p.1, l) := by
  induction F with
  | nil => simp at hp
  | cons q r ih =>
    unfold go pos
    rcases List.mem_cons.1 hp with rfl | h
    · have : ∀ t ∈ r, t.1 ≠ p.1 := fun t ht => by have := hs.head t ht; omega
      simp [go_true]
      exact fun a b hm => this _ hm
    · have h1 := hs.head p h
      have h2 : ¬ p.1 ≤ q.1 := by omega
      have h3 : ¬ q.1 = p.1 := by omega
      simp [h1, h2, h3, ih hs.tail h]
theorem go_put {F : List schema.Form} {x : Int} (hs : Sorted F) (hx : x ∉ F.map (·.1)) (l : List field.Fd) : go x l F false = F.take (pos F x) ++ ([(x, l)] ++ F.drop (pos F x)) := by
  induction F with
  | nil => simp [go, pos]
  | cons q r ih =>
    simp only [List.map_cons, List.mem_cons, not_or] at hx
    unfold go pos
    by_cases h : q.1 < x
    · have h2 : ¬ x ≤ q.1 := by omega
      have h3 : ¬ q.1 = x := by omega
      simp [h, h2, h3, ih hs.tail hx.2]
    · have h2 : x ≤ q.1 := by omega
      have h3 : ¬ q.1 = x := fun e => hx.1 e.symm
      have : ∀ t ∈ r, t.1 ≠ x := fun t ht e => hx.2 (e ▸ List.mem_map_of_mem ht)
      simp [h, h2, h3, go_true]
      exact fun a b hm => this _ hm
theorem go_cut {F : List schema.Form} {p : schema.Form} (hs : Sorted F) (hp : p ∈ F) (l : List field.Fd) : go p.1 l F true = F.take (pos F p.1) ++ F.drop (pos F p.1 + 1) := by
  rw [go_true]
  induction F with
  | nil => simp at hp
  | cons q r ih =>
    unfold pos
    rcases List.mem_cons.1 hp with rfl | h
    · have : ∀ t ∈ r, t.1 ≠ p.1 := fun t ht => by have := hs.head t ht; omega
      rw [List.filter_cons]
      simp only [ne_eq, not_true_eq_false, decide_false, Bool.false_eq_true, if_false, Int.lt_irrefl, List.take_zero, List.nil_append, List.drop_succ_cons, List.drop_zero]
      exact filter_all this
    · have h1 := hs.head p h
      have h3 : ¬ q.1 = p.1 := by omega
      rw [List.filter_cons]
      simp only [ne_eq, h3, not_false_eq_true, decide_true, if_true, h1, List.take_succ_cons, List.cons_append, List.drop_succ_cons]
      have := ih hs.tail h
      simp only [ne_eq] at this
      rw [this]
/-- whether an operation names a field -/
def nf (op : Int) : Bool := decide (op ≠ 1 ∧ op ≠ 9 ∧ op ≠ 10)
def names (F : List schema.Form) (s : Sp) : Nat :=
  if s.op = 9 then (if (named F s.fm).isSome then 9 else 0) else match named F s.fm with
    | none => 8
    | some p => if nf s.op = true ∧ firstAt (ids p.2) s.fd < 0 then 8 else if (s.op = 1 ∧ 0 ≤ firstAt (ids p.2) s.f.id) ∨ ((s.op = 6 ∨ s.op = 8) ∧ 0 ≤ firstAt (ids p.2) s.tt) then 9
        else if (s.op = 1 ∧ (p.2.length : Int) < s.pl) ∨ (s.op = 7 ∧ (p.2.length : Int) ≤ s.pl) then 3 else 0
def types (f : field.Fd) (s : Sp) : List field.Fd × Bool :=
  if s.op = 2 then ([], decide (f.Has s.v)) else if s.op = 3 then ([s.f], decide (f.Wider s.f))
  else if s.op = 4 then ([⟨f.id, 1, low ⟨s, 0, [], false, 0, f⟩, high ⟨s, 0, [], false, 0, f⟩, 0⟩], decide (f.kind = 1 ∧ field.Fd.Right ⟨f.id, 1, low ⟨s, 0, [], false, 0, f⟩, high ⟨s, 0, [], false, 0, f⟩, 0⟩))
  else if s.op = 5 then ([⟨f.id, 3, 0, 0, s.a⟩], decide (f.kind = 3 ∧ f.most = s.t.length))
  else if s.op = 6 then ([⟨f.id, 1, 0, Int.tdiv f.hi s.a, 0⟩, ⟨s.tt, 1, 0, mn f.hi (s.a - 1), 0⟩], decide (f.kind = 1 ∧ f.lo = 0))
  else if s.op = 8 then ([{ f with id := s.tt }], true) else ([f], true)
def puts (L : List field.Fd) (k : Nat) : List field.Fd → List field.Fd
  | [] => L
  | f :: r => puts (putL L k f) (k + 1) r
end Go.Proofs.Ytiajpjkkopdmgaa.typing
/- Contract of the reference's Span of layer 12 (field). No condition. -/
namespace Go.Proofs.Ytiajpjkkopdmgaa.field
open Go.RowKit
set_option linter.unusedVariables false

theorem results_tmp4 {fn : Func} {t u v x : Tmp} (h : fn.results = #[.tmp t, .tmp u, .tmp v, .tmp x]) (tmps : Array Value) (P : Program) (w : World) :
    (results fn tmps).run P w = .ok (.tuple #[tmps.getD t undef, tmps.getD u undef, tmps.getD v undef, tmps.getD x undef]) w := by
  simp [results, h]
/-- a triple of numbers and a no -/
def SpanNo (w : World) (e : Ending) (w' : World) : Prop := (∃ a b c : Int, e = .returned (.tuple #[.int .i64 a, .int .i64 b, .int .i64 c, .bool false])) ∧ Below w.heap.size w w'
def SpanYes (a b c : Int) (w : World) (e : Ending) (w' : World) : Prop := e = .returned (.tuple #[.int .i64 a, .int .i64 b, .int .i64 c, .bool true]) ∧ Below w.heap.size w w'
theorem span_yes (f : Fd) (h : f.Right) (w : World) : Calls Try.prog 89 #[.agg #[.int .i64 f.id, .int .i64 f.kind, .int .i64 f.lo, .int .i64 f.hi, .int .i64 f.most]] w (SpanYes f.lo f.great f.long w) := by
  have HB := hid (belowF f w)
  obtain ⟨i, k, lo, hi, m⟩ := f
  obtain ⟨⟨h1, h2⟩, h⟩ := h
  simp only at h h1 h2 HB ⊢
  have g1 : i ≥ 0 := h1
  unfold SpanYes
  rcases h with ⟨rfl, h3, h4, h5, rfl⟩ | ⟨rfl, ⟨rfl, rfl⟩, rfl⟩ | ⟨rfl, ⟨rfl, rfl⟩, h3, h4⟩ | ⟨rfl, ⟨rfl, rfl⟩, h3, h4⟩
  · have g4 : lo ≥ -1099511627776 := h4
    rw [show Fd.great ⟨i, 1, lo, hi, 0⟩ = hi from rfl, show Fd.long ⟨i, 1, lo, hi, 0⟩ = 0 from rfl]
    go_enter Try.func89, Try.ntmps89
    go_wp2
    go_quiet (fail)
    go_wp2
    refine bodyPost_ret (results_tmp4 rfl _ _ _) rfl ?_
    exact ⟨rfl, HB.out _ (below_drewN (Below.refl _ _) _)⟩
  · rw [show Fd.great ⟨i, 2, 0, 0, 0⟩ = 1 from rfl, show Fd.long ⟨i, 2, 0, 0, 0⟩ = 0 from rfl]
    go_enter Try.func89, Try.ntmps89
    go_wp2
    go_quiet (fail)
    go_wp2
    refine bodyPost_ret (results_tmp4 rfl _ _ _) rfl ?_
    exact ⟨rfl, HB.out _ (below_drewN (Below.refl _ _) _)⟩
  · rw [show Fd.great ⟨i, 3, 0, 0, m⟩ = m - 1 from rfl, show Fd.long ⟨i, 3, 0, 0, m⟩ = 0 from rfl]
    have g3 : m ≥ 1 := h3
    go_enter Try.func89, Try.ntmps89
    go_wp2
    go_quiet (fail)
    go_wp2
    refine bodyPost_ret (results_tmp4 rfl _ _ _) rfl ?_
    exact ⟨rfl, HB.out _ (below_drewN (Below.refl _ _) _)⟩
  · rw [show Fd.great ⟨i, 4, 0, 0, m⟩ = 0 from rfl, show Fd.long ⟨i, 4, 0, 0, m⟩ = m from rfl]
    have g3 : m ≥ 0 := h3
    go_enter Try.func89, Try.ntmps89
    go_wp2
    go_quiet (fail)
    go_wp2
    refine bodyPost_ret (results_tmp4 rfl _ _ _) rfl ?_
    exact ⟨rfl, HB.out _ (below_drewN (Below.refl _ _) _)⟩
set_option maxHeartbeats 4000000 in
theorem span_no (f : Fd) (h : ¬ f.Right) (w : World) : Calls Try.prog 89 #[.agg #[.int .i64 f.id, .int .i64 f.kind, .int .i64 f.lo, .int .i64 f.hi, .int .i64 f.most]] w (SpanNo w) := by
  have HB := hid (belowF f w)
  obtain ⟨i, k, lo, hi, m⟩ := f
  replace h := Fd.wrong h
  simp only at h HB ⊢
  unfold SpanNo
  by_cases a0 : (0 ≤ i ∧ i ≤ 255)
  · have h : _ := Or.resolve_left h (by omega)
    obtain ⟨⟨h1, h2⟩, h⟩ := h
    have g1 : i ≥ 0 := h1
    clear a0
    rcases h with ⟨rfl, h⟩ | ⟨rfl, h⟩ | ⟨rfl, h⟩ | ⟨rfl, h⟩ | ⟨n1, n2, n3, n4⟩
    · by_cases c1 : lo ≥ -1099511627776
      · by_cases c2 : hi ≤ 1099511627776
        · by_cases c3 : lo ≤ hi
          · have hd : (m == 0) = false := by rw [beq_eq_false_iff_ne]; omega
            clear h
            go_enter Try.func89, Try.ntmps89
            go_wp2
            go_quiet (fail)
            go_wp2
            refine bodyPost_ret (results_tmp4 rfl _ _ _) rfl ?_
            exact ⟨⟨_, _, _, rfl⟩, HB.out _ (below_drewN (Below.refl _ _) _)⟩
          · have hd : decide (lo ≤ hi) = false := decide_eq_false c3
            clear h c3
            go_enter Try.func89, Try.ntmps89
            go_wp2
            go_quiet (fail)
            go_wp2
            refine bodyPost_ret (results_tmp4 rfl _ _ _) rfl ?_
            exact ⟨⟨_, _, _, rfl⟩, HB.out _ (below_drewN (Below.refl _ _) _)⟩
        · have hd : decide (hi ≤ 1099511627776) = false := decide_eq_false c2
          clear h c2
          go_enter Try.func89, Try.ntmps89
          go_wp2
          go_quiet (fail)
          go_wp2
          refine bodyPost_ret (results_tmp4 rfl _ _ _) rfl ?_
          exact ⟨⟨_, _, _, rfl⟩, HB.out _ (below_drewN (Below.refl _ _) _)⟩
      · have hd : decide (lo ≥ -1099511627776) = false := decide_eq_false c1
        clear h c1
        go_enter Try.func89, Try.ntmps89
        go_wp2
        go_quiet (fail)
        go_wp2
        refine bodyPost_ret (results_tmp4 rfl _ _ _) rfl ?_
        exact ⟨⟨_, _, _, rfl⟩, HB.out _ (below_drewN (Below.refl _ _) _)⟩
    · by_cases c1 : lo = 0
      · by_cases c2 : hi = 0
        · subst c1 c2
          have hd : (m == 0) = false := by rw [beq_eq_false_iff_ne]; omega
          clear h
          go_enter Try.func89, Try.ntmps89
          go_wp2
          go_quiet (fail)
          go_wp2
          refine bodyPost_ret (results_tmp4 rfl _ _ _) rfl ?_
          exact ⟨⟨_, _, _, rfl⟩, HB.out _ (below_drewN (Below.refl _ _) _)⟩
        · subst c1
          have hd : (hi == 0) = false := by rw [beq_eq_false_iff_ne]; omega
          clear h c2
          go_enter Try.func89, Try.ntmps89
          go_wp2
          go_quiet (fail)
          go_wp2
          refine bodyPost_ret (results_tmp4 rfl _ _ _) rfl ?_
          exact ⟨⟨_, _, _, rfl⟩, HB.out _ (below_drewN (Below.refl _ _) _)⟩
      · have hd : (lo == 0) = false := by rw [beq_eq_false_iff_ne]; omega
        clear h c1
        go_enter Try.func89, Try.ntmps89
        go_wp2
        go_quiet (fail)
        go_wp2
        refine bodyPost_ret (results_tmp4 rfl _ _ _) rfl ?_
        exact ⟨⟨_, _, _, rfl⟩, HB.out _ (below_drewN (Below.refl _ _) _)⟩
    · by_cases c1 : lo = 0
      · by_cases c2 : hi = 0
        · subst c1 c2
          by_cases c3 : m ≥ 1
          · have hd : decide (m ≤ 1000) = false := decide_eq_false (by omega)
            clear h
            go_enter Try.func89, Try.ntmps89
            go_wp2
            go_quiet (fail)
            go_wp2
            refine bodyPost_ret (results_tmp4 rfl _ _ _) rfl ?_
            exact ⟨⟨_, _, _, rfl⟩, HB.out _ (below_drewN (Below.refl _ _) _)⟩
          · have hd : decide (m ≥ 1) = false := decide_eq_false c3
            clear h c3
            go_enter Try.func89, Try.ntmps89
            go_wp2
            go_quiet (fail)
            go_wp2
            refine bodyPost_ret (results_tmp4 rfl _ _ _) rfl ?_
            exact ⟨⟨_, _, _, rfl⟩, HB.out _ (below_drewN (Below.refl _ _) _)⟩
        · subst c1
          have hd : (hi == 0) = false := by rw [beq_eq_false_iff_ne]; omega
          clear h c2
          go_enter Try.func89, Try.ntmps89
          go_wp2
          go_quiet (fail)
          go_wp2
          refine bodyPost_ret (results_tmp4 rfl _ _ _) rfl ?_
          exact ⟨⟨_, _, _, rfl⟩, HB.out _ (below_drewN (Below.refl _ _) _)⟩
      · have hd : (lo == 0) = false := by rw [beq_eq_false_iff_ne]; omega
        clear h c1
        go_enter Try.func89, Try.ntmps89
        go_wp2
        go_quiet (fail)
        go_wp2
        refine bodyPost_ret (results_tmp4 rfl _ _ _) rfl ?_
        exact ⟨⟨_, _, _, rfl⟩, HB.out _ (below_drewN (Below.refl _ _) _)⟩
    · by_cases c1 : lo = 0
      · by_cases c2 : hi = 0
        · subst c1 c2
          by_cases c3 : m ≥ 0
          · have hd : decide (m ≤ 32) = false := decide_eq_false (by omega)
            clear h
            go_enter Try.func89, Try.ntmps89
            go_wp2
            go_quiet (fail)
            go_wp2
            refine bodyPost_ret (results_tmp4 rfl _ _ _) rfl ?_
            exact ⟨⟨_, _, _, rfl⟩, HB.out _ (below_drewN (Below.refl _ _) _)⟩
          · have hd : decide (m ≥ 0) = false := decide_eq_false c3
            clear h c3
            go_enter Try.func89, Try.ntmps89
            go_wp2
            go_quiet (fail)
            go_wp2
            refine bodyPost_ret (results_tmp4 rfl _ _ _) rfl ?_
            exact ⟨⟨_, _, _, rfl⟩, HB.out _ (below_drewN (Below.refl _ _) _)⟩
        · subst c1
          have hd : (hi == 0) = false := by rw [beq_eq_false_iff_ne]; omega
          clear h c2
          go_enter Try.func89, Try.ntmps89
          go_wp2
          go_quiet (fail)
          go_wp2
          refine bodyPost_ret (results_tmp4 rfl _ _ _) rfl ?_
          exact ⟨⟨_, _, _, rfl⟩, HB.out _ (below_drewN (Below.refl _ _) _)⟩
      · have hd : (lo == 0) = false := by rw [beq_eq_false_iff_ne]; omega
        clear h c1
        go_enter Try.func89, Try.ntmps89
        go_wp2
        go_quiet (fail)
        go_wp2
        refine bodyPost_ret (results_tmp4 rfl _ _ _) rfl ?_
        exact ⟨⟨_, _, _, rfl⟩, HB.out _ (below_drewN (Below.refl _ _) _)⟩
    · have e1 : (k == 1) = false := by rw [beq_eq_false_iff_ne]; exact n1
      have e2 : (k == 2) = false := by rw [beq_eq_false_iff_ne]; exact n2
      have e3 : (k == 3) = false := by rw [beq_eq_false_iff_ne]; exact n3
      have e4 : (k == 4) = false := by rw [beq_eq_false_iff_ne]; exact n4
      clear n1 n2 n3 n4
      go_enter Try.func89, Try.ntmps89
      go_wp2
      go_wp2
      refine bodyPost_ret (results_tmp4 rfl _ _ _) rfl ?_
      exact ⟨⟨_, _, _, rfl⟩, HB.out _ (Below.refl _ _)⟩
  · clear h
    by_cases a1 : i ≥ 0
    · have hd : decide (i ≤ 255) = false := decide_eq_false (by omega)
      clear a0
      by_cases k1 : k = 1
      · subst k1
        go_enter Try.func89, Try.ntmps89
        go_wp2
        go_quiet (fail)
        go_wp2
        refine bodyPost_ret (results_tmp4 rfl _ _ _) rfl ?_
        exact ⟨⟨_, _, _, rfl⟩, HB.out _ (below_drewN (Below.refl _ _) _)⟩
      · by_cases k2 : k = 2
        · subst k2
          go_enter Try.func89, Try.ntmps89
          go_wp2
          go_quiet (fail)
          go_wp2
          refine bodyPost_ret (results_tmp4 rfl _ _ _) rfl ?_
          exact ⟨⟨_, _, _, rfl⟩, HB.out _ (below_drewN (Below.refl _ _) _)⟩
        · by_cases k3 : k = 3
          · subst k3
            go_enter Try.func89, Try.ntmps89
            go_wp2
            go_quiet (fail)
            go_wp2
            refine bodyPost_ret (results_tmp4 rfl _ _ _) rfl ?_
            exact ⟨⟨_, _, _, rfl⟩, HB.out _ (below_drewN (Below.refl _ _) _)⟩
          · by_cases k4 : k = 4
            · subst k4
              go_enter Try.func89, Try.ntmps89
              go_wp2
              go_quiet (fail)
              go_wp2
              refine bodyPost_ret (results_tmp4 rfl _ _ _) rfl ?_
              exact ⟨⟨_, _, _, rfl⟩, HB.out _ (below_drewN (Below.refl _ _) _)⟩
            · have e1 : (k == 1) = false := by rw [beq_eq_false_iff_ne]; exact k1
              have e2 : (k == 2) = false := by rw [beq_eq_false_iff_ne]; exact k2
              have e3 : (k == 3) = false := by rw [beq_eq_false_iff_ne]; exact k3
              have e4 : (k == 4) = false := by rw [beq_eq_false_iff_ne]; exact k4
              clear k1 k2 k3 k4
              go_enter Try.func89, Try.ntmps89
              go_wp2
              go_wp2
              refine bodyPost_ret (results_tmp4 rfl _ _ _) rfl ?_
              exact ⟨⟨_, _, _, rfl⟩, HB.out _ (Below.refl _ _)⟩
    · have hd : decide (i ≥ 0) = false := decide_eq_false a1
      clear a0 a1
      by_cases k1 : k = 1
      · subst k1
        go_enter Try.func89, Try.ntmps89
        go_wp2
        go_quiet (fail)
        go_wp2
        refine bodyPost_ret (results_tmp4 rfl _ _ _) rfl ?_
        exact ⟨⟨_, _, _, rfl⟩, HB.out _ (below_drewN (Below.refl _ _) _)⟩
      · by_cases k2 : k = 2
        · subst k2
          go_enter Try.func89, Try.ntmps89
          go_wp2
          go_quiet (fail)
          go_wp2
          refine bodyPost_ret (results_tmp4 rfl _ _ _) rfl ?_
          exact ⟨⟨_, _, _, rfl⟩, HB.out _ (below_drewN (Below.refl _ _) _)⟩
        · by_cases k3 : k = 3
          · subst k3
            go_enter Try.func89, Try.ntmps89
            go_wp2
            go_quiet (fail)
            go_wp2
            refine bodyPost_ret (results_tmp4 rfl _ _ _) rfl ?_
            exact ⟨⟨_, _, _, rfl⟩, HB.out _ (below_drewN (Below.refl _ _) _)⟩
          · by_cases k4 : k = 4
            · subst k4
              go_enter Try.func89, Try.ntmps89
              go_wp2
              go_quiet (fail)
              go_wp2
              refine bodyPost_ret (results_tmp4 rfl _ _ _) rfl ?_
              exact ⟨⟨_, _, _, rfl⟩, HB.out _ (below_drewN (Below.refl _ _) _)⟩
            · have e1 : (k == 1) = false := by rw [beq_eq_false_iff_ne]; exact k1
              have e2 : (k == 2) = false := by rw [beq_eq_false_iff_ne]; exact k2
              have e3 : (k == 3) = false := by rw [beq_eq_false_iff_ne]; exact k3
              have e4 : (k == 4) = false := by rw [beq_eq_false_iff_ne]; exact k4
              clear k1 k2 k3 k4
              go_enter Try.func89, Try.ntmps89
              go_wp2
              go_wp2
              refine bodyPost_ret (results_tmp4 rfl _ _ _) rfl ?_
              exact ⟨⟨_, _, _, rfl⟩, HB.out _ (Below.refl _ _)⟩
end Go.Proofs.Ytiajpjkkopdmgaa.field
/- Contract of the reference's Span, seen from an elder world. No condition. -/
namespace Go.Proofs.Ytiajpjkkopdmgaa.field
open Go.RowKit
set_option linter.unusedVariables false

theorem span_from (f : Fd) (h : f.Right) {w0 w : World} (hb : Below w0.heap.size w0 w) : Calls Try.prog 89 #[.agg #[.int .i64 f.id, .int .i64 f.kind, .int .i64 f.lo, .int .i64 f.hi, .int .i64 f.most]] w fun e w' => e = .returned (.tuple #[.int .i64 f.lo, .int .i64 f.great, .int .i64 f.long, .bool true]) ∧ Below w0.heap.size w0 w' :=
  (span_yes f h w).mono fun _ _ ⟨he, hw⟩ => ⟨he, hb.trans (hw.mono hb.size)⟩
theorem span_from_no (f : Fd) (h : ¬ f.Right) {w0 w : World} (hb : Below w0.heap.size w0 w) : Calls Try.prog 89 #[.agg #[.int .i64 f.id, .int .i64 f.kind, .int .i64 f.lo, .int .i64 f.hi, .int .i64 f.most]] w fun e w' => (∃ a b c : Int, e = .returned (.tuple #[.int .i64 a, .int .i64 b, .int .i64 c, .bool false])) ∧ Below w0.heap.size w0 w' :=
  (span_no f h w).mono fun _ _ ⟨he, hw⟩ => ⟨he, hb.trans (hw.mono hb.size)⟩
end Go.Proofs.Ytiajpjkkopdmgaa.field
/- Contracts of the reference's Right, wide, Size of layer 12 (field). No condition. -/
namespace Go.Proofs.Ytiajpjkkopdmgaa.field
open Go.RowKit
set_option linter.unusedVariables false

theorem refRight_any (f : Fd) (w : World) : Calls Try.prog 58 #[.agg #[.int .i64 f.id, .int .i64 f.kind, .int .i64 f.lo, .int .i64 f.hi, .int .i64 f.most]] w (Gives (.bool (decide f.Right)) w) := by
  have HB := hid (belowF f w)
  unfold Gives
  by_cases h : f.Right
  · rw [decide_eq_true h]
    have cs := span_from f h (w0 := (w.alloc (.cells #[.int .i64 f.id, .int .i64 f.kind, .int .i64 f.lo, .int .i64 f.hi, .int .i64 f.most] 26))) (Below.refl _ _)
    clear h
    generalize f.great = G at *
    generalize f.long = L at *
    go_enter Try.func58, Try.ntmps58
    go_wp2_with (go_at_call 89; (with_reducible refine cs.mono ?_); rintro e w1 ⟨rfl, hb1⟩)
    go_ret
    exact ⟨rfl, HB.out _ hb1⟩
  · rw [decide_eq_false h]
    have cs := span_from_no f h (w0 := (w.alloc (.cells #[.int .i64 f.id, .int .i64 f.kind, .int .i64 f.lo, .int .i64 f.hi, .int .i64 f.most] 26))) (Below.refl _ _)
    clear h
    go_enter Try.func58, Try.ntmps58
    go_wp2_with (go_at_call 89; (with_reducible refine cs.mono ?_); rintro e w1 ⟨⟨a, b, c, rfl⟩, hb1⟩)
    go_ret
    exact ⟨rfl, HB.out _ hb1⟩
theorem refWide_any (n : Nat) (hn : n < 281474976710656) (w : World) : Calls Try.prog 107 #[.int .i64 (n : Int)] w (Quiet (.int .i64 (wide n : Int)) w) := by
  go_enter Try.func107, Try.ntmps107
  go_wp2
  go_loopw [0, 3] (fun m k wr => ∃ (q j : Nat), m = .int .i64 (q : Int) ∧ k = .int .i64 (j : Int) ∧ q ≤ n ∧ j ≤ 100 ∧ Hid (j + wide q = wide n) ∧ w = wr) (fun m k wr => (intOf m).toNat)
  case atStart => exact ⟨n, 0, rfl, rfl, Nat.le_refl _, by omega, hid (by omega), rfl⟩
  case round =>
    obtain ⟨q, j, rfl, rfl, hq, hj, hw, rfl⟩ := hrel
    by_cases hlt : 0 < q
    · have hd := wide_div hlt (by omega)
      have hw6 := wide_le n
      have := hw.out
      have hj6 : j < 7 := by omega
      have HN : Hid (j + 1 + wide (q / 256) = wide n) := hid (by omega)
      clear hw hd this
      go_wp2
      go_round
      · exact ⟨q / 256, j + 1, by simp, by simp, by omega, by omega, HN, trivial⟩
      · simp [intOf]; omega
    · obtain rfl : q = 0 := by omega
      have hj2 := hw.out
      rw [show wide 0 = 0 from rfl] at hj2
      obtain rfl : j = wide n := by omega
      clear hw hj2 hlt
      generalize wide n = W at *
      go_wp2
      go_ret
      exact ⟨rfl, 0, rfl⟩
theorem refSize_any (f : Fd) (w : World) : Calls Try.prog 92 #[.agg #[.int .i64 f.id, .int .i64 f.kind, .int .i64 f.lo, .int .i64 f.hi, .int .i64 f.most]] w (Gives (.int .i64 (f.size : Int)) w) := by
  have HB := hid (belowF f w)
  have HS := hid (five f w)
  have hsz : f.size = if f.Right then (if f.kind = 4 then 1 + f.most.toNat else wide (f.great - f.lo).toNat) else 0 := rfl
  rw [hsz]
  unfold Gives
  by_cases hr : f.Right
  · rw [if_pos hr]
    have cs := span_from f hr (w0 := (w.alloc (.cells #[.int .i64 f.id, .int .i64 f.kind, .int .i64 f.lo, .int .i64 f.hi, .int .i64 f.most] 26))) (Below.refl _ _)
    have hsp := hr.span
    by_cases h4 : f.kind = 4
    · rw [if_pos h4]
      have hl : f.long = f.most := by unfold Fd.long; rw [if_pos h4]
      rw [hl] at cs
      have hm : 0 ≤ f.most ∧ f.most ≤ 32 := by unfold Fd.Right at hr; omega
      obtain ⟨M, hM⟩ := Int.eq_ofNat_of_zero_le hm.1
      rw [hM] at cs HB HS ⊢
      rw [show ((M : Int)).toNat = M from rfl]
      have m2 : M ≤ 32 := by omega
      have e4 : (f.kind == 4) = true := by rw [beq_iff_eq]; exact h4
      clear hl hm hsp hr hsz h4
      generalize f.great = G at *
      go_enter Try.func92, Try.ntmps92
      go_wp2_with (go_at_call 89; go_loud ((with_reducible refine cs.mono ?_); rintro e w1 ⟨rfl, hb1⟩; have hk1 := HS.out _ hb1))
      go_ret
      exact ⟨ret_int (by omega), HB.out _ hb1⟩
    · rw [if_neg h4]
      obtain ⟨T, hT⟩ : ∃ T : Nat, f.great - f.lo = (T : Int) := ⟨(f.great - f.lo).toNat, by omega⟩
      have hTb : T ≤ 2199023255552 := by omega
      rw [hT]
      rw [show ((T : Int)).toNat = T from rfl]
      have cw := refWide_any T (by omega)
      have e4 : (f.kind == 4) = false := by rw [beq_eq_false_iff_ne]; exact h4
      have s1 := hsp.2.2.1
      have s2 := hsp.2.2.2.1
      clear hsp hr hsz h4
      generalize f.great = G at *
      generalize f.long = L at *
      obtain rfl : G = f.lo + (T : Int) := by omega
      clear hT
      have hsub : f.lo + (T : Int) - f.lo = (T : Int) := by omega
      go_enter Try.func92, Try.ntmps92
      go_wp2_with (first
        | (go_at_call 89; (with_reducible refine cs.mono ?_); rintro e w1 ⟨rfl, hb1⟩; have hk1 := HS.out _ hb1)
        | (go_at_call 107; (try rw [hsub]); (with_reducible refine (cw _).mono ?_); rintro e w2 ⟨rfl, nd, rfl⟩))
      go_ret
      exact ⟨rfl, HB.out _ (below_drewN hb1 _)⟩
  · rw [if_neg hr]
    have cs := span_from_no f hr (w0 := (w.alloc (.cells #[.int .i64 f.id, .int .i64 f.kind, .int .i64 f.lo, .int .i64 f.hi, .int .i64 f.most] 26))) (Below.refl _ _)
    clear hr hsz
    go_enter Try.func92, Try.ntmps92
    go_wp2_with (go_at_call 89; (with_reducible refine cs.mono ?_); rintro e w1 ⟨⟨a, b, c, rfl⟩, hb1⟩; have hk1 := HS.out _ hb1)
    go_ret
    exact ⟨rfl, HB.out _ hb1⟩
end Go.Proofs.Ytiajpjkkopdmgaa.field
/- Contracts of layer 12 (field): greatest, longest, top, Least, Size. No condition but a right field. -/
namespace Go.Proofs.Ytiajpjkkopdmgaa.field
open Go.RowKit
set_option linter.unusedVariables false
theorem longest_any (f : Fd) (w : World) : Calls Try.prog 102 #[.agg #[.int .i64 f.id, .int .i64 f.kind, .int .i64 f.lo, .int .i64 f.hi, .int .i64 f.most]] w (Gives (.int .i64 f.long) w) := by
  obtain ⟨i, k, lo, hi, m⟩ := f
  simp only
  unfold Gives
  by_cases hk : k = 4
  · subst hk
    rw [show Fd.long ⟨i, 4, lo, hi, m⟩ = m from rfl]
    go_enter Try.func102, Try.ntmps102
    go_wp2
    go_ret
    exact ⟨rfl, newB _ _⟩
  · rw [show Fd.long ⟨i, k, lo, hi, m⟩ = 0 from if_neg hk]
    have e4 : (k == 4) = false := by rw [beq_eq_false_iff_ne]; exact hk
    clear hk
    go_enter Try.func102, Try.ntmps102
    go_wp2
    go_ret
    exact ⟨rfl, newB _ _⟩
end Go.Proofs.Ytiajpjkkopdmgaa.field
/- A result that is a value of a field and lives in a variable: stored and returned. No condition. -/
namespace Go.Proofs.Ytiajpjkkopdmgaa.field
open Go.RowKit
set_option linter.unusedVariables false

/-- a value that has just been boxed stays -/
theorem two (v : Va) (w w' : World) (hb : Below (w.alloc (.cells #[.int .i64 v.n, .string v.s] 28)).heap.size (w.alloc (.cells #[.int .i64 v.n, .string v.s] 28)) w') : (w'.cell? ⟨w.heap.size, 0, none⟩ = some (.int .i64 v.n) ∧ w'.cell? ⟨w.heap.size, 1, none⟩ = some (.string v.s)) := by
  have hB := (Block.new w 28 [.int .i64 v.n, .string v.s]).later hb
  exact ⟨hB.cell 0, hB.cell 1⟩
/-- the world in which a field has been boxed and the result's variable made -/
def W2 (f : Fd) (w : World) : World := (w.alloc (.cells #[.int .i64 f.id, .int .i64 f.kind, .int .i64 f.lo, .int .i64 f.hi, .int .i64 f.most] 26)).alloc (.cells #[.int .i64 0, .string ⟨#[]⟩] 28)
theorem W2.all (f : Fd) (w w' : World) (hb : Below (W2 f w).heap.size (W2 f w) w') : (w'.cell? ⟨w.heap.size, 0, none⟩ = some (.int .i64 f.id) ∧ w'.cell? ⟨w.heap.size, 1, none⟩ = some (.int .i64 f.kind) ∧ w'.cell? ⟨w.heap.size, 2, none⟩ = some (.int .i64 f.lo) ∧ w'.cell? ⟨w.heap.size, 3, none⟩ = some (.int .i64 f.hi) ∧ w'.cell? ⟨w.heap.size, 4, none⟩ = some (.int .i64 f.most)) ∧ Block w' (w.heap.size + 1) 28 [.int .i64 0, .string ⟨#[]⟩] ∧ Below w.heap.size w w' := by
  have h1 : Below (w.alloc (.cells #[.int .i64 f.id, .int .i64 f.kind, .int .i64 f.lo, .int .i64 f.hi, .int .i64 f.most] 26)).heap.size (w.alloc (.cells #[.int .i64 f.id, .int .i64 f.kind, .int .i64 f.lo, .int .i64 f.hi, .int .i64 f.most] 26)) w' := (newB _ _).trans (hb.mono (by unfold W2; simp))
  refine ⟨five f w w' h1, ?_, belowF f w w' h1⟩
  have h2 := (Block.new (w.alloc (.cells #[.int .i64 f.id, .int .i64 f.kind, .int .i64 f.lo, .int .i64 f.hi, .int .i64 f.most] 26)) 28 [.int .i64 0, .string ⟨#[]⟩]).later hb
  simpa using h2
theorem val_there {w : World} {b : Nat} {x y : Value} (h : Block w b 28 [x, y]) (n : Int) (s : ByteArray) : w.there b 0 (#[.int .i64 n, .string s] : Array Value).size := h.there 0 2 (by simp)
theorem val_info (n : Int) (s : ByteArray) : (Try.prog.info? 28).map (·.size) = some (#[.int .i64 n, .string s] : Array Value).size := by kernel_rfl
theorem val_info2 (n : Int) (s : ByteArray) : (Try.prog.info? 28).map (·.size) = some [Value.int .i64 n, Value.string s].length := by kernel_rfl
theorem val_one (n : Int) (s : ByteArray) : (#[.int .i64 n, .string s] : Array Value).all (·.oneCell') = true := by simp [Value.oneCell']
theorem val_stored {w w2 a : World} {b B : Nat} {x y : Value} {n : Int} {s : ByteArray} (h : Block w b 28 [x, y]) (hw : Hid (w.setCells b 0 (#[.int .i64 n, .string s] : Array Value).toList = w2)) (hb : B ≤ b) (ha : Below B a w) :
    Block w2 b 28 [.int .i64 n, .string s] ∧ Below B a w2 := by
  constructor
  · have := h.setCells (vs := [.int .i64 n, .string s]) (o := 0)
    rw [put_all _ _ (by simp)] at this
    rw [← hw.out]
    exact this
  · rw [← hw.out]
    exact below_setCells ha hb _ _
/-- three results of which the first lives in a variable -/
theorem results_cell3 {fn : Func} {p u v : Tmp} {ty : TypeId} {tmps : Array Value} {P : Program} {w : World} {b o : Nat} {cs : List Value} {d : TypeDesc} (h : fn.results = #[.cell p ty, .tmp u, .tmp v])
    (hp : tmps.getD p undef = .pointer (some ⟨b, o, none⟩)) (hc : w.rangeAt b o cs) (hu : P.underlying ty = some d) (hd : d.isRow = true) (hi : (P.info? ty).map (·.size) = some cs.length) :
    (results fn tmps).run P w = .ok (.tuple #[.agg cs.toArray, tmps.getD u undef, tmps.getD v undef]) w := by
  simp only [results, h]
  simp at hp
  simp [hp, asAddr, run_loadVar_mid w b o ty cs d hc hu hd hi]
end Go.Proofs.Ytiajpjkkopdmgaa.field
/- Contract of the reference of layer 12 (field): Has. No condition. -/
namespace Go.Proofs.Ytiajpjkkopdmgaa.field
open Go.RowKit
set_option linter.unusedVariables false
/-- the world in which a field and a value have been boxed -/
def WV (f : Fd) (v : Va) (w : World) : World := (w.alloc (.cells #[.int .i64 f.id, .int .i64 f.kind, .int .i64 f.lo, .int .i64 f.hi, .int .i64 f.most] 26)).alloc (.cells #[.int .i64 v.n, .string v.s] 28)
theorem WV.all (f : Fd) (v : Va) (w w' : World) (hb : Below (WV f v w).heap.size (WV f v w) w') : (w'.cell? ⟨w.heap.size, 0, none⟩ = some (.int .i64 f.id) ∧ w'.cell? ⟨w.heap.size, 1, none⟩ = some (.int .i64 f.kind) ∧ w'.cell? ⟨w.heap.size, 2, none⟩ = some (.int .i64 f.lo) ∧ w'.cell? ⟨w.heap.size, 3, none⟩ = some (.int .i64 f.hi) ∧ w'.cell? ⟨w.heap.size, 4, none⟩ = some (.int .i64 f.most)) ∧ (w'.cell? ⟨w.heap.size + 1, 0, none⟩ = some (.int .i64 v.n) ∧ w'.cell? ⟨w.heap.size + 1, 1, none⟩ = some (.string v.s)) ∧ Below w.heap.size w w' := by
  have h1 : Below (w.alloc (.cells #[.int .i64 f.id, .int .i64 f.kind, .int .i64 f.lo, .int .i64 f.hi, .int .i64 f.most] 26)).heap.size (w.alloc (.cells #[.int .i64 f.id, .int .i64 f.kind, .int .i64 f.lo, .int .i64 f.hi, .int .i64 f.most] 26)) w' := (newB _ _).trans (hb.mono (by unfold WV; simp))
  refine ⟨five f w w' h1, ?_, belowF f w w' h1⟩
  have h2 := two v (w.alloc (.cells #[.int .i64 f.id, .int .i64 f.kind, .int .i64 f.lo, .int .i64 f.hi, .int .i64 f.most] 26)) w' hb
  simpa using h2
theorem refHas_any (f : Fd) (v : Va) (w : World) : Calls Try.prog 59 #[.agg #[.int .i64 f.id, .int .i64 f.kind, .int .i64 f.lo, .int .i64 f.hi, .int .i64 f.most], .agg #[.int .i64 v.n, .string v.s]] w (Gives (.bool (decide (f.Has v))) w) := by
  have HW := hid (WV.all f v w)
  obtain ⟨V, hV⟩ : ∃ V, Hid (decide (f.Has v) = V) := ⟨_, rfl⟩
  rw [hV.out]
  unfold Gives
  by_cases h : f.Right
  · have cs := span_from f h (w0 := WV f v w) (Below.refl _ _)
    have HQ : Hid (f.Has v ↔ (v.n ≥ f.lo ∧ v.n ≤ f.great ∧ (v.s.size : Int) ≤ f.long)) := hid ⟨fun k => ⟨k.2.1.1, k.2.1.2, k.2.2⟩, fun k => ⟨h, ⟨k.1, k.2.1⟩, k.2.2⟩⟩
    unfold WV at cs HW
    clear h
    generalize f.great = G at *
    generalize f.long = L at *
    generalize hN : (v.s.size : Int) = N at *
    by_cases a1 : v.n ≥ f.lo
    · by_cases a2 : v.n ≤ G
      · by_cases a3 : N ≤ L
        · have HY : Hid (true = V) := hid (by rw [← hV.out]; symm; exact decide_eq_true (HQ.out.2 ⟨a1, a2, a3⟩))
          clear HQ hV
          go_enter Try.func59, Try.ntmps59
          go_wp2_with (go_at_call 89; (with_reducible refine cs.mono ?_); rintro e w1 ⟨rfl, hb1⟩; obtain ⟨hf1, hv1, hbw1⟩ := HW.out _ hb1; clear cs)
          go_ret
          exact ⟨ret_bool HY.out, hbw1⟩
        · have HY : Hid (false = V) := hid (by rw [← hV.out]; symm; exact decide_eq_false (fun k => a3 (HQ.out.1 k).2.2))
          have d3 : decide (N ≤ L) = false := decide_eq_false a3
          clear HQ hV a3
          go_enter Try.func59, Try.ntmps59
          go_wp2_with (go_at_call 89; (with_reducible refine cs.mono ?_); rintro e w1 ⟨rfl, hb1⟩; obtain ⟨hf1, hv1, hbw1⟩ := HW.out _ hb1; clear cs)
          go_ret
          exact ⟨ret_bool HY.out, hbw1⟩
      · have HY : Hid (false = V) := hid (by rw [← hV.out]; symm; exact decide_eq_false (fun k => a2 (HQ.out.1 k).2.1))
        have d3 : decide (v.n ≤ G) = false := decide_eq_false a2
        clear HQ hV a2
        go_enter Try.func59, Try.ntmps59
        go_wp2_with (go_at_call 89; (with_reducible refine cs.mono ?_); rintro e w1 ⟨rfl, hb1⟩; obtain ⟨hf1, hv1, hbw1⟩ := HW.out _ hb1; clear cs)
        go_ret
        exact ⟨ret_bool HY.out, hbw1⟩
    · have HY : Hid (false = V) := hid (by rw [← hV.out]; symm; exact decide_eq_false (fun k => a1 (HQ.out.1 k).1))
      have d3 : decide (v.n ≥ f.lo) = false := decide_eq_false a1
      clear HQ hV a1
      go_enter Try.func59, Try.ntmps59
      go_wp2_with (go_at_call 89; (with_reducible refine cs.mono ?_); rintro e w1 ⟨rfl, hb1⟩; obtain ⟨hf1, hv1, hbw1⟩ := HW.out _ hb1; clear cs)
      go_ret
      exact ⟨ret_bool HY.out, hbw1⟩
  · have cs := span_from_no f h (w0 := WV f v w) (Below.refl _ _)
    have HY : Hid (false = V) := hid (by rw [← hV.out]; symm; exact decide_eq_false (fun k => h k.1))
    unfold WV at cs HW
    clear h hV
    go_enter Try.func59, Try.ntmps59
    go_wp2_with (go_at_call 89; (with_reducible refine cs.mono ?_); rintro e w1 ⟨⟨a, b, c, rfl⟩, hb1⟩; obtain ⟨hf1, hv1, hbw1⟩ := HW.out _ hb1; clear cs)
    go_ret
    exact ⟨ret_bool HY.out, hbw1⟩
end Go.Proofs.Ytiajpjkkopdmgaa.field
/- A region walked by a schedule that the prover names: an operation whose guard does not hold is passed by; comparisons of ints. No condition. -/
namespace Go.Proofs.Ytiajpjkkopdmgaa.plan
open Go Go.RowKit

section
variable {P : Program} {md : Region.Mode} {Q : Exit → Act → World → Prop} {l : List Oper}
theorem Rest.skip {f : Nat} {listed : Array Bool} {a : Act} {w : World} (i : Nat) (o : Oper) (hi : l[i]? = some o) (hs : Region.noSelect l.toArray = true) (hf : Region.free md l.toArray listed i = true)
    (hr : (Region.ready md l.toArray listed).contains i = true) (hw : Region.wanted o (yielded l.toArray a.tmps) = false)
    (h : Rest P md l Q f (listed.setIfInBounds i true) (a.put o.dst undef) w) : Rest P md l Q (f + 1) listed a w :=
  wpAnyH_take (by simpa using hi) hs hf hr (fun c a' w' h => h) (.inr ⟨hw, rfl⟩) (Below.refl _ _) h
end
theorem eqg (t : TypeId) (x y : Operand) (k : IntKind) (n m : Int) (w : World) (P : Program) : (eqGuard .eql t x y (.int k n) (.int k m)).run P w = .ok () w := by simp [go_sem]
end Go.Proofs.Ytiajpjkkopdmgaa.plan
