/- Contracts and lemmas that the claims of this seat share: Four, Drift, RegionS, Stay, FieldPush, SchemaOpen, ValueOpen, FieldMath, PenMath, SchemaMath, FieldRight. Each says its own conditions. -/
import Derived.Test.YtiajpjkkopdmgaaCmC
import Derived.Test.YtiajpjkkopdmgaaCmA
import Derived.Maps.AppendAt
import Derived.Conc.WalkWords
import Derived.Deep.Slices
import Derived.Deep.Strs
import Derived.Lib.SmallJoins
import Derived.Lib.AppendStr
import Derived.Test.YtiajpjkkopdmgaaCmB

namespace Go.Proofs.Ytiajpjkkopdmgaa.plan
open Go Go.RowKit
set_option linter.unusedVariables false

theorem put_same (a : Act) (d : Nat) (u v : Value) : (a.put (some d) u).put (some d) v = a.put (some d) v := by
  simp [Act.put]
theorem put_comm (a : Act) (d e : Nat) (u v : Value) (h : d ≠ e) : (a.put (some d) u).put (some e) v = (a.put (some e) v).put (some d) u := by
  simp only [Act.put, Act.mk.injEq, and_true]
  exact Array.setIfInBounds_comm u v h
section
variable {P : Program} {md : Region.Mode} {Q : Exit → Act → World → Prop} {l : List Oper}

/-- each operation that may come up goes on -/
theorem every {S : World → Prop} {f : Nat} {listed : Array Bool} {a : Act} {w : World} (hne : Region.ready md l.toArray listed ≠ [])
    (h : ∀ i ∈ Region.ready md l.toArray listed, ∃ o, l[i]? = some o ∧ o.guard = none ∧
      ((∃ v w1, (execOp a.eval o).run P w = .ok (.value v) w1 ∧ S w1 ∧ wpAnyH P md l.toArray (NoPanic Q) S f (listed.setIfInBounds i true) (a.put o.dst v) w1) ∨
       (∃ F args, (execOp a.eval o).run P w = .ok (.enter F args) w ∧ Calls P F args w fun e w' => ∃ v, e = .returned v ∧ S w' ∧ wpAnyH P md l.toArray (NoPanic Q) S f (listed.setIfInBounds i true) (a.put o.dst v) w'))) :
    wpAnyH P md l.toArray (NoPanic Q) S (f + 1) listed a w := by
  refine wpAnyH_all rfl hne fun i hi => ?_
  obtain ⟨o, ho, hg, h⟩ := h i hi
  have hi' : l.toArray[i]? = some o := by simpa using ho
  have hw : Region.wanted o (yielded l.toArray a.tmps) = true := by unfold Region.wanted; rw [hg]
  unfold wpOp
  rcases h with ⟨v, w1, hv, hb, hR⟩ | ⟨F, args, hv, hc⟩
  · simp only [hi', hw, if_true, Oper.wp, hv, Oper.upon]
    exact .inl ⟨hb, hR⟩
  · simp only [hi', hw, if_true, Oper.wp, hv, Oper.upon]
    refine .inl (hc.mono ?_)
    rintro e w' ⟨v, rfl, hb, hR⟩
    exact ⟨hb, hR⟩

/-- a store of a row into a block of the call's own, the only operation that may come up -/
theorem store {f : Nat} {listed : Array Bool} {a : Act} {w0 w : World} (B i : Nat) (o : Oper) (ty : TypeId) (x y : Operand) (g : Nat) (t : TypeId) (cs : List Value) (cells : Array Value) (hi : l[i]? = some o) (hg : o.guard = none) (ho : o.op = .store ty x y) (hd : o.dst = none)
    (hr : Region.ready md l.toArray listed = [i]) (hx : a.eval x = .pointer (some ⟨g, 0, none⟩)) (hy : a.eval y = .agg cells) (hb : Block w g t cs) (hl : cs.length = cells.size) (hs : (P.info? ty).map (·.size) = some cells.size) (h1 : cells.all (·.oneCell') = true)
    (h0 : Below B w0 w) (hB : B ≤ g)
    (hS : ∀ w', Below B w0 w' → Block w' g t cells.toList → (∀ g' t' cs', g' ≠ g → Block w g' t' cs' → Block w' g' t' cs') → wpAnyH P md l.toArray (NoPanic Q) (Below B w0) f (listed.setIfInBounds i true) a w') :
    wpAnyH P md l.toArray (NoPanic Q) (Below B w0) (f + 1) listed a w := by
  refine wpAnyH_all hr (by simp) fun j hj => ?_
  obtain rfl : j = i := by simpa using hj
  have hi' : l.toArray[j]? = some o := by simpa using hi
  have hw : Region.wanted o (yielded l.toArray a.tmps) = true := by unfold Region.wanted; rw [hg]
  have hrun : (execOp a.eval o).run P w = .ok .skip (w.setCells g 0 cells.toList) := by
    unfold execOp
    simp [ho, hx, hy, run_storeAt_mid w g 0 ty cells (hb.there 0 cells.size (by omega)) hs h1]
  have hbl : Below B w0 (w.setCells g 0 cells.toList) := below_setCells h0 hB _ _
  unfold wpOp
  simp only [hi', hw, if_true, Oper.wp, hrun, Oper.upon]
  refine .inl ⟨hbl, ?_⟩
  rw [hd]
  refine hS _ hbl ?_ fun g' t' cs' hne h' => h'.aparts g 0 _ hne
  have := hb.setCells (vs := cells.toList) (o := 0)
  rwa [put_all _ _ (by simpa using hl)] at this

/-- the frame, with the two results and the two variables' addresses -/
def at4 (a0 : Act) (d2 d5 d6 d7 : Nat) (v2 v5 p6 p7 : Value) : Act := (((a0.put (some d2) v2).put (some d5) v5).put (some d6) p6).put (some d7) p7
/-- what is known when some of the four have come up -/
structure Inv4 (w0 : World) (t : TypeId) (Z : List Value) (V2 V5 : Value) (b2 b5 b6 b7 : Bool) (v2 v5 p6 p7 : Value) (w : World) : Prop where
  below : Below w0.heap.size w0 w
  c2 : b2 = true → v2 = V2
  c5 : b5 = true → v5 = V5
  a6 : b6 = true → ∃ g, p6 = .pointer (some ⟨g, 0, none⟩) ∧ w0.heap.size ≤ g ∧ Block w g t Z
  a7 : b7 = true → ∃ g, p7 = .pointer (some ⟨g, 0, none⟩) ∧ w0.heap.size ≤ g ∧ Block w g t Z
  ne : b6 = true → b7 = true → p6 ≠ p7
theorem Inv4.later {w0 w w' : World} {t : TypeId} {Z : List Value} {V2 V5 : Value} {b2 b5 b6 b7 : Bool} {v2 v5 p6 p7 : Value} (h : Inv4 w0 t Z V2 V5 b2 b5 b6 b7 v2 v5 p6 p7 w) (hb : Below w.heap.size w w') :
    Inv4 w0 t Z V2 V5 b2 b5 b6 b7 v2 v5 p6 p7 w' :=
  ⟨h.below.trans (hb.mono h.below.size), h.c2, h.c5, fun e => (h.a6 e).imp fun g ⟨h1, h2, h3⟩ => ⟨h1, h2, h3.later hb⟩, fun e => (h.a7 e).imp fun g ⟨h1, h2, h3⟩ => ⟨h1, h2, h3.later hb⟩, h.ne⟩

theorem four (a0 : Act) (w0 : World) (t : TypeId) (Z : List Value) (V2 V5 : Value) (d2 d5 d6 d7 : Nat) (o2 o5 o6 o7 : Oper) (F : FuncId) (x2 x5 : Array Value)
    (n25 : d2 ≠ d5) (n26 : d2 ≠ d6) (n27 : d2 ≠ d7) (n56 : d5 ≠ d6) (n57 : d5 ≠ d7) (n67 : d6 ≠ d7)
    (l2 : l[2]? = some o2) (l5 : l[5]? = some o5) (l6 : l[6]? = some o6) (l7 : l[7]? = some o7)
    (g2 : o2.guard = none) (g5 : o5.guard = none) (g6 : o6.guard = none) (g7 : o7.guard = none)
    (s2 : o2.dst = some d2) (s5 : o5.dst = some d5) (s6 : o6.dst = some d6) (s7 : o7.dst = some d7)
    (hready : ∀ b2 b5 b6 b7, (b5 = true → b2 = true) → (b2 && b5 && b6 && b7) = false →
      Region.ready md l.toArray #[true, true, b2, true, true, b5, b6, b7, false, false] = (if b2 = true then (if b5 = true then [] else [5]) else [2]) ++ ((if b6 = true then [] else [6]) ++ (if b7 = true then [] else [7])))
    (r2 : ∀ v2 v5 p6 p7 w, (execOp (at4 a0 d2 d5 d6 d7 v2 v5 p6 p7).eval o2).run P w = .ok (.enter F x2) w)
    (r5 : ∀ v2 v5 p6 p7 w, (execOp (at4 a0 d2 d5 d6 d7 v2 v5 p6 p7).eval o5).run P w = .ok (.enter F x5) w)
    (r6 : ∀ v2 v5 p6 p7 w, (execOp (at4 a0 d2 d5 d6 d7 v2 v5 p6 p7).eval o6).run P w = .ok (.value (.pointer (some ⟨w.heap.size, 0, none⟩))) (w.alloc (.cells Z.toArray t)))
    (r7 : ∀ v2 v5 p6 p7 w, (execOp (at4 a0 d2 d5 d6 d7 v2 v5 p6 p7).eval o7).run P w = .ok (.value (.pointer (some ⟨w.heap.size, 0, none⟩))) (w.alloc (.cells Z.toArray t)))
    (k2 : ∀ w, Calls P F x2 w fun e w' => e = .returned V2 ∧ Below w.heap.size w w') (k5 : ∀ w, Calls P F x5 w fun e w' => e = .returned V5 ∧ Below w.heap.size w w')
    (rest : ∀ g g' w', w0.heap.size ≤ g → w0.heap.size ≤ g' → g ≠ g' → Block w' g t Z → Block w' g' t Z → Below w0.heap.size w0 w' →
      wpAnyH P md l.toArray (NoPanic Q) (Below w0.heap.size w0) 2 #[true, true, true, true, true, true, true, true, false, false] (at4 a0 d2 d5 d6 d7 V2 V5 (.pointer (some ⟨g, 0, none⟩)) (.pointer (some ⟨g', 0, none⟩))) w') :
    ∀ (n : Nat) (b2 b5 b6 b7 : Bool) (v2 v5 p6 p7 : Value) (w : World), (b5 = true → b2 = true) → n = (if b2 = true then 0 else 1) + (if b5 = true then 0 else 1) + (if b6 = true then 0 else 1) + (if b7 = true then 0 else 1) →
      Inv4 w0 t Z V2 V5 b2 b5 b6 b7 v2 v5 p6 p7 w →
      wpAnyH P md l.toArray (NoPanic Q) (Below w0.heap.size w0) (n + 2) #[true, true, b2, true, true, b5, b6, b7, false, false] (at4 a0 d2 d5 d6 d7 v2 v5 p6 p7) w := by
  have e2 : ∀ v2 v5 p6 p7 v, (at4 a0 d2 d5 d6 d7 v2 v5 p6 p7).put (some d2) v = at4 a0 d2 d5 d6 d7 v v5 p6 p7 := by
    intro v2 v5 p6 p7 v
    unfold at4
    rw [put_comm _ d7 d2 _ _ n27.symm, put_comm _ d6 d2 _ _ n26.symm, put_comm _ d5 d2 _ _ n25.symm, put_same]
  have e5 : ∀ v2 v5 p6 p7 v, (at4 a0 d2 d5 d6 d7 v2 v5 p6 p7).put (some d5) v = at4 a0 d2 d5 d6 d7 v2 v p6 p7 := by
    intro v2 v5 p6 p7 v
    unfold at4
    rw [put_comm _ d7 d5 _ _ n57.symm, put_comm _ d6 d5 _ _ n56.symm, put_same]
  have e6 : ∀ v2 v5 p6 p7 v, (at4 a0 d2 d5 d6 d7 v2 v5 p6 p7).put (some d6) v = at4 a0 d2 d5 d6 d7 v2 v5 v p7 := by
    intro v2 v5 p6 p7 v
    unfold at4
    rw [put_comm _ d7 d6 _ _ n67.symm, put_same]
  have e7 : ∀ v2 v5 p6 p7 v, (at4 a0 d2 d5 d6 d7 v2 v5 p6 p7).put (some d7) v = at4 a0 d2 d5 d6 d7 v2 v5 p6 v := by
    intro v2 v5 p6 p7 v
    unfold at4
    rw [put_same]
  have hal : ∀ w : World, Below w.heap.size w (w.alloc (.cells Z.toArray t)) := fun w => (Below.refl _ w).alloc (Nat.le_refl _) _
  intro n
  induction n with
  | zero =>
    intro b2 b5 b6 b7 v2 v5 p6 p7 w h25 hn inv
    cases b2 <;> cases b5 <;> cases b6 <;> cases b7 <;> simp at hn
    obtain rfl := inv.c2 rfl
    obtain rfl := inv.c5 rfl
    obtain ⟨g, rfl, hg, hB⟩ := inv.a6 rfl
    obtain ⟨g', rfl, hg', hB'⟩ := inv.a7 rfl
    exact rest g g' w hg hg' (by rintro rfl; exact inv.ne rfl rfl rfl) hB hB' inv.below
  | succ n ih =>
    intro b2 b5 b6 b7 v2 v5 p6 p7 w h25 hn inv
    have hall : (b2 && b5 && b6 && b7) = false := by
      cases b2 <;> cases b5 <;> cases b6 <;> cases b7 <;> simp at hn ⊢
    have hr := hready b2 b5 b6 b7 h25 hall
    refine every ?_ ?_
    · rw [hr]
      cases b2 <;> cases b5 <;> cases b6 <;> cases b7 <;> simp at hall ⊢
    · rw [hr]
      intro i hi
      simp only [List.mem_append] at hi
      rcases hi with hi | hi | hi
      · cases b2 with
        | false =>
          obtain rfl : i = 2 := by simpa using hi
          obtain rfl : b5 = false := by cases b5 <;> simp at h25 ⊢
          refine ⟨o2, l2, g2, .inr ⟨F, x2, r2 _ _ _ _ _, (k2 w).mono ?_⟩⟩
          rintro e w' ⟨rfl, hb⟩
          refine ⟨V2, rfl, (inv.later hb).below, ?_⟩
          rw [s2, e2]
          have i' := inv.later hb
          exact ih true false b6 b7 V2 v5 p6 p7 w' (by simp) (by simp at hn ⊢; omega) ⟨i'.below, fun _ => rfl, i'.c5, i'.a6, i'.a7, i'.ne⟩
        | true =>
          cases b5 with
          | true => simp at hi
          | false =>
            obtain rfl : i = 5 := by simpa using hi
            refine ⟨o5, l5, g5, .inr ⟨F, x5, r5 _ _ _ _ _, (k5 w).mono ?_⟩⟩
            rintro e w' ⟨rfl, hb⟩
            refine ⟨V5, rfl, (inv.later hb).below, ?_⟩
            rw [s5, e5]
            have i' := inv.later hb
            exact ih true true b6 b7 v2 V5 p6 p7 w' (by simp) (by simp at hn ⊢; omega) ⟨i'.below, i'.c2, fun _ => rfl, i'.a6, i'.a7, i'.ne⟩
      · cases b6 with
        | true => simp at hi
        | false =>
          obtain rfl : i = 6 := by simpa using hi
          refine ⟨o6, l6, g6, .inl ⟨_, _, r6 _ _ _ _ _, (inv.later (hal w)).below, ?_⟩⟩
          rw [s6, e6]
          have i' := inv.later (hal w)
          refine ih b2 b5 true b7 v2 v5 _ p7 _ h25 (by simp at hn ⊢; omega) ⟨i'.below, i'.c2, i'.c5, fun _ => ⟨_, rfl, inv.below.size, Block.new w t Z⟩, i'.a7, fun _ e7 => ?_⟩
          obtain ⟨g, rfl, _, hB⟩ := inv.a7 e7
          have := hB.lt
          simp only [ne_eq, Value.pointer.injEq, Option.some.injEq, Addr.mk.injEq, and_true]
          omega
      · cases b7 with
        | true => simp at hi
        | false =>
          obtain rfl : i = 7 := by simpa using hi
          refine ⟨o7, l7, g7, .inl ⟨_, _, r7 _ _ _ _ _, (inv.later (hal w)).below, ?_⟩⟩
          rw [s7, e7]
          have i' := inv.later (hal w)
          refine ih b2 b5 b6 true v2 v5 p6 _ _ h25 (by simp at hn ⊢; omega) ⟨i'.below, i'.c2, i'.c5, i'.a6, fun _ => ⟨_, rfl, inv.below.size, Block.new w t Z⟩, fun e6 _ => ?_⟩
          obtain ⟨g, rfl, _, hB⟩ := inv.a6 e6
          have := hB.lt
          simp only [ne_eq, Value.pointer.injEq, Option.some.injEq, Addr.mk.injEq, and_true]
          omega
end
end Go.Proofs.Ytiajpjkkopdmgaa.plan

namespace Go.Proofs.Ytiajpjkkopdmgaa.plan
open Go Go.RowKit
set_option linter.unusedVariables false

section
variable {P : Program} {md : Region.Mode} {Q : Exit → Act → World → Prop} {l : List Oper}

/-- the only operation that may come up yields a value -/
theorem oneS {S : World → Prop} {f : Nat} {listed : Array Bool} {a : Act} {w w1 : World} (i : Nat) (o : Oper) (v : Value) (hi : l[i]? = some o) (hg : o.guard = none) (hr : Region.ready md l.toArray listed = [i])
    (hv : (execOp a.eval o).run P w = .ok (.value v) w1) (hS : S w1) (h : wpAnyH P md l.toArray (NoPanic Q) S f (listed.setIfInBounds i true) (a.put o.dst v) w1) : wpAnyH P md l.toArray (NoPanic Q) S (f + 1) listed a w := by
  refine every (by rw [hr]; simp) fun j hj => ?_
  rw [hr] at hj
  obtain rfl : j = i := by simpa using hj
  exact ⟨o, hi, hg, .inl ⟨v, w1, hv, hS, h⟩⟩
theorem doneS {S : World → Prop} {listed : Array Bool} {a : Act} {w : World} (hr : Region.ready md l.toArray listed = []) (h : Q .normal a w) : wpAnyH P md l.toArray (NoPanic Q) S 0 listed a w := ⟨hr, NoPanic.normal h⟩

end
end Go.Proofs.Ytiajpjkkopdmgaa.plan

namespace Go.Proofs.Ytiajpjkkopdmgaa.plan
open Go Go.RowKit
set_option linter.unusedVariables false
section
variable {P : Program} {md : Region.Mode} {Q : Exit → Act → World → Prop} {l : List Oper}
/-- an operation that yields its value in every world that meets S is taken first -/
theorem firstS {S : World → Prop} {f : Nat} {listed : Array Bool} {a : Act} {w : World} (i : Nat) (o : Oper) (v : Value) (hi : l[i]? = some o) (hs : Region.noSelect l.toArray = true) (hf : Region.free md l.toArray listed i = true)
    (hr : (Region.ready md l.toArray listed).contains i = true) (hw : Region.wanted o (yielded l.toArray a.tmps) = true) (hv : ∀ w', S w' → (execOp a.eval o).run P w' = .ok (.value v) w') (hS : S w)
    (h : wpAnyH P md l.toArray (NoPanic Q) S f (listed.setIfInBounds i true) (a.put o.dst v) w) : wpAnyH P md l.toArray (NoPanic Q) S (f + 1) listed a w :=
  wpAnyH_take (by simpa using hi) hs hf hr (fun c a' w' h => h) (.inl ⟨hw, hv⟩) hS h
/-- a call, the only operation that may come up -/
theorem callS {S : World → Prop} {f : Nat} {listed : Array Bool} {a : Act} {w : World} (i : Nat) (o : Oper) (F : FuncId) (args : Array Value) (hi : l[i]? = some o) (hr : Region.ready md l.toArray listed = [i])
    (hw : Region.wanted o (yielded l.toArray a.tmps) = true) (hv : (execOp a.eval o).run P w = .ok (.enter F args) w)
    (h : Calls P F args w fun e w' => ∃ v, e = .returned v ∧ S w' ∧ wpAnyH P md l.toArray (NoPanic Q) S f (listed.setIfInBounds i true) (a.put o.dst v) w') : wpAnyH P md l.toArray (NoPanic Q) S (f + 1) listed a w := by
  refine wpAnyH_all hr (by simp) fun j hj => ?_
  obtain rfl : j = i := by simpa using hj
  have hi' : l.toArray[j]? = some o := by simpa using hi
  unfold wpOp
  simp only [hi', hw, if_true, Oper.wp, hv, Oper.upon]
  refine .inl (h.mono ?_)
  rintro e w' ⟨v, rfl, hS, hR⟩
  exact ⟨hS, hR⟩
theorem regionS {S : World → Prop} {id : Nat} {a : Act} {w : World} (hmx : P.follows .mixedOrders = true) (h : wpAnyH P .any l.toArray (NoPanic Q) S l.length (Array.replicate l.length false) a w.drew) : (Code.region id l.toArray true).wp P Q a w := by
  refine wp_region_noPanic (wp_region_held (S := S) hmx ?_)
  have e : l.toArray.size = l.length := by simp
  rw [e]
  exact h
end
end Go.Proofs.Ytiajpjkkopdmgaa.plan

namespace Go.Proofs.Ytiajpjkkopdmgaa.schema
open Go.RowKit
set_option linter.unusedVariables false

/-- every block of type e stays -/
def StayT (e : TypeId) (w w' : World) : Prop := ∀ (k : Nat) (cs : Array Value) (fr : Nat × Nat), w.heap[k]? = some (Obj.cells cs e fr) → w'.heap[k]? = some (Obj.cells cs e fr)
theorem StayT.trans {e : TypeId} {a b c : World} (h : StayT e a b) (k : StayT e b c) : StayT e a c := fun i cs fr hi => k i cs fr (h i cs fr hi)
theorem stay_grown (e : TypeId) {B e2 sz n : Nat} {u : Value} {xs : List Value} {w w' : World} (ho : w.ownsRow B e2 sz u n xs) (hg : w.grownBy w' u.ownBlock) (ht : e2 ≠ e) : StayT e w w' := by
  intro k cs fr hk
  refine (hg.block k (Array.getElem?_eq_some_iff.1 hk).1 ?_).trans hk
  intro he
  rcases ho.2 with ⟨hv, _⟩ | ⟨g, cap, cur, hv, _, hh, _⟩
  · rw [hv] at he; simp [Value.ownBlock] at he
  · rw [hv] at he
    simp [Value.ownBlock] at he
    subst he
    rw [hh] at hk
    exact ht (Obj.cells.inj (Option.some.inj hk)).2.1
theorem stay_store (e : TypeId) {g : Nat} {t : TypeId} {cs : List Value} {w : World} (hB : Block w g t cs) (ht : t ≠ e) (o : Nat) (v : Value) : StayT e w (w.setCell ⟨g, o, none⟩ v) := by
  intro k cs' fr hk
  refine (Below.heap_setCell w ⟨g, o, none⟩ v k ?_).trans hk
  rintro rfl
  unfold Block at hB
  rw [hB] at hk
  exact ht (Obj.cells.inj (Option.some.inj hk)).2.1
theorem StayT.block {w w' : World} {k : Nat} {e : TypeId} {cs : List Value} (h : StayT e w w') (hB : Block w k e cs) : Block w' k e cs := h k _ _ hB
theorem StayT.row {w w' : World} {B e sz n : Nat} {v : Value} {xs : List Value} (h : StayT e w w') (ho : w.ownsRow B e sz v n xs) : w'.ownsRow B e sz v n xs := by
  refine ⟨ho.1, ?_⟩
  rcases ho.2 with h0 | ⟨g, cap, cur, hv, h1, hg, h2⟩
  · exact .inl h0
  · exact .inr ⟨g, cap, cur, hv, h1, h g _ _ hg, h2⟩
theorem own_cap {w : World} {base n sz : Nat} {a : Option Addr} {cap : Nat} {xs : List Value} {e : TypeId} (h : w.ownsRow base e sz (.slice a n cap) n xs) : n ≤ cap ∧ cap ≤ maxLen := by
  rcases h.2 with ⟨hv, h0⟩ | ⟨b, cap', cur, hv, _, hg, h1, h2, _⟩
  · cases hv; exact ⟨by omega, by unfold maxLen; omega⟩
  · cases hv; exact ⟨h1, h2⟩
theorem exec_cell_slice' {o : Oper} {a : Act} {w : World} {ty : TypeId} {x : Operand} {ad : Addr} {q : Option Addr} {n c : Nat} (ho : o.op = .load ty x) (hx : a.eval x = .pointer (some ad)) (hc : w.cell? ad = some (.slice q n c)) (hu : ∀ w', (isAgg ty).run Try.prog w' = .ok false w') :
    (execOp a.eval o).run Try.prog w = .ok (.value (.slice q n c)) w := by
  unfold execOp
  rw [ho]
  simp only [hx]
  go_simp
end Go.Proofs.Ytiajpjkkopdmgaa.schema
namespace Go.Proofs.Ytiajpjkkopdmgaa.plan
open Go Go.RowKit
/-- the only operation that may come up is a store, the last -/
theorem lastS {P : Program} {md : Region.Mode} {Q : Exit → Act → World → Prop} {l : List Oper} {S : World → Prop} {listed : Array Bool} {a : Act} {w w1 : World} (i : Nat) (o : Oper) (hi : l[i]? = some o) (hg : o.guard = none) (hd : o.dst = none) (hr : Region.ready md l.toArray listed = [i]) (hr2 : Region.ready md l.toArray (listed.setIfInBounds i true) = [])
    (hv : (execOp a.eval o).run P w = .ok .skip w1) (hS : S w1) (h : Q .normal a w1) : wpAnyH P md l.toArray (NoPanic Q) S 1 listed a w := by
  refine wpAnyH_all hr (by simp) fun j hj => ?_
  obtain rfl : j = i := by simpa using hj
  have hi' : l.toArray[j]? = some o := by simpa using hi
  have hw : Region.wanted o (yielded l.toArray a.tmps) = true := by unfold Region.wanted; rw [hg]
  unfold wpOp
  have e : a.put o.dst undef = a := by rw [hd]; rfl
  simp only [hi', hw, if_true, Oper.wp, hv, Oper.upon]
  exact .inl ⟨hS, hr2, NoPanic.normal (by rw [e]; exact h)⟩
end Go.Proofs.Ytiajpjkkopdmgaa.plan

namespace Go.Proofs.Ytiajpjkkopdmgaa.schema
open Go.RowKit
set_option linter.unusedVariables false

theorem exec_put_fd {o : Oper} {a : Act} {w : World} {x y : Operand} {ad : Addr} {v : Value} {p : Option Addr} {n c : Nat} (ho : o.op = .store 30 x y) (hx : a.eval x = .pointer (some ad)) (hy : a.eval y = .slice p n c) (hc : w.cell? ad = some v) (hf : w.frozen? ad = false) : (execOp a.eval o).run Try.prog w = .ok .skip (w.setCell ad (.slice p n c)) := by
  unfold execOp
  rw [ho]
  simp only [hx, hy]
  go_simp
end Go.Proofs.Ytiajpjkkopdmgaa.schema

namespace Go.Proofs.Ytiajpjkkopdmgaa.schema
open Go.ChangeShapes Go.WideShapes Go.ChangeAt Go.RowKit Go.Deep
set_option linter.unusedVariables false

structure Sc where
  (ver : Int) (f : Option Addr) (fCap : Nat) (fL : List Fm)
instance : Inhabited Sc := ⟨⟨0, none, 0, []⟩⟩
def Sc.val (p : Sc) : Value := .agg #[.int .i64 p.ver, .slice p.f p.fL.length p.fCap]
structure Sc.Good (W : World) (p : Sc) : Prop where
  unit : True
  bver : -9223372036854775808 ≤ p.ver ∧ p.ver ≤ 9223372036854775807
  rf : Fms W p.f p.fL
  mf : ∀ y ∈ p.fL, y.Good W
  cf : p.fL.length ≤ p.fCap
  df : p.fCap ≤ maxLen
theorem Sc.Good.below {W W' : World} {p : Sc} (h : p.Good W) (hb : Below W.heap.size W W') : p.Good W' := ⟨h.unit, h.bver, h.rf.below hb, fun y hy => (h.mf y hy).below hb, h.cf, h.df⟩
section
variable {H : Type} {enc : TypeId × Value → H} {P : Program} {W : World}
theorem Sc_cells {t0 t1 : TypeId} {n : Nat} {v0 v1 : Value} {y0 y1 : DataW H × List MemPlace} (u0 : P.underlying t0 = some (.int .i64)) (u1 : FmRow P t1)
    (h0 : DataW.trod enc P W 0 (fun _ => true) true n t0 [v0] = some y0) (h1 : DataW.trod enc P W 0 (fun _ => true) true n t1 [v1] = some y1) :
    ∃ p : Sc, p.Good W ∧ v0 = .int .i64 p.ver ∧ v1 = .slice p.f p.fL.length p.fCap := by
  obtain ⟨x0, e0, _, w0⟩ := DataW.trod_int u0 h0
  have a0 := wf_i64 _ w0
  obtain ⟨q1, c1, M1, rfl, hr1, hM1, hl1, hc1⟩ := open_FmRow u1 h1
  exact ⟨⟨x0, q1, c1, M1⟩, ⟨trivial, a0, hr1, hM1, hl1, hc1⟩, by simpa using e0, rfl⟩
theorem open_Sc_arg {r : Reach} {b0 : Nat} {t : TypeId} {f0 f1 : Field} {v : Value} {d : DataW H} {pl : List MemPlace} (hs : P.underlying t = some (.struct #[f0, f1])) (hone : oneCellFields P #[f0, f1] = true) (hC : P.cellsOf t = 2)
    (u0 : P.underlying f0.type = some (.int .i64)) (u1 : FmRow P f1.type)
    (hv : Value.okWide P W r b0 t v) (h : DataW.Trod enc P W 0 (fun _ => true) true t v d pl) : ∃ p : Sc, p.Good W ∧ v = p.val := by
  obtain ⟨cs, rfl, hsz⟩ := okWide_struct hs hv
  obtain ⟨fuel, hf⟩ := h
  rw [hC] at hsz
  obtain ⟨l⟩ := cs
  match l, hsz with
  | [c0, c1], _ =>
    obtain ⟨ys, m, _, _, hl, hlen, hx⟩ := DataW.trod_struct hs hf
    have each : ∀ (i : Nat) (f : Field) (c : Value), #[f0, f1][i]? = some f → [c0, c1][i]? = some c → ∃ y, DataW.trod enc P W 0 (fun _ => true) true m f.type [c] = some y := by
      intro i f c hi hc
      obtain ⟨o, k⟩ := hone_of hone i f hi
      have hi6 : i < 2 := by have := (Array.getElem?_eq_some_iff.1 hi).1; simpa using this
      have h1 := hx i f hi
      rw [o, k] at h1
      have e : (((Value.agg ⟨[c0, c1]⟩).cells.toList.drop i).take 1) = [c] := by
        rw [List.take_one]
        have : ((Value.agg ⟨[c0, c1]⟩).cells.toList.drop i).head? = some c := by
          rw [List.head?_drop]; simpa [Value.cells] using hc
        rw [this]; rfl
      rw [e] at h1
      have hy : ys[i]? = some (ys[i]'(by rw [hlen]; exact hi6)) := List.getElem?_eq_getElem _
      exact ⟨_, h1.trans hy⟩
    obtain ⟨y0, g0⟩ := each 0 f0 c0 rfl rfl
    obtain ⟨y1, g1⟩ := each 1 f1 c1 rfl rfl
    obtain ⟨p, hp, rfl, rfl⟩ := Sc_cells u0 u1 g0 g1
    exact ⟨p, hp, rfl⟩
/-- the slice at a reads as the list l -/
def Scs (w : World) (a : Option Addr) (l : List Sc) : Prop :=
  l = [] ∨ ∃ b off, a = some ⟨b, off, none⟩ ∧ b < w.heap.size ∧ ∀ i p, l[i]? = some p → w.cell? ⟨b, off + i * 2, none⟩ = some (.int .i64 p.ver) ∧ w.cell? ⟨b, off + i * 2 + 1, none⟩ = some (.slice p.f p.fL.length p.fCap)
end
theorem Scs.below {w w' : World} {a : Option Addr} {l : List Sc} (h : Scs w a l) (hb : Below w.heap.size w w') : Scs w' a l := by
  rcases h with h | ⟨b, off, ha, hlt, hc⟩
  · exact .inl h
  · refine .inr ⟨b, off, ha, Nat.lt_of_lt_of_le hlt hb.size, fun i p hp => ?_⟩
    rw [hb.cell (p := ⟨b, off + i * 2, none⟩) hlt, hb.cell (p := ⟨b, off + i * 2 + 1, none⟩) hlt]
    exact hc i p hp
theorem Scs.at {w : World} {a : Option Addr} {l : List Sc} (h : Scs w a l) {i : Nat} (hi : i < l.length) :
    ∃ b off p, a = some ⟨b, off, none⟩ ∧ b < w.heap.size ∧ l[i]? = some p ∧ w.cell? ⟨b, off + i * 2, none⟩ = some (.int .i64 p.ver) ∧ w.cell? ⟨b, off + i * 2 + 1, none⟩ = some (.slice p.f p.fL.length p.fCap) := by
  rcases h with rfl | ⟨b, off, ha, hlt, hc⟩
  · simp at hi
  · have hp := List.getElem?_eq_getElem hi
    exact ⟨b, off, _, ha, hlt, hp, hc i _ hp⟩
end Go.Proofs.Ytiajpjkkopdmgaa.schema

namespace Go.Proofs.Ytiajpjkkopdmgaa.field
open Go.ChangeShapes Go.WideShapes Go.ChangeAt Go.RowKit Go.Deep
set_option linter.unusedVariables false

structure Va where
  (n : Int) (s : ByteArray)
instance : Inhabited Va := ⟨⟨0, ⟨#[]⟩⟩⟩
structure Va.Good (W : World) (p : Va) : Prop where
  unit : True
  bn : -9223372036854775808 ≤ p.n ∧ p.n ≤ 9223372036854775807
theorem Va.Good.below {W W' : World} {p : Va} (h : p.Good W) (hb : Below W.heap.size W W') : p.Good W' := ⟨h.unit, h.bn⟩
section
variable {H : Type} {enc : TypeId × Value → H} {P : Program} {W : World}
theorem Va_cells {t0 t1 : TypeId} {n : Nat} {v0 v1 : Value} {y0 y1 : DataW H × List MemPlace} (u0 : P.underlying t0 = some (.int .i64)) (u1 : P.underlying t1 = some .string)
    (h0 : DataW.trod enc P W 0 (fun _ => true) true n t0 [v0] = some y0) (h1 : DataW.trod enc P W 0 (fun _ => true) true n t1 [v1] = some y1) :
    ∃ p : Va, p.Good W ∧ v0 = .int .i64 p.n ∧ v1 = .string p.s := by
  obtain ⟨x0, e0, _, w0⟩ := DataW.trod_int u0 h0
  have a0 := wf_i64 _ w0
  obtain ⟨x1, e1, _⟩ := DataW.trod_string u1 h1
  exact ⟨⟨x0, x1⟩, ⟨trivial, a0⟩, by simpa using e0, by simpa using e1⟩
/-- the slice at a reads as the list l -/
def Vas (w : World) (a : Option Addr) (l : List Va) : Prop :=
  l = [] ∨ ∃ b off, a = some ⟨b, off, none⟩ ∧ b < w.heap.size ∧ ∀ i p, l[i]? = some p → w.cell? ⟨b, off + i * 2, none⟩ = some (.int .i64 p.n) ∧ w.cell? ⟨b, off + i * 2 + 1, none⟩ = some (.string p.s)
end
theorem Vas.below {w w' : World} {a : Option Addr} {l : List Va} (h : Vas w a l) (hb : Below w.heap.size w w') : Vas w' a l := by
  rcases h with h | ⟨b, off, ha, hlt, hc⟩
  · exact .inl h
  · refine .inr ⟨b, off, ha, Nat.lt_of_lt_of_le hlt hb.size, fun i p hp => ?_⟩
    rw [hb.cell (p := ⟨b, off + i * 2, none⟩) hlt, hb.cell (p := ⟨b, off + i * 2 + 1, none⟩) hlt]
    exact hc i p hp
theorem Vas.at {w : World} {a : Option Addr} {l : List Va} (h : Vas w a l) {i : Nat} (hi : i < l.length) :
    ∃ b off p, a = some ⟨b, off, none⟩ ∧ b < w.heap.size ∧ l[i]? = some p ∧ w.cell? ⟨b, off + i * 2, none⟩ = some (.int .i64 p.n) ∧ w.cell? ⟨b, off + i * 2 + 1, none⟩ = some (.string p.s) := by
  rcases h with rfl | ⟨b, off, ha, hlt, hc⟩
  · simp at hi
  · have hp := List.getElem?_eq_getElem hi
    exact ⟨b, off, _, ha, hlt, hp, hc i _ hp⟩
end Go.Proofs.Ytiajpjkkopdmgaa.field

namespace Go.Proofs.Ytiajpjkkopdmgaa.field
open Go.RowKit
set_option linter.unusedVariables false

def Fd.Right (f : Fd) : Prop :=
  (0 ≤ f.id ∧ f.id ≤ 255) ∧ ((f.kind = 1 ∧ f.lo ≤ f.hi ∧ -1099511627776 ≤ f.lo ∧ f.hi ≤ 1099511627776 ∧ f.most = 0) ∨ (f.kind = 2 ∧ (f.lo = 0 ∧ f.hi = 0) ∧ f.most = 0) ∨
    (f.kind = 3 ∧ (f.lo = 0 ∧ f.hi = 0) ∧ 1 ≤ f.most ∧ f.most ≤ 1000) ∨ (f.kind = 4 ∧ (f.lo = 0 ∧ f.hi = 0) ∧ 0 ≤ f.most ∧ f.most ≤ 32))
instance (f : Fd) : Decidable f.Right := by unfold Fd.Right; infer_instance
/-- the greatest number, and the length of the longest text -/
def Fd.great (f : Fd) : Int := if f.kind = 1 then f.hi else if f.kind = 2 then 1 else if f.kind = 3 then f.most - 1 else 0
def Fd.long (f : Fd) : Int := if f.kind = 4 then f.most else 0
def Fd.Has (f : Fd) (v : Va) : Prop := f.Right ∧ (f.lo ≤ v.n ∧ v.n ≤ f.great) ∧ (v.s.size : Int) ≤ f.long
instance (f : Fd) (v : Va) : Decidable (f.Has v) := by unfold Fd.Has; infer_instance
def Fd.Wider (f g : Fd) : Prop := f.Right ∧ g.Right ∧ f.kind = g.kind ∧ g.lo ≤ f.lo ∧ f.hi ≤ g.hi ∧ f.most ≤ g.most
instance (f g : Fd) : Decidable (f.Wider g) := by unfold Fd.Wider; infer_instance

/-- how many bytes hold numbers up to n -/
def wide (n : Nat) : Nat := if n = 0 then 0 else if n < 256 then 1 else if n < 65536 then 2 else if n < 16777216 then 3 else if n < 4294967296 then 4 else if n < 1099511627776 then 5 else 6
theorem wide_le (n : Nat) : wide n ≤ 6 := by
  unfold wide
  repeat' split
  all_goals omega
theorem wide_div {n : Nat} (h : 0 < n) (hn : n < 281474976710656) : wide n = wide (n / 256) + 1 := by
  unfold wide
  repeat' split
  all_goals omega
def Fd.size (f : Fd) : Nat := if f.Right then (if f.kind = 4 then 1 + f.most.toNat else wide (f.great - f.lo).toNat) else 0
theorem Fd.size_le (f : Fd) : f.size ≤ 33 := by
  unfold Fd.size
  split
  · rename_i h
    unfold Fd.Right at h
    have := wide_le (f.great - f.lo).toNat
    split <;> omega
  · omega

/-- the number that bytes are -/
def num (xs : List Nat) : Nat := xs.foldl (fun a x => 256 * a + x) 0
/-- what Take answers: the number and the bytes of the text, how many bytes it took, the error -/
structure Tk where
  (n : Int) (s : List Nat) (c : Nat) (e : Int)
def Fd.take (f : Fd) (xs : List Nat) : Tk :=
  if ¬ f.Right then ⟨0, [], 0, 2⟩ else if f.kind = 4 then
    (if xs.length < 1 then ⟨0, [], 0, 5⟩ else if f.most < (xs.getD 0 0 : Nat) then ⟨0, [], 0, 16⟩ else if xs.length < 1 + xs.getD 0 0 then ⟨0, [], 0, 5⟩ else ⟨0, (xs.drop 1).take (xs.getD 0 0), 1 + xs.getD 0 0, 0⟩)
  else if xs.length < f.size then ⟨0, [], 0, 5⟩ else if f.great - f.lo < (num (xs.take f.size) : Nat) then ⟨0, [], 0, 16⟩ else ⟨f.lo + (num (xs.take f.size) : Nat), [], f.size, 0⟩

theorem Fd.Right.span {f : Fd} (h : f.Right) : f.lo ≤ f.great ∧ f.great - f.lo ≤ 2199023255552 ∧ -1099511627776 ≤ f.lo ∧ f.lo ≤ 1099511627776 ∧ 0 ≤ f.long ∧ f.long ≤ 32 := by
  unfold Fd.Right at h
  unfold Fd.great Fd.long
  obtain ⟨_, h⟩ := h
  rcases h with h | h | h | h <;> obtain ⟨h1, h2⟩ := h <;> rw [h1] <;> simp <;> omega
theorem Fd.Wider.has {f g : Fd} {v : Va} (h : f.Wider g) (hv : f.Has v) : g.Has v := by
  obtain ⟨h1, h2, h3, h4, h5, h6⟩ := h
  obtain ⟨_, ⟨h7, h8⟩, h9⟩ := hv
  refine ⟨h2, ⟨by omega, ?_⟩, ?_⟩
  · unfold Fd.great at h8 ⊢
    rw [← h3]
    split <;> rename_i hk
    · simp [hk] at h8; omega
    · simp only [hk, if_false] at h8
      split <;> rename_i hk2
      · simp [hk2] at h8; omega
      · simp only [hk2, if_false] at h8
        split <;> rename_i hk3
        · simp [hk3] at h8; omega
        · simp only [hk3, if_false] at h8; omega
  · unfold Fd.long at h9 ⊢
    rw [← h3]
    split <;> rename_i hk
    · simp [hk] at h9; omega
    · simp only [hk, if_false] at h9; omega
end Go.Proofs.Ytiajpjkkopdmgaa.field

namespace Go.Proofs.Ytiajpjkkopdmgaa.pen
set_option linter.unusedVariables false

/-- the bytes of a count -/
def vb (x : Nat) : List Nat := if h : x < 128 then [x] else (128 + x % 128) :: vb (x / 128)
  termination_by x
  decreasing_by omega
/-- the value of the groups, how many bytes, and the error: 4 another form, 5 it ends -/
def grp : Nat → Nat → List Nat → Nat × Nat × Nat
  | _, _, [] => (0, 0, 5)
  | i, u, c :: r => if i = 9 ∧ 1 < c then (0, 0, 4) else if 0 < i ∧ c = 0 then (0, 0, 4) else if c < 128 then (u + c * 128 ^ i, i + 1, 0) else grp (i + 1) (u + (c - 128) * 128 ^ i) r
/-- the number of a number with its sign, and back -/
def zig (n : Int) : Nat := if n < 0 then (2 * (-n - 1) + 1).toNat else (2 * n).toNat
def unzig (u : Nat) : Int := if u % 2 = 1 then -((u / 2 : Nat) : Int) - 1 else ((u / 2 : Nat) : Int)
/-- the bytes of a word -/
def wb (x : Nat) : List Nat := [x / 16777216, x / 65536 % 256, x / 256 % 256, x % 256]
/-- the bytes of a string, as numbers -/
def nums (s : List UInt8) : List Nat := s.map UInt8.toNat
/-- a piece: kind, number, text -/
abbrev Piece := Int × Int × List UInt8
/-- what the document writes for a piece -/
def enc (p : Piece) : List Nat :=
  if p.1 = 0 then [(p.2.1 % 256).toNat] else if p.1 = 1 then (if p.2.1 < 0 then [] else vb p.2.1.toNat) else if p.1 = 2 then vb (zig p.2.1) else if p.1 = 3 then wb (p.2.1 % 4294967296).toNat
  else vb p.2.2.length ++ nums p.2.2
abbrev Sight := List Nat × Nat
def eNext (n : Nat) (s : Sight) : List Nat × Sight := if s.2 ≠ 0 then ([], s) else if s.1.length < n then ([], (s.1, 5)) else (s.1.take n, (s.1.drop n, 0))
def eVar (fits most : Nat) (s : Sight) : Nat × Sight :=
  if s.2 ≠ 0 then (0, s) else if (grp 0 0 s.1).2.2 ≠ 0 then (0, (s.1, (grp 0 0 s.1).2.2)) else if fits < (grp 0 0 s.1).1 then (0, (s.1, 4)) else if most < (grp 0 0 s.1).1 then (0, (s.1, 7))
  else ((grp 0 0 s.1).1, (s.1.drop (grp 0 0 s.1).2.1, 0))
def eCount (most : Int) (s : Sight) : Nat × Sight := eVar 9223372036854775807 (max most 0).toNat s
def eInt (s : Sight) : Int × Sight := (unzig (eVar 18446744073709551615 18446744073709551615 s).1, (eVar 18446744073709551615 18446744073709551615 s).2)
def eText (most : Int) (s : Sight) : List Nat × Sight :=
  ((eNext (eCount most s).1 (eCount most s).2).1, if (eNext (eCount most s).1 (eCount most s).2).2.2 ≠ 0 then (s.1, (eNext (eCount most s).1 (eCount most s).2).2.2) else (eNext (eCount most s).1 (eCount most s).2).2)
end Go.Proofs.Ytiajpjkkopdmgaa.pen

namespace Go.Proofs.Ytiajpjkkopdmgaa.schema
open Go.RowKit Go.Proofs.Ytiajpjkkopdmgaa.pen
set_option linter.unusedVariables false

instance : DecidableEq field.Fd := fun a b =>
  if h : a.id = b.id ∧ a.kind = b.kind ∧ a.lo = b.lo ∧ a.hi = b.hi ∧ a.most = b.most then isTrue (by cases a; cases b; simp_all) else isFalse (by rintro rfl; simp at h)
abbrev Form := Int × List field.Fd
def Fm.p (f : Fm) : Form := (f.id, f.fL)
def forms (F : List Fm) : List Form := F.map Fm.p
theorem forms_length (F : List Fm) : (forms F).length = F.length := List.length_map _
theorem forms_at {F : List Fm} {i : Nat} {p : Fm} (h : F[i]? = some p) : (forms F)[i]? = some p.p := by simp [forms, h]
def size (L : List field.Fd) : Nat := (L.map field.Fd.size).sum
def ids (L : List field.Fd) : List Int := L.map field.Fd.id
def FineF (L : List field.Fd) : Prop := (∀ f ∈ L, f.Right) ∧ (ids L).Nodup
instance (L : List field.Fd) : Decidable (FineF L) := by unfold FineF; infer_instance
def Fine (p : Form) : Prop := (0 ≤ p.1 ∧ p.1 ≤ 200) ∧ (1 ≤ p.2.length ∧ p.2.length ≤ 8) ∧ FineF p.2 ∧ size p.2 ≤ 64
instance (p : Form) : Decidable (Fine p) := by unfold Fine; infer_instance
def FineS (F : List Form) : Prop := (∀ p ∈ F, Fine p) ∧ (F.map (·.1)).Pairwise (· < ·)
instance (F : List Form) : Decidable (FineS F) := by unfold FineS; infer_instance
def Right (v : Int) (F : List Form) : Prop := (1 ≤ v ∧ v ≤ 65535) ∧ F.length ≤ 8 ∧ FineS F
instance (v : Int) (F : List Form) : Decidable (Right v F) := by unfold Right; infer_instance

theorem fd_size_le (f : field.Fd) : f.size ≤ 33 := by
  have := @field.wide_le
  unfold field.Fd.size
  split
  · rename_i h
    split
    · unfold field.Fd.Right at h; omega
    · exact Nat.le_trans (this _) (by omega)
  · omega
theorem size_le (L : List field.Fd) : size L ≤ 33 * L.length := by
  induction L with
  | nil => simp [size]
  | cons f L ih =>
    have := fd_size_le f
    simp only [size, List.map_cons, List.sum_cons, List.length_cons] at ih ⊢
    omega
theorem take_succ_at {α : Type} {L : List α} {k : Nat} {x : α} (h : L[k]? = some x) : L.take (k + 1) = L.take k ++ [x] := by
  rw [List.take_add_one, h]; rfl
theorem size_succ {L : List field.Fd} {k : Nat} {x : field.Fd} (h : L[k]? = some x) : size (L.take (k + 1)) = size (L.take k) + x.size := by
  rw [take_succ_at h]; simp [size]
theorem size_take (L : List field.Fd) (k : Nat) : size (L.take k) ≤ 33 * k := by
  have := size_le (L.take k)
  simp at this
  omega
/-- the fields, one by one -/
theorem FineF.nil : FineF [] := ⟨by simp, by simp [ids]⟩
theorem fineF_succ {L : List field.Fd} {k : Nat} {x : field.Fd} (h : L[k]? = some x) : FineF (L.take (k + 1)) ↔ FineF (L.take k) ∧ x.Right ∧ x.id ∉ ids (L.take k) := by
  rw [take_succ_at h]
  unfold FineF ids
  simp only [List.map_append, List.map_cons, List.map_nil, List.nodup_append, List.mem_append, List.mem_singleton]
  constructor
  · rintro ⟨h1, h2, h3, h4⟩
    refine ⟨⟨fun f hf => h1 f (.inl hf), h2⟩, h1 x (.inr rfl), fun hm => h4 _ hm _ rfl rfl⟩
  · rintro ⟨⟨h1, h2⟩, h3, h4⟩
    refine ⟨fun f hf => hf.elim (h1 f) (fun e => e ▸ h3), h2, by simp, fun a ha b hb e => h4 (by rw [← hb, ← e]; exact ha)⟩
theorem fineF_take {L : List field.Fd} (h : FineF L) (k : Nat) : FineF (L.take k) :=
  ⟨fun f hf => h.1 f (List.mem_of_mem_take hf), by unfold ids; rw [List.map_take]; exact h.2.sublist (List.take_sublist _ _)⟩
theorem fineF_no {L : List field.Fd} {k : Nat} {x : field.Fd} (h : L[k]? = some x) (hn : ¬ (x.Right ∧ x.id ∉ ids (L.take k))) : ¬ FineF L := fun hf => hn ((fineF_succ h).1 (fineF_take hf _)).2
/-- the forms, one by one -/
theorem FineS.nil : FineS [] := ⟨by simp, by simp⟩
theorem fineS_succ {F : List Form} {k : Nat} {x : Form} (h : F[k]? = some x) : FineS (F.take (k + 1)) ↔ FineS (F.take k) ∧ Fine x ∧ ∀ p ∈ F.take k, p.1 < x.1 := by
  rw [take_succ_at h]
  unfold FineS
  simp only [List.map_append, List.map_cons, List.map_nil, List.pairwise_append, List.mem_append, List.mem_singleton, List.mem_map]
  constructor
  · rintro ⟨h1, h2, h3, h4⟩
    exact ⟨⟨fun f hf => h1 f (.inl hf), h2⟩, h1 x (.inr rfl), fun p hp => h4 _ ⟨p, hp, rfl⟩ _ rfl⟩
  · rintro ⟨⟨h1, h2⟩, h3, h4⟩
    exact ⟨fun f hf => hf.elim (h1 f) (fun e => e ▸ h3), h2, by simp, by rintro a ⟨p, hp, rfl⟩ b rfl; exact h4 p hp⟩
theorem fineS_take {F : List Form} (h : FineS F) (k : Nat) : FineS (F.take k) :=
  ⟨fun f hf => h.1 f (List.mem_of_mem_take hf), by rw [List.map_take]; exact h.2.sublist (List.take_sublist _ _)⟩
theorem fineS_no {F : List Form} {k : Nat} {x : Form} (h : F[k]? = some x) (hn : ¬ (Fine x ∧ ∀ p ∈ F.take k, p.1 < x.1)) : ¬ FineS F := fun hf => hn ((fineS_succ h).1 (fineS_take hf _)).2
/-- the last before k decides -/
theorem rise {F : List Form} {k : Nat} {y x : Form} (hy : F[k]? = some y) (hk : FineS (F.take (k + 1))) : (∀ p ∈ F.take (k + 1), p.1 < x.1) ↔ y.1 < x.1 := by
  have h1 := (fineS_succ hy).1 hk
  rw [take_succ_at hy]
  constructor
  · intro h; exact h y (by simp)
  · intro h p hp
    rcases List.mem_append.1 hp with h2 | h2
    · have := h1.2.2 p h2; omega
    · obtain rfl := List.mem_singleton.1 h2; exact h

theorem right_span {f : field.Fd} (h : f.Right) : (0 ≤ f.id ∧ f.id ≤ 255) ∧ (1 ≤ f.kind ∧ f.kind ≤ 4) ∧ (-1099511627776 ≤ f.lo ∧ f.lo ≤ 1099511627776) ∧ (-1099511627776 ≤ f.hi ∧ f.hi ≤ 1099511627776) ∧ (0 ≤ f.most ∧ f.most ≤ 1000) := by
  unfold field.Fd.Right at h; omega
end Go.Proofs.Ytiajpjkkopdmgaa.schema

namespace Go.Proofs.Ytiajpjkkopdmgaa.field
open Go.RowKit
set_option linter.unusedVariables false

/-- the call returns v, and nothing that was there has turned -/
def Gives (v : Value) (w : World) (e : Ending) (w' : World) : Prop := e = .returned v ∧ Below w.heap.size w w'
theorem newB (w : World) (d : Obj) : Below w.heap.size w (w.alloc d) := (Below.refl _ _).alloc (Nat.le_refl _) _
/-- a field that has just been boxed stays -/
theorem five (f : Fd) (w w' : World) (hb : Below (w.alloc (.cells #[.int .i64 f.id, .int .i64 f.kind, .int .i64 f.lo, .int .i64 f.hi, .int .i64 f.most] 26)).heap.size (w.alloc (.cells #[.int .i64 f.id, .int .i64 f.kind, .int .i64 f.lo, .int .i64 f.hi, .int .i64 f.most] 26)) w') : (w'.cell? ⟨w.heap.size, 0, none⟩ = some (.int .i64 f.id) ∧ w'.cell? ⟨w.heap.size, 1, none⟩ = some (.int .i64 f.kind) ∧ w'.cell? ⟨w.heap.size, 2, none⟩ = some (.int .i64 f.lo) ∧ w'.cell? ⟨w.heap.size, 3, none⟩ = some (.int .i64 f.hi) ∧ w'.cell? ⟨w.heap.size, 4, none⟩ = some (.int .i64 f.most)) := by
  have hB := (Block.new w 26 [.int .i64 f.id, .int .i64 f.kind, .int .i64 f.lo, .int .i64 f.hi, .int .i64 f.most]).later hb
  exact ⟨hB.cell 0, hB.cell 1, hB.cell 2, hB.cell 3, hB.cell 4⟩
theorem belowF (f : Fd) (w w' : World) (hb : Below (w.alloc (.cells #[.int .i64 f.id, .int .i64 f.kind, .int .i64 f.lo, .int .i64 f.hi, .int .i64 f.most] 26)).heap.size (w.alloc (.cells #[.int .i64 f.id, .int .i64 f.kind, .int .i64 f.lo, .int .i64 f.hi, .int .i64 f.most] 26)) w') : Below w.heap.size w w' := ((Below.refl _ _).alloc (Nat.le_refl _) _).trans (hb.mono (by simp))

theorem within_yes (n lo hi : Int) (w : World) (h1 : lo ≤ n) (h2 : n ≤ hi) : Calls Try.prog 100 #[.int .i64 n, .int .i64 lo, .int .i64 hi] w fun e w' => e = .returned (.bool true) ∧ w = w' := by
  go_enter Try.func100, Try.ntmps100
  go_wp2
  go_ret
  exact ⟨rfl, rfl⟩
theorem within_no (n lo hi : Int) (w : World) (h : n < lo ∨ hi < n) : Calls Try.prog 100 #[.int .i64 n, .int .i64 lo, .int .i64 hi] w fun e w' => e = .returned (.bool false) ∧ w = w' := by
  by_cases h1 : n < lo
  · clear h
    go_enter Try.func100, Try.ntmps100
    go_wp2
    go_ret
    exact ⟨rfl, rfl⟩
  · have h2 : hi < n := by omega
    have h3 : lo ≤ n := by omega
    have hd : decide (n ≤ hi) = false := decide_eq_false (by omega)
    clear h h1
    go_enter Try.func100, Try.ntmps100
    go_wp2
    go_ret
    exact ⟨rfl, rfl⟩
theorem unbounded_yes (i k m : Int) (w : World) : Calls Try.prog 108 #[.agg #[.int .i64 i, .int .i64 k, .int .i64 0, .int .i64 0, .int .i64 m]] w (Gives (.bool true) w) := by
  unfold Gives
  go_enter Try.func108, Try.ntmps108
  go_wp2
  go_ret
  exact ⟨rfl, newB _ _⟩
theorem unbounded_no (i k lo hi m : Int) (h : lo ≠ 0 ∨ hi ≠ 0) (w : World) : Calls Try.prog 108 #[.agg #[.int .i64 i, .int .i64 k, .int .i64 lo, .int .i64 hi, .int .i64 m]] w (Gives (.bool false) w) := by
  unfold Gives
  by_cases h1 : lo = 0
  · have h2 : (hi == 0) = false := by rw [beq_eq_false_iff_ne]; omega
    subst h1
    clear h
    go_enter Try.func108, Try.ntmps108
    go_wp2
    go_ret
    exact ⟨rfl, newB _ _⟩
  · have h2 : (lo == 0) = false := by rw [beq_eq_false_iff_ne]; omega
    clear h h1
    go_enter Try.func108, Try.ntmps108
    go_wp2
    go_ret
    exact ⟨rfl, newB _ _⟩
theorem right_yes (f : Fd) (h : f.Right) (w : World) : Calls Try.prog 93 #[.agg #[.int .i64 f.id, .int .i64 f.kind, .int .i64 f.lo, .int .i64 f.hi, .int .i64 f.most]] w (Gives (.bool true) w) := by
  have HB := hid (belowF f w)
  have HS := hid (five f w)
  obtain ⟨i, k, lo, hi, m⟩ := f
  obtain ⟨⟨h1, h2⟩, h⟩ := h
  simp only at h h1 h2 HB HS ⊢
  have hw0 := within_yes i 0 255 (w.alloc (.cells #[.int .i64 i, .int .i64 k, .int .i64 lo, .int .i64 hi, .int .i64 m] 26)) h1 h2
  clear h1 h2
  unfold Gives
  rcases h with ⟨rfl, h1, h2, h3, rfl⟩ | ⟨rfl, ⟨rfl, rfl⟩, rfl⟩ | ⟨rfl, ⟨rfl, rfl⟩, h1, h2⟩ | ⟨rfl, ⟨rfl, rfl⟩, h1, h2⟩
  all_goals
    go_enter Try.func93, Try.ntmps93
    go_wp2_with (first
      | (go_at_call 100; (with_reducible refine hw0.mono ?_); rintro e w' ⟨rfl, rfl⟩; clear hw0)
      | (go_at_call 100; (with_reducible refine (within_yes _ _ _ _ h1 h2).mono ?_); rintro e w' ⟨rfl, rfl⟩)
      | (go_at_call 108; (with_reducible refine (unbounded_yes _ _ _ _).mono ?_); rintro e w1 ⟨rfl, hb1⟩; have hk1 := HS.out w1 hb1))
    go_ret
    exact ⟨rfl, HB.out _ (by first | assumption | exact Below.refl _ _)⟩
/-- why a field is not right -/
theorem Fd.wrong {i k lo hi m : Int} (h : ¬ (⟨i, k, lo, hi, m⟩ : Fd).Right) : (i < 0 ∨ 255 < i) ∨ ((0 ≤ i ∧ i ≤ 255) ∧ (
    (k = 1 ∧ ((lo > hi) ∨ (lo ≤ hi ∧ lo < -1099511627776) ∨ (lo ≤ hi ∧ -1099511627776 ≤ lo ∧ 1099511627776 < hi) ∨ (lo ≤ hi ∧ -1099511627776 ≤ lo ∧ hi ≤ 1099511627776 ∧ m ≠ 0))) ∨
    (k = 2 ∧ ((lo ≠ 0 ∨ hi ≠ 0) ∨ ((lo = 0 ∧ hi = 0) ∧ m ≠ 0))) ∨
    (k = 3 ∧ ((lo ≠ 0 ∨ hi ≠ 0) ∨ ((lo = 0 ∧ hi = 0) ∧ (m < 1 ∨ 1000 < m)))) ∨
    (k = 4 ∧ ((lo ≠ 0 ∨ hi ≠ 0) ∨ ((lo = 0 ∧ hi = 0) ∧ (m < 0 ∨ 32 < m)))) ∨
    (k ≠ 1 ∧ k ≠ 2 ∧ k ≠ 3 ∧ k ≠ 4))) := by
  unfold Fd.Right at h
  simp only at h
  omega
theorem right_no (f : Fd) (h : ¬ f.Right) (w : World) : Calls Try.prog 93 #[.agg #[.int .i64 f.id, .int .i64 f.kind, .int .i64 f.lo, .int .i64 f.hi, .int .i64 f.most]] w (Gives (.bool false) w) := by
  have HB := hid (belowF f w)
  have HS := hid (five f w)
  obtain ⟨i, k, lo, hi, m⟩ := f
  replace h := Fd.wrong h
  simp only at h HB HS ⊢
  unfold Gives
  rcases h with hn | ⟨⟨h1, h2⟩, h⟩
  · have hw0 := within_no i 0 255 (w.alloc (.cells #[.int .i64 i, .int .i64 k, .int .i64 lo, .int .i64 hi, .int .i64 m] 26)) hn
    clear hn
    go_enter Try.func93, Try.ntmps93
    go_wp2_with (go_at_call 100; (with_reducible refine hw0.mono ?_); rintro e w' ⟨rfl, rfl⟩; clear hw0)
    go_ret
    exact ⟨rfl, HB.out _ (Below.refl _ _)⟩
  have hw0 := within_yes i 0 255 (w.alloc (.cells #[.int .i64 i, .int .i64 k, .int .i64 lo, .int .i64 hi, .int .i64 m] 26)) h1 h2
  clear h1 h2
  rcases h with ⟨rfl, h⟩ | ⟨rfl, h⟩ | ⟨rfl, h⟩ | ⟨rfl, h⟩ | ⟨n1, n2, n3, n4⟩
  · rcases h with h | ⟨h1, h⟩ | ⟨h1, h2, h⟩ | ⟨h1, h2, h3, h⟩
    · have hd : decide (lo ≤ hi) = false := decide_eq_false (by omega)
      clear h
      go_enter Try.func93, Try.ntmps93
      go_wp2_with (first
        | (go_at_call 100; (with_reducible refine hw0.mono ?_); rintro e w' ⟨rfl, rfl⟩; clear hw0)
        | (go_at_call 100; (with_reducible refine (within_no _ _ _ _ hn).mono ?_); rintro e w' ⟨rfl, rfl⟩)
        | (go_at_call 108; (with_reducible refine (unbounded_yes _ _ _ _).mono ?_); rintro e w1 ⟨rfl, hb1⟩; have hk1 := HS.out w1 hb1)
        | (go_at_call 108; (with_reducible refine (unbounded_no _ _ _ _ _ hn _).mono ?_); rintro e w1 ⟨rfl, hb1⟩; have hk1 := HS.out w1 hb1))
      go_ret
      exact ⟨rfl, HB.out _ (by first | assumption | exact Below.refl _ _)⟩
    · have hd : decide (lo ≥ -1099511627776) = false := decide_eq_false (by omega)
      clear h
      go_enter Try.func93, Try.ntmps93
      go_wp2_with (first
        | (go_at_call 100; (with_reducible refine hw0.mono ?_); rintro e w' ⟨rfl, rfl⟩; clear hw0)
        | (go_at_call 100; (with_reducible refine (within_no _ _ _ _ hn).mono ?_); rintro e w' ⟨rfl, rfl⟩)
        | (go_at_call 108; (with_reducible refine (unbounded_yes _ _ _ _).mono ?_); rintro e w1 ⟨rfl, hb1⟩; have hk1 := HS.out w1 hb1)
        | (go_at_call 108; (with_reducible refine (unbounded_no _ _ _ _ _ hn _).mono ?_); rintro e w1 ⟨rfl, hb1⟩; have hk1 := HS.out w1 hb1))
      go_ret
      exact ⟨rfl, HB.out _ (by first | assumption | exact Below.refl _ _)⟩
    · have hd : decide (hi ≤ 1099511627776) = false := decide_eq_false (by omega)
      have h2' : lo ≥ -1099511627776 := h2
      clear h
      go_enter Try.func93, Try.ntmps93
      go_wp2_with (first
        | (go_at_call 100; (with_reducible refine hw0.mono ?_); rintro e w' ⟨rfl, rfl⟩; clear hw0)
        | (go_at_call 100; (with_reducible refine (within_no _ _ _ _ hn).mono ?_); rintro e w' ⟨rfl, rfl⟩)
        | (go_at_call 108; (with_reducible refine (unbounded_yes _ _ _ _).mono ?_); rintro e w1 ⟨rfl, hb1⟩; have hk1 := HS.out w1 hb1)
        | (go_at_call 108; (with_reducible refine (unbounded_no _ _ _ _ _ hn _).mono ?_); rintro e w1 ⟨rfl, hb1⟩; have hk1 := HS.out w1 hb1))
      go_ret
      exact ⟨rfl, HB.out _ (by first | assumption | exact Below.refl _ _)⟩
    · have hd : (m == 0) = false := by rw [beq_eq_false_iff_ne]; exact h
      have h2' : lo ≥ -1099511627776 := h2
      clear h
      go_enter Try.func93, Try.ntmps93
      go_wp2_with (first
        | (go_at_call 100; (with_reducible refine hw0.mono ?_); rintro e w' ⟨rfl, rfl⟩; clear hw0)
        | (go_at_call 100; (with_reducible refine (within_no _ _ _ _ hn).mono ?_); rintro e w' ⟨rfl, rfl⟩)
        | (go_at_call 108; (with_reducible refine (unbounded_yes _ _ _ _).mono ?_); rintro e w1 ⟨rfl, hb1⟩; have hk1 := HS.out w1 hb1)
        | (go_at_call 108; (with_reducible refine (unbounded_no _ _ _ _ _ hn _).mono ?_); rintro e w1 ⟨rfl, hb1⟩; have hk1 := HS.out w1 hb1))
      go_ret
      exact ⟨rfl, HB.out _ (by first | assumption | exact Below.refl _ _)⟩
  · rcases h with hn | ⟨⟨rfl, rfl⟩, h⟩
    · go_enter Try.func93, Try.ntmps93
      go_wp2_with (first
        | (go_at_call 100; (with_reducible refine hw0.mono ?_); rintro e w' ⟨rfl, rfl⟩; clear hw0)
        | (go_at_call 100; (with_reducible refine (within_no _ _ _ _ hn).mono ?_); rintro e w' ⟨rfl, rfl⟩)
        | (go_at_call 108; (with_reducible refine (unbounded_yes _ _ _ _).mono ?_); rintro e w1 ⟨rfl, hb1⟩; have hk1 := HS.out w1 hb1)
        | (go_at_call 108; (with_reducible refine (unbounded_no _ _ _ _ _ hn _).mono ?_); rintro e w1 ⟨rfl, hb1⟩; have hk1 := HS.out w1 hb1))
      go_ret
      exact ⟨rfl, HB.out _ (by first | assumption | exact Below.refl _ _)⟩
    · have hd : (m == 0) = false := by rw [beq_eq_false_iff_ne]; exact h
      clear h
      go_enter Try.func93, Try.ntmps93
      go_wp2_with (first
        | (go_at_call 100; (with_reducible refine hw0.mono ?_); rintro e w' ⟨rfl, rfl⟩; clear hw0)
        | (go_at_call 100; (with_reducible refine (within_no _ _ _ _ hn).mono ?_); rintro e w' ⟨rfl, rfl⟩)
        | (go_at_call 108; (with_reducible refine (unbounded_yes _ _ _ _).mono ?_); rintro e w1 ⟨rfl, hb1⟩; have hk1 := HS.out w1 hb1)
        | (go_at_call 108; (with_reducible refine (unbounded_no _ _ _ _ _ hn _).mono ?_); rintro e w1 ⟨rfl, hb1⟩; have hk1 := HS.out w1 hb1))
      go_ret
      exact ⟨rfl, HB.out _ (by first | assumption | exact Below.refl _ _)⟩
  · rcases h with hn | ⟨⟨rfl, rfl⟩, hn⟩
    · go_enter Try.func93, Try.ntmps93
      go_wp2_with (first
        | (go_at_call 100; (with_reducible refine hw0.mono ?_); rintro e w' ⟨rfl, rfl⟩; clear hw0)
        | (go_at_call 100; (with_reducible refine (within_no _ _ _ _ hn).mono ?_); rintro e w' ⟨rfl, rfl⟩)
        | (go_at_call 108; (with_reducible refine (unbounded_yes _ _ _ _).mono ?_); rintro e w1 ⟨rfl, hb1⟩; have hk1 := HS.out w1 hb1)
        | (go_at_call 108; (with_reducible refine (unbounded_no _ _ _ _ _ hn _).mono ?_); rintro e w1 ⟨rfl, hb1⟩; have hk1 := HS.out w1 hb1))
      go_ret
      exact ⟨rfl, HB.out _ (by first | assumption | exact Below.refl _ _)⟩
    · go_enter Try.func93, Try.ntmps93
      go_wp2_with (first
        | (go_at_call 100; (with_reducible refine hw0.mono ?_); rintro e w' ⟨rfl, rfl⟩; clear hw0)
        | (go_at_call 100; (with_reducible refine (within_no _ _ _ _ hn).mono ?_); rintro e w' ⟨rfl, rfl⟩)
        | (go_at_call 108; (with_reducible refine (unbounded_yes _ _ _ _).mono ?_); rintro e w1 ⟨rfl, hb1⟩; have hk1 := HS.out w1 hb1)
        | (go_at_call 108; (with_reducible refine (unbounded_no _ _ _ _ _ hn _).mono ?_); rintro e w1 ⟨rfl, hb1⟩; have hk1 := HS.out w1 hb1))
      go_ret
      exact ⟨rfl, HB.out _ (by first | assumption | exact Below.refl _ _)⟩
  · rcases h with hn | ⟨⟨rfl, rfl⟩, hn⟩
    · go_enter Try.func93, Try.ntmps93
      go_wp2_with (first
        | (go_at_call 100; (with_reducible refine hw0.mono ?_); rintro e w' ⟨rfl, rfl⟩; clear hw0)
        | (go_at_call 100; (with_reducible refine (within_no _ _ _ _ hn).mono ?_); rintro e w' ⟨rfl, rfl⟩)
        | (go_at_call 108; (with_reducible refine (unbounded_yes _ _ _ _).mono ?_); rintro e w1 ⟨rfl, hb1⟩; have hk1 := HS.out w1 hb1)
        | (go_at_call 108; (with_reducible refine (unbounded_no _ _ _ _ _ hn _).mono ?_); rintro e w1 ⟨rfl, hb1⟩; have hk1 := HS.out w1 hb1))
      go_ret
      exact ⟨rfl, HB.out _ (by first | assumption | exact Below.refl _ _)⟩
    · go_enter Try.func93, Try.ntmps93
      go_wp2_with (first
        | (go_at_call 100; (with_reducible refine hw0.mono ?_); rintro e w' ⟨rfl, rfl⟩; clear hw0)
        | (go_at_call 100; (with_reducible refine (within_no _ _ _ _ hn).mono ?_); rintro e w' ⟨rfl, rfl⟩)
        | (go_at_call 108; (with_reducible refine (unbounded_yes _ _ _ _).mono ?_); rintro e w1 ⟨rfl, hb1⟩; have hk1 := HS.out w1 hb1)
        | (go_at_call 108; (with_reducible refine (unbounded_no _ _ _ _ _ hn _).mono ?_); rintro e w1 ⟨rfl, hb1⟩; have hk1 := HS.out w1 hb1))
      go_ret
      exact ⟨rfl, HB.out _ (by first | assumption | exact Below.refl _ _)⟩
  · have e1 : (k == 1) = false := by rw [beq_eq_false_iff_ne]; exact n1
    have e2 : (k == 2) = false := by rw [beq_eq_false_iff_ne]; exact n2
    have e3 : (k == 3) = false := by rw [beq_eq_false_iff_ne]; exact n3
    have e4 : (k == 4) = false := by rw [beq_eq_false_iff_ne]; exact n4
    clear n1 n2 n3 n4
    go_enter Try.func93, Try.ntmps93
    go_wp2_with (first
      | (go_at_call 100; (with_reducible refine hw0.mono ?_); rintro e w' ⟨rfl, rfl⟩; clear hw0)
      | (go_at_call 100; (with_reducible refine (within_no _ _ _ _ hn).mono ?_); rintro e w' ⟨rfl, rfl⟩)
      | (go_at_call 108; (with_reducible refine (unbounded_yes _ _ _ _).mono ?_); rintro e w1 ⟨rfl, hb1⟩; have hk1 := HS.out w1 hb1)
      | (go_at_call 108; (with_reducible refine (unbounded_no _ _ _ _ _ hn _).mono ?_); rintro e w1 ⟨rfl, hb1⟩; have hk1 := HS.out w1 hb1))
    go_ret
    exact ⟨rfl, HB.out _ (by first | assumption | exact Below.refl _ _)⟩
theorem right_any (f : Fd) (w : World) : Calls Try.prog 93 #[.agg #[.int .i64 f.id, .int .i64 f.kind, .int .i64 f.lo, .int .i64 f.hi, .int .i64 f.most]] w (Gives (.bool (decide f.Right)) w) := by
  by_cases h : f.Right
  · rw [decide_eq_true h]; exact right_yes f h w
  · rw [decide_eq_false h]; exact right_no f h w
end Go.Proofs.Ytiajpjkkopdmgaa.field
