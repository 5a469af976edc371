/- A region whose order is open: two calls that make memory, one behind the other, and two new variables that may come up at any time. Whatever the order, behind the four the state is the same but for where the variables lie. No condition. -/
import Derived.Test.YthpiffafakoheaaPlan
import Derived.Test.YthpiffafakoheaaArr
namespace Go.Proofs.Ythpiffafakoheaa.plan
open Go Go.RowKit
set_option linter.unusedVariables false

theorem put_same (a : Act) (d : Nat) (u v : Value) : (a.put (some d) u).put (some d) v = a.put (some d) v := by
  simp [Act.put]
theorem put_comm (a : Act) (d e : Nat) (u v : Value) (h : d ≠ e) : (a.put (some d) u).put (some e) v = (a.put (some e) v).put (some d) u := by
  simp only [Act.put, Act.mk.injEq, and_true]
  exact Array.setIfInBounds_comm u v h
theorem wanted_none {o : Oper} (h : o.guard = none) (y : Nat → Option Value) (hy : True) : ∀ t, Region.wanted o t = true := by
  intro t
  unfold Region.wanted
  rw [h]

section
variable {P : Program} {md : Region.Mode} {Q : Exit → Act → World → Prop} {l : List Oper}

theorem exec_load_int {o : Oper} {a : Act} {w : World} {ty : TypeId} {x : Operand} {ad : Addr} {k : IntKind} {n : Int} (ho : o.op = .load ty x) (hx : a.eval x = .pointer (some ad)) (hc : w.cell? ad = some (.int k n)) (hu : ∀ w', (isAgg ty).run P w' = .ok false w') :
    (execOp a.eval o).run P w = .ok (.value (.int k n)) w := by
  unfold execOp
  rw [ho]
  simp only [hx]
  go_simp
/-- each operation that may come up goes on -/
theorem every {S : World → Prop} {f : Nat} {listed : Array Bool} {a : Act} {w : World} (hne : Region.ready md l.toArray listed ≠ [])
    (h : ∀ i ∈ Region.ready md l.toArray listed, ∃ o, l[i]? = some o ∧ o.guard = none ∧
      ((∃ v w1, (execOp a.eval o).run P w = .ok (.value v) w1 ∧ S w1 ∧ wpAnyH P md l.toArray (NoPanic Q) S f (listed.setIfInBounds i true) (a.put o.dst v) w1) ∨
       (∃ F args, (execOp a.eval o).run P w = .ok (.enter F args) w ∧ Calls P F args w fun e w' => ∃ v, e = .returned v ∧ S w' ∧ wpAnyH P md l.toArray (NoPanic Q) S f (listed.setIfInBounds i true) (a.put o.dst v) w'))) :
    wpAnyH P md l.toArray (NoPanic Q) S (f + 1) listed a w := by
  refine wpAnyH_all rfl hne fun i hi => ?_
  obtain ⟨o, ho, hg, h⟩ := h i hi
  have hi' : l.toArray[i]? = some o := by simpa using ho
  have hw : Region.wanted o (yielded l.toArray a.tmps) = true := by unfold Region.wanted; rw [hg]
  unfold wpOp
  rcases h with ⟨v, w1, hv, hb, hR⟩ | ⟨F, args, hv, hc⟩
  · simp only [hi', hw, if_true, Oper.wp, hv, Oper.upon]
    exact .inl ⟨hb, hR⟩
  · simp only [hi', hw, if_true, Oper.wp, hv, Oper.upon]
    refine .inl (hc.mono ?_)
    rintro e w' ⟨v, rfl, hb, hR⟩
    exact ⟨hb, hR⟩

/-- a store of a row into a block of the call's own, the only operation that may come up -/
theorem store {f : Nat} {listed : Array Bool} {a : Act} {w0 w : World} (B i : Nat) (o : Oper) (ty : TypeId) (x y : Operand) (g : Nat) (t : TypeId) (cs : List Value) (cells : Array Value) (hi : l[i]? = some o) (hg : o.guard = none) (ho : o.op = .store ty x y) (hd : o.dst = none)
    (hr : Region.ready md l.toArray listed = [i]) (hx : a.eval x = .pointer (some ⟨g, 0, none⟩)) (hy : a.eval y = .agg cells) (hb : Block w g t cs) (hl : cs.length = cells.size) (hs : (P.info? ty).map (·.size) = some cells.size) (h1 : cells.all (·.oneCell') = true)
    (h0 : Below B w0 w) (hB : B ≤ g)
    (hS : ∀ w', Below B w0 w' → Block w' g t cells.toList → (∀ g' t' cs', g' ≠ g → Block w g' t' cs' → Block w' g' t' cs') → wpAnyH P md l.toArray (NoPanic Q) (Below B w0) f (listed.setIfInBounds i true) a w') :
    wpAnyH P md l.toArray (NoPanic Q) (Below B w0) (f + 1) listed a w := by
  refine wpAnyH_all hr (by simp) fun j hj => ?_
  obtain rfl : j = i := by simpa using hj
  have hi' : l.toArray[j]? = some o := by simpa using hi
  have hw : Region.wanted o (yielded l.toArray a.tmps) = true := by unfold Region.wanted; rw [hg]
  have hrun : (execOp a.eval o).run P w = .ok .skip (w.setCells g 0 cells.toList) := by
    unfold execOp
    simp [ho, hx, hy, run_storeAt_mid w g 0 ty cells (hb.there 0 cells.size (by omega)) hs h1]
  have hbl : Below B w0 (w.setCells g 0 cells.toList) := below_setCells h0 hB _ _
  unfold wpOp
  simp only [hi', hw, if_true, Oper.wp, hrun, Oper.upon]
  refine .inl ⟨hbl, ?_⟩
  rw [hd]
  refine hS _ hbl ?_ fun g' t' cs' hne h' => h'.aparts g 0 _ hne
  have := hb.setCells (vs := cells.toList) (o := 0)
  rwa [put_all _ _ (by simpa using hl)] at this

/-- the frame, with the two results and the two variables' addresses -/
def at4 (a0 : Act) (d2 d5 d6 d7 : Nat) (v2 v5 p6 p7 : Value) : Act := (((a0.put (some d2) v2).put (some d5) v5).put (some d6) p6).put (some d7) p7
/-- what is known when some of the four have come up -/
structure Inv4 (w0 : World) (t : TypeId) (Z : List Value) (V2 V5 : Value) (b2 b5 b6 b7 : Bool) (v2 v5 p6 p7 : Value) (w : World) : Prop where
  below : Below w0.heap.size w0 w
  c2 : b2 = true → v2 = V2
  c5 : b5 = true → v5 = V5
  a6 : b6 = true → ∃ g, p6 = .pointer (some ⟨g, 0, none⟩) ∧ w0.heap.size ≤ g ∧ Block w g t Z
  a7 : b7 = true → ∃ g, p7 = .pointer (some ⟨g, 0, none⟩) ∧ w0.heap.size ≤ g ∧ Block w g t Z
  ne : b6 = true → b7 = true → p6 ≠ p7
theorem Inv4.later {w0 w w' : World} {t : TypeId} {Z : List Value} {V2 V5 : Value} {b2 b5 b6 b7 : Bool} {v2 v5 p6 p7 : Value} (h : Inv4 w0 t Z V2 V5 b2 b5 b6 b7 v2 v5 p6 p7 w) (hb : Below w.heap.size w w') :
    Inv4 w0 t Z V2 V5 b2 b5 b6 b7 v2 v5 p6 p7 w' :=
  ⟨h.below.trans (hb.mono h.below.size), h.c2, h.c5, fun e => (h.a6 e).imp fun g ⟨h1, h2, h3⟩ => ⟨h1, h2, h3.later hb⟩, fun e => (h.a7 e).imp fun g ⟨h1, h2, h3⟩ => ⟨h1, h2, h3.later hb⟩, h.ne⟩

theorem four (a0 : Act) (w0 : World) (t : TypeId) (Z : List Value) (V2 V5 : Value) (d2 d5 d6 d7 : Nat) (o2 o5 o6 o7 : Oper) (F : FuncId) (x2 x5 : Array Value)
    (n25 : d2 ≠ d5) (n26 : d2 ≠ d6) (n27 : d2 ≠ d7) (n56 : d5 ≠ d6) (n57 : d5 ≠ d7) (n67 : d6 ≠ d7)
    (l2 : l[2]? = some o2) (l5 : l[5]? = some o5) (l6 : l[6]? = some o6) (l7 : l[7]? = some o7)
    (g2 : o2.guard = none) (g5 : o5.guard = none) (g6 : o6.guard = none) (g7 : o7.guard = none)
    (s2 : o2.dst = some d2) (s5 : o5.dst = some d5) (s6 : o6.dst = some d6) (s7 : o7.dst = some d7)
    (hready : ∀ b2 b5 b6 b7, (b5 = true → b2 = true) → (b2 && b5 && b6 && b7) = false →
      Region.ready md l.toArray #[true, true, b2, true, true, b5, b6, b7, false, false] = (if b2 = true then (if b5 = true then [] else [5]) else [2]) ++ ((if b6 = true then [] else [6]) ++ (if b7 = true then [] else [7])))
    (r2 : ∀ v2 v5 p6 p7 w, (execOp (at4 a0 d2 d5 d6 d7 v2 v5 p6 p7).eval o2).run P w = .ok (.enter F x2) w)
    (r5 : ∀ v2 v5 p6 p7 w, (execOp (at4 a0 d2 d5 d6 d7 v2 v5 p6 p7).eval o5).run P w = .ok (.enter F x5) w)
    (r6 : ∀ v2 v5 p6 p7 w, (execOp (at4 a0 d2 d5 d6 d7 v2 v5 p6 p7).eval o6).run P w = .ok (.value (.pointer (some ⟨w.heap.size, 0, none⟩))) (w.alloc (.cells Z.toArray t)))
    (r7 : ∀ v2 v5 p6 p7 w, (execOp (at4 a0 d2 d5 d6 d7 v2 v5 p6 p7).eval o7).run P w = .ok (.value (.pointer (some ⟨w.heap.size, 0, none⟩))) (w.alloc (.cells Z.toArray t)))
    (k2 : ∀ w, Calls P F x2 w fun e w' => e = .returned V2 ∧ Below w.heap.size w w') (k5 : ∀ w, Calls P F x5 w fun e w' => e = .returned V5 ∧ Below w.heap.size w w')
    (rest : ∀ g g' w', w0.heap.size ≤ g → w0.heap.size ≤ g' → g ≠ g' → Block w' g t Z → Block w' g' t Z → Below w0.heap.size w0 w' →
      wpAnyH P md l.toArray (NoPanic Q) (Below w0.heap.size w0) 2 #[true, true, true, true, true, true, true, true, false, false] (at4 a0 d2 d5 d6 d7 V2 V5 (.pointer (some ⟨g, 0, none⟩)) (.pointer (some ⟨g', 0, none⟩))) w') :
    ∀ (n : Nat) (b2 b5 b6 b7 : Bool) (v2 v5 p6 p7 : Value) (w : World), (b5 = true → b2 = true) → n = (if b2 = true then 0 else 1) + (if b5 = true then 0 else 1) + (if b6 = true then 0 else 1) + (if b7 = true then 0 else 1) →
      Inv4 w0 t Z V2 V5 b2 b5 b6 b7 v2 v5 p6 p7 w →
      wpAnyH P md l.toArray (NoPanic Q) (Below w0.heap.size w0) (n + 2) #[true, true, b2, true, true, b5, b6, b7, false, false] (at4 a0 d2 d5 d6 d7 v2 v5 p6 p7) w := by
  have e2 : ∀ v2 v5 p6 p7 v, (at4 a0 d2 d5 d6 d7 v2 v5 p6 p7).put (some d2) v = at4 a0 d2 d5 d6 d7 v v5 p6 p7 := by
    intro v2 v5 p6 p7 v
    unfold at4
    rw [put_comm _ d7 d2 _ _ n27.symm, put_comm _ d6 d2 _ _ n26.symm, put_comm _ d5 d2 _ _ n25.symm, put_same]
  have e5 : ∀ v2 v5 p6 p7 v, (at4 a0 d2 d5 d6 d7 v2 v5 p6 p7).put (some d5) v = at4 a0 d2 d5 d6 d7 v2 v p6 p7 := by
    intro v2 v5 p6 p7 v
    unfold at4
    rw [put_comm _ d7 d5 _ _ n57.symm, put_comm _ d6 d5 _ _ n56.symm, put_same]
  have e6 : ∀ v2 v5 p6 p7 v, (at4 a0 d2 d5 d6 d7 v2 v5 p6 p7).put (some d6) v = at4 a0 d2 d5 d6 d7 v2 v5 v p7 := by
    intro v2 v5 p6 p7 v
    unfold at4
    rw [put_comm _ d7 d6 _ _ n67.symm, put_same]
  have e7 : ∀ v2 v5 p6 p7 v, (at4 a0 d2 d5 d6 d7 v2 v5 p6 p7).put (some d7) v = at4 a0 d2 d5 d6 d7 v2 v5 p6 v := by
    intro v2 v5 p6 p7 v
    unfold at4
    rw [put_same]
  have hal : ∀ w : World, Below w.heap.size w (w.alloc (.cells Z.toArray t)) := fun w => (Below.refl _ w).alloc (Nat.le_refl _) _
  intro n
  induction n with
  | zero =>
    intro b2 b5 b6 b7 v2 v5 p6 p7 w h25 hn inv
    cases b2 <;> cases b5 <;> cases b6 <;> cases b7 <;> simp at hn
    obtain rfl := inv.c2 rfl
    obtain rfl := inv.c5 rfl
    obtain ⟨g, rfl, hg, hB⟩ := inv.a6 rfl
    obtain ⟨g', rfl, hg', hB'⟩ := inv.a7 rfl
    exact rest g g' w hg hg' (by rintro rfl; exact inv.ne rfl rfl rfl) hB hB' inv.below
  | succ n ih =>
    intro b2 b5 b6 b7 v2 v5 p6 p7 w h25 hn inv
    have hall : (b2 && b5 && b6 && b7) = false := by
      cases b2 <;> cases b5 <;> cases b6 <;> cases b7 <;> simp at hn ⊢
    have hr := hready b2 b5 b6 b7 h25 hall
    refine every ?_ ?_
    · rw [hr]
      cases b2 <;> cases b5 <;> cases b6 <;> cases b7 <;> simp at hall ⊢
    · rw [hr]
      intro i hi
      simp only [List.mem_append] at hi
      rcases hi with hi | hi | hi
      · cases b2 with
        | false =>
          obtain rfl : i = 2 := by simpa using hi
          obtain rfl : b5 = false := by cases b5 <;> simp at h25 ⊢
          refine ⟨o2, l2, g2, .inr ⟨F, x2, r2 _ _ _ _ _, (k2 w).mono ?_⟩⟩
          rintro e w' ⟨rfl, hb⟩
          refine ⟨V2, rfl, (inv.later hb).below, ?_⟩
          rw [s2, e2]
          have i' := inv.later hb
          exact ih true false b6 b7 V2 v5 p6 p7 w' (by simp) (by simp at hn ⊢; omega) ⟨i'.below, fun _ => rfl, i'.c5, i'.a6, i'.a7, i'.ne⟩
        | true =>
          cases b5 with
          | true => simp at hi
          | false =>
            obtain rfl : i = 5 := by simpa using hi
            refine ⟨o5, l5, g5, .inr ⟨F, x5, r5 _ _ _ _ _, (k5 w).mono ?_⟩⟩
            rintro e w' ⟨rfl, hb⟩
            refine ⟨V5, rfl, (inv.later hb).below, ?_⟩
            rw [s5, e5]
            have i' := inv.later hb
            exact ih true true b6 b7 v2 V5 p6 p7 w' (by simp) (by simp at hn ⊢; omega) ⟨i'.below, i'.c2, fun _ => rfl, i'.a6, i'.a7, i'.ne⟩
      · cases b6 with
        | true => simp at hi
        | false =>
          obtain rfl : i = 6 := by simpa using hi
          refine ⟨o6, l6, g6, .inl ⟨_, _, r6 _ _ _ _ _, (inv.later (hal w)).below, ?_⟩⟩
          rw [s6, e6]
          have i' := inv.later (hal w)
          refine ih b2 b5 true b7 v2 v5 _ p7 _ h25 (by simp at hn ⊢; omega) ⟨i'.below, i'.c2, i'.c5, fun _ => ⟨_, rfl, inv.below.size, Block.new w t Z⟩, i'.a7, fun _ e7 => ?_⟩
          obtain ⟨g, rfl, _, hB⟩ := inv.a7 e7
          have := hB.lt
          simp only [ne_eq, Value.pointer.injEq, Option.some.injEq, Addr.mk.injEq, and_true]
          omega
      · cases b7 with
        | true => simp at hi
        | false =>
          obtain rfl : i = 7 := by simpa using hi
          refine ⟨o7, l7, g7, .inl ⟨_, _, r7 _ _ _ _ _, (inv.later (hal w)).below, ?_⟩⟩
          rw [s7, e7]
          have i' := inv.later (hal w)
          refine ih b2 b5 b6 true v2 v5 p6 _ _ h25 (by simp at hn ⊢; omega) ⟨i'.below, i'.c2, i'.c5, i'.a6, fun _ => ⟨_, rfl, inv.below.size, Block.new w t Z⟩, fun e6 _ => ?_⟩
          obtain ⟨g, rfl, _, hB⟩ := inv.a6 e6
          have := hB.lt
          simp only [ne_eq, Value.pointer.injEq, Option.some.injEq, Addr.mk.injEq, and_true]
          omega
theorem Rest.to4 {f : Nat} {listed : Array Bool} {a : Act} {w : World} (d2 d5 d6 d7 : Nat) (hf : f = 6) (hl : listed = #[true, true, false, true, true, false, false, false, false, false]) (ha : at4 a d2 d5 d6 d7 undef undef undef undef = a)
    (h : wpAnyH P md l.toArray (NoPanic Q) (Below w.heap.size w) 6 #[true, true, false, true, true, false, false, false, false, false] (at4 a d2 d5 d6 d7 undef undef undef undef) w) : Rest P md l Q f listed a w := by
  subst hf hl
  rw [ha] at h
  exact h
end
end Go.Proofs.Ythpiffafakoheaa.plan
