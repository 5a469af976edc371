/- Contracts and lemmas that the claims of this seat share: Four, Drift, RegionS, Stay, EyeStay, StepTakeF, FieldPush, StepTS, PenSight, Cross. Each says its own conditions. -/
import Derived.Test.YtpdnfiofjkbeiaaCmG
import Derived.Test.YtpdnfiofjkbeiaaCmD
import Derived.Test.YtpdnfiofjkbeiaaCmE
import Derived.Maps.AppendAt
import Derived.Test.YtpdnfiofjkbeiaaCmN
import Derived.Test.YtpdnfiofjkbeiaaCmB
import Derived.Conc.WalkWords
import Derived.Test.YtpdnfiofjkbeiaaCmC
/- A region whose order is open: two calls that make memory, one behind the other, and two new variables that may come up at any time. Whatever the order, behind the four the state is the same but for where the variables lie. No condition. -/
namespace Go.Proofs.Ytpdnfiofjkbeiaa.plan
open Go Go.RowKit
set_option linter.unusedVariables false

theorem put_same (a : Act) (d : Nat) (u v : Value) : (a.put (some d) u).put (some d) v = a.put (some d) v := by
  simp [Act.put]
theorem put_comm (a : Act) (d e : Nat) (u v : Value) (h : d ≠ e) : (a.put (some d) u).put (some e) v = (a.put (some e) v).put (some d) u := by
  simp only [Act.put, Act.mk.injEq, and_true]
  exact Array.setIfInBounds_comm u v h
theorem wanted_none {o : Oper} (h : o.guard = none) (y : Nat → Option Value) (hy : True) : ∀ t, Region.wanted o t = true := by
  intro t
  unfold Region.wanted
  rw [h]

section
variable {P : Program} {md : Region.Mode} {Q : Exit → Act → World → Prop} {l : List Oper}

theorem exec_load_int {o : Oper} {a : Act} {w : World} {ty : TypeId} {x : Operand} {ad : Addr} {k : IntKind} {n : Int} (ho : o.op = .load ty x) (hx : a.eval x = .pointer (some ad)) (hc : w.cell? ad = some (.int k n)) (hu : ∀ w', (isAgg ty).run P w' = .ok false w') :
    (execOp a.eval o).run P w = .ok (.value (.int k n)) w := by
  unfold execOp
  rw [ho]
  simp only [hx]
  go_simp
/-- each operation that may come up goes on -/
theorem every {S : World → Prop} {f : Nat} {listed : Array Bool} {a : Act} {w : World} (hne : Region.ready md l.toArray listed ≠ [])
    (h : ∀ i ∈ Region.ready md l.toArray listed, ∃ o, l[i]? = some o ∧ o.guard = none ∧
      ((∃ v w1, (execOp a.eval o).run P w = .ok (.value v) w1 ∧ S w1 ∧ wpAnyH P md l.toArray (NoPanic Q) S f (listed.setIfInBounds i true) (a.put o.dst v) w1) ∨
       (∃ F args, (execOp a.eval o).run P w = .ok (.enter F args) w ∧ Calls P F args w fun e w' => ∃ v, e = .returned v ∧ S w' ∧ wpAnyH P md l.toArray (NoPanic Q) S f (listed.setIfInBounds i true) (a.put o.dst v) w'))) :
    wpAnyH P md l.toArray (NoPanic Q) S (f + 1) listed a w := by
  refine wpAnyH_all rfl hne fun i hi => ?_
  obtain ⟨o, ho, hg, h⟩ := h i hi
  have hi' : l.toArray[i]? = some o := by simpa using ho
  have hw : Region.wanted o (yielded l.toArray a.tmps) = true := by unfold Region.wanted; rw [hg]
  unfold wpOp
  rcases h with ⟨v, w1, hv, hb, hR⟩ | ⟨F, args, hv, hc⟩
  · simp only [hi', hw, if_true, Oper.wp, hv, Oper.upon]
    exact .inl ⟨hb, hR⟩
  · simp only [hi', hw, if_true, Oper.wp, hv, Oper.upon]
    refine .inl (hc.mono ?_)
    rintro e w' ⟨v, rfl, hb, hR⟩
    exact ⟨hb, hR⟩

/-- a store of a row into a block of the call's own, the only operation that may come up -/
theorem store {f : Nat} {listed : Array Bool} {a : Act} {w0 w : World} (B i : Nat) (o : Oper) (ty : TypeId) (x y : Operand) (g : Nat) (t : TypeId) (cs : List Value) (cells : Array Value) (hi : l[i]? = some o) (hg : o.guard = none) (ho : o.op = .store ty x y) (hd : o.dst = none)
    (hr : Region.ready md l.toArray listed = [i]) (hx : a.eval x = .pointer (some ⟨g, 0, none⟩)) (hy : a.eval y = .agg cells) (hb : Block w g t cs) (hl : cs.length = cells.size) (hs : (P.info? ty).map (·.size) = some cells.size) (h1 : cells.all (·.oneCell') = true)
    (h0 : Below B w0 w) (hB : B ≤ g)
    (hS : ∀ w', Below B w0 w' → Block w' g t cells.toList → (∀ g' t' cs', g' ≠ g → Block w g' t' cs' → Block w' g' t' cs') → wpAnyH P md l.toArray (NoPanic Q) (Below B w0) f (listed.setIfInBounds i true) a w') :
    wpAnyH P md l.toArray (NoPanic Q) (Below B w0) (f + 1) listed a w := by
  refine wpAnyH_all hr (by simp) fun j hj => ?_
  obtain rfl : j = i := by simpa using hj
  have hi' : l.toArray[j]? = some o := by simpa using hi
  have hw : Region.wanted o (yielded l.toArray a.tmps) = true := by unfold Region.wanted; rw [hg]
  have hrun : (execOp a.eval o).run P w = .ok .skip (w.setCells g 0 cells.toList) := by
    unfold execOp
    simp [ho, hx, hy, run_storeAt_mid w g 0 ty cells (hb.there 0 cells.size (by omega)) hs h1]
  have hbl : Below B w0 (w.setCells g 0 cells.toList) := below_setCells h0 hB _ _
  unfold wpOp
  simp only [hi', hw, if_true, Oper.wp, hrun, Oper.upon]
  refine .inl ⟨hbl, ?_⟩
  rw [hd]
  refine hS _ hbl ?_ fun g' t' cs' hne h' => h'.aparts g 0 _ hne
  have := hb.setCells (vs := cells.toList) (o := 0)
  rwa [put_all _ _ (by simpa using hl)] at this

/-- the frame, with the two results and the two variables' addresses -/
def at4 (a0 : Act) (d2 d5 d6 d7 : Nat) (v2 v5 p6 p7 : Value) : Act := (((a0.put (some d2) v2).put (some d5) v5).put (some d6) p6).put (some d7) p7
/-- what is known when some of the four have come up -/
structure Inv4 (w0 : World) (t : TypeId) (Z : List Value) (V2 V5 : Value) (b2 b5 b6 b7 : Bool) (v2 v5 p6 p7 : Value) (w : World) : Prop where
  below : Below w0.heap.size w0 w
  c2 : b2 = true → v2 = V2
  c5 : b5 = true → v5 = V5
  a6 : b6 = true → ∃ g, p6 = .pointer (some ⟨g, 0, none⟩) ∧ w0.heap.size ≤ g ∧ Block w g t Z
  a7 : b7 = true → ∃ g, p7 = .pointer (some ⟨g, 0, none⟩) ∧ w0.heap.size ≤ g ∧ Block w g t Z
  ne : b6 = true → b7 = true → p6 ≠ p7
theorem Inv4.later {w0 w w' : World} {t : TypeId} {Z : List Value} {V2 V5 : Value} {b2 b5 b6 b7 : Bool} {v2 v5 p6 p7 : Value} (h : Inv4 w0 t Z V2 V5 b2 b5 b6 b7 v2 v5 p6 p7 w) (hb : Below w.heap.size w w') :
    Inv4 w0 t Z V2 V5 b2 b5 b6 b7 v2 v5 p6 p7 w' :=
  ⟨h.below.trans (hb.mono h.below.size), h.c2, h.c5, fun e => (h.a6 e).imp fun g ⟨h1, h2, h3⟩ => ⟨h1, h2, h3.later hb⟩, fun e => (h.a7 e).imp fun g ⟨h1, h2, h3⟩ => ⟨h1, h2, h3.later hb⟩, h.ne⟩

theorem four (a0 : Act) (w0 : World) (t : TypeId) (Z : List Value) (V2 V5 : Value) (d2 d5 d6 d7 : Nat) (o2 o5 o6 o7 : Oper) (F : FuncId) (x2 x5 : Array Value)
    (n25 : d2 ≠ d5) (n26 : d2 ≠ d6) (n27 : d2 ≠ d7) (n56 : d5 ≠ d6) (n57 : d5 ≠ d7) (n67 : d6 ≠ d7)
    (l2 : l[2]? = some o2) (l5 : l[5]? = some o5) (l6 : l[6]? = some o6) (l7 : l[7]? = some o7)
    (g2 : o2.guard = none) (g5 : o5.guard = none) (g6 : o6.guard = none) (g7 : o7.guard = none)
    (s2 : o2.dst = some d2) (s5 : o5.dst = some d5) (s6 : o6.dst = some d6) (s7 : o7.dst = some d7)
    (hready : ∀ b2 b5 b6 b7, (b5 = true → b2 = true) → (b2 && b5 && b6 && b7) = false →
      Region.ready md l.toArray #[true, true, b2, true, true, b5, b6, b7, false, false] = (if b2 = true then (if b5 = true then [] else [5]) else [2]) ++ ((if b6 = true then [] else [6]) ++ (if b7 = true then [] else [7])))
    (r2 : ∀ v2 v5 p6 p7 w, (execOp (at4 a0 d2 d5 d6 d7 v2 v5 p6 p7).eval o2).run P w = .ok (.enter F x2) w)
    (r5 : ∀ v2 v5 p6 p7 w, (execOp (at4 a0 d2 d5 d6 d7 v2 v5 p6 p7).eval o5).run P w = .ok (.enter F x5) w)
    (r6 : ∀ v2 v5 p6 p7 w, (execOp (at4 a0 d2 d5 d6 d7 v2 v5 p6 p7).eval o6).run P w = .ok (.value (.pointer (some ⟨w.heap.size, 0, none⟩))) (w.alloc (.cells Z.toArray t)))
    (r7 : ∀ v2 v5 p6 p7 w, (execOp (at4 a0 d2 d5 d6 d7 v2 v5 p6 p7).eval o7).run P w = .ok (.value (.pointer (some ⟨w.heap.size, 0, none⟩))) (w.alloc (.cells Z.toArray t)))
    (k2 : ∀ w, Calls P F x2 w fun e w' => e = .returned V2 ∧ Below w.heap.size w w') (k5 : ∀ w, Calls P F x5 w fun e w' => e = .returned V5 ∧ Below w.heap.size w w')
    (rest : ∀ g g' w', w0.heap.size ≤ g → w0.heap.size ≤ g' → g ≠ g' → Block w' g t Z → Block w' g' t Z → Below w0.heap.size w0 w' →
      wpAnyH P md l.toArray (NoPanic Q) (Below w0.heap.size w0) 2 #[true, true, true, true, true, true, true, true, false, false] (at4 a0 d2 d5 d6 d7 V2 V5 (.pointer (some ⟨g, 0, none⟩)) (.pointer (some ⟨g', 0, none⟩))) w') :
    ∀ (n : Nat) (b2 b5 b6 b7 : Bool) (v2 v5 p6 p7 : Value) (w : World), (b5 = true → b2 = true) → n = (if b2 = true then 0 else 1) + (if b5 = true then 0 else 1) + (if b6 = true then 0 else 1) + (if b7 = true then 0 else 1) →
      Inv4 w0 t Z V2 V5 b2 b5 b6 b7 v2 v5 p6 p7 w →
      wpAnyH P md l.toArray (NoPanic Q) (Below w0.heap.size w0) (n + 2) #[true, true, b2, true, true, b5, b6, b7, false, false] (at4 a0 d2 d5 d6 d7 v2 v5 p6 p7) w := by
  have e2 : ∀ v2 v5 p6 p7 v, (at4 a0 d2 d5 d6 d7 v2 v5 p6 p7).put (some d2) v = at4 a0 d2 d5 d6 d7 v v5 p6 p7 := by
    intro v2 v5 p6 p7 v
    unfold at4
    rw [put_comm _ d7 d2 _ _ n27.symm, put_comm _ d6 d2 _ _ n26.symm, put_comm _ d5 d2 _ _ n25.symm, put_same]
  have e5 : ∀ v2 v5 p6 p7 v, (at4 a0 d2 d5 d6 d7 v2 v5 p6 p7).put (some d5) v = at4 a0 d2 d5 d6 d7 v2 v p6 p7 := by
    intro v2 v5 p6 p7 v
    unfold at4
    rw [put_comm _ d7 d5 _ _ n57.symm, put_comm _ d6 d5 _ _ n56.symm, put_same]
  have e6 : ∀ v2 v5 p6 p7 v, (at4 a0 d2 d5 d6 d7 v2 v5 p6 p7).put (some d6) v = at4 a0 d2 d5 d6 d7 v2 v5 v p7 := by
    intro v2 v5 p6 p7 v
    unfold at4
    rw [put_comm _ d7 d6 _ _ n67.symm, put_same]
  have e7 : ∀ v2 v5 p6 p7 v, (at4 a0 d2 d5 d6 d7 v2 v5 p6 p7).put (some d7) v = at4 a0 d2 d5 d6 d7 v2 v5 p6 v := by
    intro v2 v5 p6 p7 v
    unfold at4
    rw [put_same]
  have hal : ∀ w : World, Below w.heap.size w (w.alloc (.cells Z.toArray t)) := fun w => (Below.refl _ w).alloc (Nat.le_refl _) _
  intro n
  induction n with
  | zero =>
    intro b2 b5 b6 b7 v2 v5 p6 p7 w h25 hn inv
    cases b2 <;> cases b5 <;> cases b6 <;> cases b7 <;> simp at hn
    obtain rfl := inv.c2 rfl
    obtain rfl := inv.c5 rfl
    obtain ⟨g, rfl, hg, hB⟩ := inv.a6 rfl
    obtain ⟨g', rfl, hg', hB'⟩ := inv.a7 rfl
    exact rest g g' w hg hg' (by rintro rfl; exact inv.ne rfl rfl rfl) hB hB' inv.below
  | succ n ih =>
    intro b2 b5 b6 b7 v2 v5 p6 p7 w h25 hn inv
    have hall : (b2 && b5 && b6 && b7) = false := by
      cases b2 <;> cases b5 <;> cases b6 <;> cases b7 <;> simp at hn ⊢
    have hr := hready b2 b5 b6 b7 h25 hall
    refine every ?_ ?_
    · rw [hr]
      cases b2 <;> cases b5 <;> cases b6 <;> cases b7 <;> simp at hall ⊢
    · rw [hr]
      intro i hi
      simp only [List.mem_append] at hi
      rcases hi with hi | hi | hi
      · cases b2 with
        | false =>
          obtain rfl : i = 2 := by simpa using hi
          obtain rfl : b5 = false := by cases b5 <;> simp at h25 ⊢
          refine ⟨o2, l2, g2, .inr ⟨F, x2, r2 _ _ _ _ _, (k2 w).mono ?_⟩⟩
          rintro e w' ⟨rfl, hb⟩
          refine ⟨V2, rfl, (inv.later hb).below, ?_⟩
          rw [s2, e2]
          have i' := inv.later hb
          exact ih true false b6 b7 V2 v5 p6 p7 w' (by simp) (by simp at hn ⊢; omega) ⟨i'.below, fun _ => rfl, i'.c5, i'.a6, i'.a7, i'.ne⟩
        | true =>
          cases b5 with
          | true => simp at hi
          | false =>
            obtain rfl : i = 5 := by simpa using hi
            refine ⟨o5, l5, g5, .inr ⟨F, x5, r5 _ _ _ _ _, (k5 w).mono ?_⟩⟩
            rintro e w' ⟨rfl, hb⟩
            refine ⟨V5, rfl, (inv.later hb).below, ?_⟩
            rw [s5, e5]
            have i' := inv.later hb
            exact ih true true b6 b7 v2 V5 p6 p7 w' (by simp) (by simp at hn ⊢; omega) ⟨i'.below, i'.c2, fun _ => rfl, i'.a6, i'.a7, i'.ne⟩
      · cases b6 with
        | true => simp at hi
        | false =>
          obtain rfl : i = 6 := by simpa using hi
          refine ⟨o6, l6, g6, .inl ⟨_, _, r6 _ _ _ _ _, (inv.later (hal w)).below, ?_⟩⟩
          rw [s6, e6]
          have i' := inv.later (hal w)
          refine ih b2 b5 true b7 v2 v5 _ p7 _ h25 (by simp at hn ⊢; omega) ⟨i'.below, i'.c2, i'.c5, fun _ => ⟨_, rfl, inv.below.size, Block.new w t Z⟩, i'.a7, fun _ e7 => ?_⟩
          obtain ⟨g, rfl, _, hB⟩ := inv.a7 e7
          have := hB.lt
          simp only [ne_eq, Value.pointer.injEq, Option.some.injEq, Addr.mk.injEq, and_true]
          omega
      · cases b7 with
        | true => simp at hi
        | false =>
          obtain rfl : i = 7 := by simpa using hi
          refine ⟨o7, l7, g7, .inl ⟨_, _, r7 _ _ _ _ _, (inv.later (hal w)).below, ?_⟩⟩
          rw [s7, e7]
          have i' := inv.later (hal w)
          refine ih b2 b5 b6 true v2 v5 p6 _ _ h25 (by simp at hn ⊢; omega) ⟨i'.below, i'.c2, i'.c5, i'.a6, fun _ => ⟨_, rfl, inv.below.size, Block.new w t Z⟩, fun e6 _ => ?_⟩
          obtain ⟨g, rfl, _, hB⟩ := inv.a6 e6
          have := hB.lt
          simp only [ne_eq, Value.pointer.injEq, Option.some.injEq, Addr.mk.injEq, and_true]
          omega
theorem Rest.to4 {f : Nat} {listed : Array Bool} {a : Act} {w : World} (d2 d5 d6 d7 : Nat) (hf : f = 6) (hl : listed = #[true, true, false, true, true, false, false, false, false, false]) (ha : at4 a d2 d5 d6 d7 undef undef undef undef = a)
    (h : wpAnyH P md l.toArray (NoPanic Q) (Below w.heap.size w) 6 #[true, true, false, true, true, false, false, false, false, false] (at4 a d2 d5 d6 d7 undef undef undef undef) w) : Rest P md l Q f listed a w := by
  subst hf hl
  rw [ha] at h
  exact h
end
end Go.Proofs.Ytpdnfiofjkbeiaa.plan
/- A region whose order is open: a row that is made (1), the row turned (2), a call that reads it (C), one behind the other, and a new variable (B) that may come up at any time. Whatever the order, behind the four the state is the same but for where the variable lies. No condition. -/
namespace Go.Proofs.Ytpdnfiofjkbeiaa.plan
open Go Go.RowKit
set_option linter.unusedVariables false

section
variable {P : Program} {md : Region.Mode} {Q : Exit → Act → World → Prop} {l : List Oper}

/-- an operation that looks at no memory is taken first -/
theorem freeS {S : World → Prop} {f : Nat} {listed : Array Bool} {a : Act} {w : World} (i : Nat) (o : Oper) (v : Value) (hi : l[i]? = some o) (hs : Region.noSelect l.toArray = true) (hf : Region.free md l.toArray listed i = true)
    (hr : (Region.ready md l.toArray listed).contains i = true) (hw : Region.wanted o (yielded l.toArray a.tmps) = true) (hv : ∀ w', (execOp a.eval o).run P w' = .ok (.value v) w') (hS : S w)
    (h : wpAnyH P md l.toArray (NoPanic Q) S f (listed.setIfInBounds i true) (a.put o.dst v) w) : wpAnyH P md l.toArray (NoPanic Q) S (f + 1) listed a w :=
  wpAnyH_take (by simpa using hi) hs hf hr (fun c a' w' h => h) (.inl ⟨hw, fun w' _ => hv w'⟩) hS h
/-- the only operation that may come up yields a value -/
theorem oneS {S : World → Prop} {f : Nat} {listed : Array Bool} {a : Act} {w w1 : World} (i : Nat) (o : Oper) (v : Value) (hi : l[i]? = some o) (hg : o.guard = none) (hr : Region.ready md l.toArray listed = [i])
    (hv : (execOp a.eval o).run P w = .ok (.value v) w1) (hS : S w1) (h : wpAnyH P md l.toArray (NoPanic Q) S f (listed.setIfInBounds i true) (a.put o.dst v) w1) : wpAnyH P md l.toArray (NoPanic Q) S (f + 1) listed a w := by
  refine every (by rw [hr]; simp) fun j hj => ?_
  rw [hr] at hj
  obtain rfl : j = i := by simpa using hj
  exact ⟨o, hi, hg, .inl ⟨v, w1, hv, hS, h⟩⟩
theorem doneS {S : World → Prop} {listed : Array Bool} {a : Act} {w : World} (hr : Region.ready md l.toArray listed = []) (h : Q .normal a w) : wpAnyH P md l.toArray (NoPanic Q) S 0 listed a w := ⟨hr, NoPanic.normal h⟩

theorem toS {S : World → Prop} {n : Nat} {listed : Array Bool} {a : Act} {w : World} (dA eA dB eB f : Nat) (L : Bool → Bool → Bool → Bool → Array Bool) (hf : n = f + 4) (hl : listed = L false false false false) (ha : at4 a dA eA dB eB undef undef undef undef = a)
    (h : wpAnyH P md l.toArray (NoPanic Q) S (f + 4) (L false false false false) (at4 a dA eA dB eB undef undef undef undef) w) : wpAnyH P md l.toArray (NoPanic Q) S n listed a w := by
  subst hf hl
  rw [ha] at h
  exact h
theorem drift (a0 : Act) (w0 : World) (i1 i2 iC iB d1 d2 dC dB f : Nat) (n1 : d1 ≠ d2) (n2 : d1 ≠ dC) (n3 : d1 ≠ dB) (n4 : d2 ≠ dC) (n5 : d2 ≠ dB) (n6 : dC ≠ dB) (o1 o2 oC oB : Oper) (L : Bool → Bool → Bool → Bool → Array Bool)
    (l1 : l[i1]? = some o1) (l2 : l[i2]? = some o2) (lC : l[iC]? = some oC) (lB : l[iB]? = some oB) (g1 : o1.guard = none) (g2 : o2.guard = none) (gC : oC.guard = none) (gB : oB.guard = none)
    (s1 : o1.dst = some d1) (s2 : o2.dst = some d2) (sC : oC.dst = some dC) (sB : oB.dst = some dB)
    (e1 : ∀ q r s, (L false q r s).setIfInBounds i1 true = L true q r s) (e2 : ∀ p r s, (L p false r s).setIfInBounds i2 true = L p true r s) (eC : ∀ p q s, (L p q false s).setIfInBounds iC true = L p q true s) (eB : ∀ p q r, (L p q r false).setIfInBounds iB true = L p q r true)
    (q0 : Region.ready md l.toArray (L false false false false) = [i1, iB]) (k0 : Region.ready md l.toArray (L false false false true) = [i1])
    (q1 : Region.ready md l.toArray (L true false false false) = [i2, iB]) (k1 : Region.ready md l.toArray (L true false false true) = [i2])
    (q2 : Region.ready md l.toArray (L true true false false) = [iC, iB]) (k2 : Region.ready md l.toArray (L true true false true) = [iC])
    (R1 R2 RC : Value → World → Prop) (N : Value → Nat → Prop) (t : TypeId) (cs : List Value)
    (r1 : ∀ u v x y w, Below w0.heap.size w0 w → ∃ z w', (execOp (at4 a0 d1 d2 dC dB u v x y).eval o1).run P w = .ok (.value z) w' ∧ Below w.heap.size w w' ∧ R1 z w' ∧ ∀ g, g < w.heap.size → N z g)
    (rB : ∀ u v x y w, (execOp (at4 a0 d1 d2 dC dB u v x y).eval oB).run P w = .ok (.value (.pointer (some ⟨w.heap.size, 0, none⟩))) (w.alloc (.cells cs.toArray t)))
    (t1 : ∀ z w, R1 z w → R1 z (w.alloc (.cells cs.toArray t)) ∧ N z w.heap.size)
    (r2 : ∀ z v x y w, Below w0.heap.size w0 w → R1 z w → ∃ z2 w', (execOp (at4 a0 d1 d2 dC dB z v x y).eval o2).run P w = .ok (.value z2) w' ∧ Below w0.heap.size w0 w' ∧ R2 z2 w' ∧ ∀ g, N z g → Block w g t cs → Block w' g t cs)
    (t2 : ∀ z w, R2 z w → R2 z (w.alloc (.cells cs.toArray t)))
    (rC : ∀ z z2 x y w, Below w0.heap.size w0 w → R2 z2 w → ∃ F args, (execOp (at4 a0 d1 d2 dC dB z z2 x y).eval oC).run P w = .ok (.enter F args) w ∧ Calls P F args w fun e w' => ∃ v, e = .returned v ∧ Below w.heap.size w w' ∧ RC v w')
    (rest : ∀ z z2 v g w', RC v w' → Block w' g t cs → w0.heap.size ≤ g → Below w0.heap.size w0 w' → wpAnyH P md l.toArray (NoPanic Q) (Below w0.heap.size w0) f (L true true true true) (at4 a0 d1 d2 dC dB z z2 v (.pointer (some ⟨g, 0, none⟩))) w')
    (late : ∀ z z2 v y w', RC v w' → Below w0.heap.size w0 w' → wpAnyH P md l.toArray (NoPanic Q) (Below w0.heap.size w0) (f + 1) (L true true true false) (at4 a0 d1 d2 dC dB z z2 v y) w')
    (u v x y : Value) :
    wpAnyH P md l.toArray (NoPanic Q) (Below w0.heap.size w0) (f + 4) (L false false false false) (at4 a0 d1 d2 dC dB u v x y) w0 := by
  have p1 : ∀ u v x y z, (at4 a0 d1 d2 dC dB u v x y).put (some d1) z = at4 a0 d1 d2 dC dB z v x y := by
    intro u v x y z
    unfold at4
    rw [put_comm _ dB d1 _ _ n3.symm, put_comm _ dC d1 _ _ n2.symm, put_comm _ d2 d1 _ _ n1.symm, put_same]
  have p2 : ∀ u v x y z, (at4 a0 d1 d2 dC dB u v x y).put (some d2) z = at4 a0 d1 d2 dC dB u z x y := by
    intro u v x y z
    unfold at4
    rw [put_comm _ dB d2 _ _ n5.symm, put_comm _ dC d2 _ _ n4.symm, put_same]
  have pC : ∀ u v x y z, (at4 a0 d1 d2 dC dB u v x y).put (some dC) z = at4 a0 d1 d2 dC dB u v z y := by
    intro u v x y z
    unfold at4
    rw [put_comm _ dB dC _ _ n6.symm, put_same]
  have pB : ∀ u v x y z, (at4 a0 d1 d2 dC dB u v x y).put (some dB) z = at4 a0 d1 d2 dC dB u v x z := by
    intro u v x y z
    unfold at4
    rw [put_same]
  have st : ∀ {w w' : World}, Below w0.heap.size w0 w → Below w.heap.size w w' → Below w0.heap.size w0 w' := fun h k => h.trans (k.mono h.size)
  have al : ∀ (w : World), Below w.heap.size w (w.alloc (.cells cs.toArray t)) := fun w => (Below.refl _ _).alloc (Nat.le_refl _) _
  -- backwards through the states
  have c3 : ∀ z z2 x g w, R2 z2 w → Block w g t cs → w0.heap.size ≤ g → Below w0.heap.size w0 w → wpAnyH P md l.toArray (NoPanic Q) (Below w0.heap.size w0) (f + 1) (L true true false true) (at4 a0 d1 d2 dC dB z z2 x (.pointer (some ⟨g, 0, none⟩))) w := fun z z2 x g w h2 hB hg hb => by
    refine every (by rw [k2]; simp) fun i hi => ?_
    rw [k2] at hi
    obtain rfl : i = iC := by simpa using hi
    obtain ⟨F, args, hv, hc⟩ := rC z z2 x (.pointer (some ⟨g, 0, none⟩)) w hb h2
    refine ⟨oC, lC, gC, .inr ⟨F, args, hv, hc.mono ?_⟩⟩
    rintro e w' ⟨v, rfl, hb', hR⟩
    refine ⟨v, rfl, st hb hb', ?_⟩
    rw [eC, sC, pC]
    exact rest _ _ _ _ _ hR (hB.later hb') hg (st hb hb')
  have c2 : ∀ z z2 x y w, R2 z2 w → Below w0.heap.size w0 w → wpAnyH P md l.toArray (NoPanic Q) (Below w0.heap.size w0) (f + 2) (L true true false false) (at4 a0 d1 d2 dC dB z z2 x y) w := fun z z2 x y w h2 hb => by
    refine every (by rw [q2]; simp) fun i hi => ?_
    rw [q2] at hi
    rcases List.mem_cons.1 hi with rfl | hi
    · obtain ⟨F, args, hv, hc⟩ := rC z z2 x y w hb h2
      refine ⟨oC, lC, gC, .inr ⟨F, args, hv, hc.mono ?_⟩⟩
      rintro e w' ⟨v, rfl, hb', hR⟩
      refine ⟨v, rfl, st hb hb', ?_⟩
      rw [eC, sC, pC]
      exact late _ _ _ _ _ hR (st hb hb')
    · obtain rfl : i = iB := by simpa using hi
      refine ⟨oB, lB, gB, .inl ⟨_, _, rB z z2 x y w, st hb (al w), ?_⟩⟩
      rw [eB, sB, pB]
      exact c3 _ _ _ _ _ (t2 _ _ h2) (Block.new w t cs) hb.size (st hb (al w))
  have b3 : ∀ z v x g w, R1 z w → N z g → Block w g t cs → w0.heap.size ≤ g → Below w0.heap.size w0 w → wpAnyH P md l.toArray (NoPanic Q) (Below w0.heap.size w0) (f + 2) (L true false false true) (at4 a0 d1 d2 dC dB z v x (.pointer (some ⟨g, 0, none⟩))) w := fun z v x g w h1 hN hB hg hb => by
    obtain ⟨z2, w', hv, hb', h2, hk⟩ := r2 z v x (.pointer (some ⟨g, 0, none⟩)) w hb h1
    refine oneS i2 o2 z2 l2 g2 k1 hv hb' ?_
    rw [e2, s2, p2]
    exact c3 _ _ _ _ _ h2 (hk g hN hB) hg hb'
  have b2 : ∀ z v x y w, R1 z w → Below w0.heap.size w0 w → wpAnyH P md l.toArray (NoPanic Q) (Below w0.heap.size w0) (f + 3) (L true false false false) (at4 a0 d1 d2 dC dB z v x y) w := fun z v x y w h1 hb => by
    refine every (by rw [q1]; simp) fun i hi => ?_
    rw [q1] at hi
    rcases List.mem_cons.1 hi with rfl | hi
    · obtain ⟨z2, w', hv, hb', h2, hk⟩ := r2 z v x y w hb h1
      refine ⟨o2, l2, g2, .inl ⟨z2, w', hv, hb', ?_⟩⟩
      rw [e2, s2, p2]
      exact c2 _ _ _ _ _ h2 hb'
    · obtain rfl : i = iB := by simpa using hi
      refine ⟨oB, lB, gB, .inl ⟨_, _, rB z v x y w, st hb (al w), ?_⟩⟩
      rw [eB, sB, pB]
      exact b3 _ _ _ _ _ (t1 _ _ h1).1 (t1 _ _ h1).2 (Block.new w t cs) hb.size (st hb (al w))
  refine every (by rw [q0]; simp) fun i hi => ?_
  rw [q0] at hi
  rcases List.mem_cons.1 hi with rfl | hi
  · obtain ⟨z, w', hv, hb', h1, hk⟩ := r1 u v x y w0 (Below.refl _ _)
    refine ⟨o1, l1, g1, .inl ⟨z, w', hv, hb', ?_⟩⟩
    rw [e1, s1, p1]
    exact b2 _ _ _ _ _ h1 hb'
  · obtain rfl : i = iB := by simpa using hi
    refine ⟨oB, lB, gB, .inl ⟨_, _, rB u v x y w0, al w0, ?_⟩⟩
    rw [eB, sB, pB]
    obtain ⟨z, w', hv, hb', h1, hk⟩ := r1 u v x (.pointer (some ⟨w0.heap.size, 0, none⟩)) (w0.alloc (.cells cs.toArray t)) (al w0)
    refine oneS i1 o1 z l1 g1 k0 hv (st (al w0) hb') ?_
    rw [e1, s1, p1]
    exact b3 _ _ _ _ _ h1 (hk _ (by simp)) ((Block.new w0 t cs).later hb') (Nat.le_refl _) (st (al w0) hb')
end
end Go.Proofs.Ytpdnfiofjkbeiaa.plan
/- A region whose order is open, walked under a condition S on the world that every operation keeps. No condition. -/
namespace Go.Proofs.Ytpdnfiofjkbeiaa.plan
open Go Go.RowKit
set_option linter.unusedVariables false
section
variable {P : Program} {md : Region.Mode} {Q : Exit → Act → World → Prop} {l : List Oper}
/-- an operation that yields its value in every world that meets S is taken first -/
theorem firstS {S : World → Prop} {f : Nat} {listed : Array Bool} {a : Act} {w : World} (i : Nat) (o : Oper) (v : Value) (hi : l[i]? = some o) (hs : Region.noSelect l.toArray = true) (hf : Region.free md l.toArray listed i = true)
    (hr : (Region.ready md l.toArray listed).contains i = true) (hw : Region.wanted o (yielded l.toArray a.tmps) = true) (hv : ∀ w', S w' → (execOp a.eval o).run P w' = .ok (.value v) w') (hS : S w)
    (h : wpAnyH P md l.toArray (NoPanic Q) S f (listed.setIfInBounds i true) (a.put o.dst v) w) : wpAnyH P md l.toArray (NoPanic Q) S (f + 1) listed a w :=
  wpAnyH_take (by simpa using hi) hs hf hr (fun c a' w' h => h) (.inl ⟨hw, hv⟩) hS h
/-- a call, the only operation that may come up -/
theorem callS {S : World → Prop} {f : Nat} {listed : Array Bool} {a : Act} {w : World} (i : Nat) (o : Oper) (F : FuncId) (args : Array Value) (hi : l[i]? = some o) (hr : Region.ready md l.toArray listed = [i])
    (hw : Region.wanted o (yielded l.toArray a.tmps) = true) (hv : (execOp a.eval o).run P w = .ok (.enter F args) w)
    (h : Calls P F args w fun e w' => ∃ v, e = .returned v ∧ S w' ∧ wpAnyH P md l.toArray (NoPanic Q) S f (listed.setIfInBounds i true) (a.put o.dst v) w') : wpAnyH P md l.toArray (NoPanic Q) S (f + 1) listed a w := by
  refine wpAnyH_all hr (by simp) fun j hj => ?_
  obtain rfl : j = i := by simpa using hj
  have hi' : l.toArray[j]? = some o := by simpa using hi
  unfold wpOp
  simp only [hi', hw, if_true, Oper.wp, hv, Oper.upon]
  refine .inl (h.mono ?_)
  rintro e w' ⟨v, rfl, hS, hR⟩
  exact ⟨hS, hR⟩
theorem regionS {S : World → Prop} {id : Nat} {a : Act} {w : World} (hmx : P.follows .mixedOrders = true) (h : wpAnyH P .any l.toArray (NoPanic Q) S l.length (Array.replicate l.length false) a w.drew) : (Code.region id l.toArray true).wp P Q a w := by
  refine wp_region_noPanic (wp_region_held (S := S) hmx ?_)
  have e : l.toArray.size = l.length := by simp
  rw [e]
  exact h
end
end Go.Proofs.Ytpdnfiofjkbeiaa.plan
/- What stays where other blocks turn: blocks of a type that none of the turned ones has. No condition. -/
namespace Go.Proofs.Ytpdnfiofjkbeiaa.schema
open Go.RowKit
set_option linter.unusedVariables false

/-- every block of type e stays -/
def StayT (e : TypeId) (w w' : World) : Prop := ∀ (k : Nat) (cs : Array Value) (fr : Nat × Nat), w.heap[k]? = some (Obj.cells cs e fr) → w'.heap[k]? = some (Obj.cells cs e fr)
theorem StayT.trans {e : TypeId} {a b c : World} (h : StayT e a b) (k : StayT e b c) : StayT e a c := fun i cs fr hi => k i cs fr (h i cs fr hi)
theorem stay_below (e : TypeId) {w w' : World} (hb : Below w.heap.size w w') : StayT e w w' := fun k cs fr hk => (hb.block k (Array.getElem?_eq_some_iff.1 hk).1).trans hk
theorem stay_but (e : TypeId) {b : Nat} {t : TypeId} {cs : List Value} {w w' : World} (hb : But w.heap.size b w w') (hB : Block w b t cs) (ht : t ≠ e) : StayT e w w' := by
  intro k cs' fr hk
  refine (hb.2.2.2.2 k (Array.getElem?_eq_some_iff.1 hk).1 ?_).trans hk
  rintro rfl
  unfold Block at hB
  rw [hB] at hk
  exact ht (Obj.cells.inj (Option.some.inj hk)).2.1
theorem stay_grown (e : TypeId) {B e2 sz n : Nat} {u : Value} {xs : List Value} {w w' : World} (ho : w.ownsRow B e2 sz u n xs) (hg : w.grownBy w' u.ownBlock) (ht : e2 ≠ e) : StayT e w w' := by
  intro k cs fr hk
  refine (hg.block k (Array.getElem?_eq_some_iff.1 hk).1 ?_).trans hk
  intro he
  rcases ho.2 with ⟨hv, _⟩ | ⟨g, cap, cur, hv, _, hh, _⟩
  · rw [hv] at he; simp [Value.ownBlock] at he
  · rw [hv] at he
    simp [Value.ownBlock] at he
    subst he
    rw [hh] at hk
    exact ht (Obj.cells.inj (Option.some.inj hk)).2.1
theorem stay_store (e : TypeId) {g : Nat} {t : TypeId} {cs : List Value} {w : World} (hB : Block w g t cs) (ht : t ≠ e) (o : Nat) (v : Value) : StayT e w (w.setCell ⟨g, o, none⟩ v) := by
  intro k cs' fr hk
  refine (Below.heap_setCell w ⟨g, o, none⟩ v k ?_).trans hk
  rintro rfl
  unfold Block at hB
  rw [hB] at hk
  exact ht (Obj.cells.inj (Option.some.inj hk)).2.1
theorem StayT.block {w w' : World} {k : Nat} {e : TypeId} {cs : List Value} (h : StayT e w w') (hB : Block w k e cs) : Block w' k e cs := h k _ _ hB
theorem StayT.row {w w' : World} {B e sz n : Nat} {v : Value} {xs : List Value} (h : StayT e w w') (ho : w.ownsRow B e sz v n xs) : w'.ownsRow B e sz v n xs := by
  refine ⟨ho.1, ?_⟩
  rcases ho.2 with h0 | ⟨g, cap, cur, hv, h1, hg, h2⟩
  · exact .inl h0
  · exact .inr ⟨g, cap, cur, hv, h1, h g _ _ hg, h2⟩
/-- one append of one element onto a row of the call's own, run by itself -/
theorem exec_push {o : Oper} {act : Act} {w : World} {x y : Operand} {u : Value} {B n g sz bytes : Nat} {t e : TypeId} {i : TypeInfo} {z : Value} {xs news : List Value}
    (ht : Try.prog.underlying t = some (.slice e)) (hi : Try.prog.info? e = some i) (hz : i.zero = some z) (hsz : i.size = sz) (hby : i.bytes = bytes) (hzs : z.cells.size = sz) (h0 : 0 < sz)
    (ho : o.op = .call { callee := .builtin .append, args := #[x, y], argTypes := #[t, t] }) (hx : act.eval x = u) (hy : act.eval y = .slice (some ⟨g, 0, none⟩) 1 1)
    (hown : w.ownsRow B e sz u n xs) (hl : news.length = sz) (hc : ∀ j v, news[j]? = some v → w.cell? ⟨g, j, none⟩ = some v) (h1 : ∀ v ∈ news, v.oneCell' = true) (hbytes : (n + 1) * bytes ≤ 140737488355328) (hn : n + 1 ≤ 1000000) (hB : B ≤ w.heap.size) :
    ∃ q w', (execOp act.eval o).run Try.prog w = .ok (.value q) w' ∧ w'.ownsRow B e sz q (n + 1) (xs ++ news) ∧ w.grownBy w' u.ownBlock := by
  obtain ⟨q, w', h2, h3, h4, _, _⟩ := run_append_own_at w B t o.type e i z sz bytes ht hi hz hsz hby hzs h0 u n xs hown ⟨g, 0, none⟩ 1 1 news (by omega)
    (fun j v hj => by rw [Addr.add_lit, Nat.zero_add]; exact hc j v hj) h1 (by unfold maxLen; omega) hbytes hB
  refine ⟨q, w', ?_, h3, h4⟩
  unfold execOp
  simp [ho, resolve, invoke, builtin, hx, hy, h2, Result.andThen]
theorem own_cap {w : World} {base n sz : Nat} {a : Option Addr} {cap : Nat} {xs : List Value} {e : TypeId} (h : w.ownsRow base e sz (.slice a n cap) n xs) : n ≤ cap ∧ cap ≤ maxLen := by
  rcases h.2 with ⟨hv, h0⟩ | ⟨b, cap', cur, hv, _, hg, h1, h2, _⟩
  · cases hv; exact ⟨by omega, by unfold maxLen; omega⟩
  · cases hv; exact ⟨h1, h2⟩
theorem exec_cell_slice' {o : Oper} {a : Act} {w : World} {ty : TypeId} {x : Operand} {ad : Addr} {q : Option Addr} {n c : Nat} (ho : o.op = .load ty x) (hx : a.eval x = .pointer (some ad)) (hc : w.cell? ad = some (.slice q n c)) (hu : ∀ w', (isAgg ty).run Try.prog w' = .ok false w') :
    (execOp a.eval o).run Try.prog w = .ok (.value (.slice q n c)) w := by
  unfold execOp
  rw [ho]
  simp only [hx]
  go_simp
end Go.Proofs.Ytpdnfiofjkbeiaa.schema
namespace Go.Proofs.Ytpdnfiofjkbeiaa.plan
open Go Go.RowKit
/-- the only operation that may come up is a store, the last -/
theorem lastS {P : Program} {md : Region.Mode} {Q : Exit → Act → World → Prop} {l : List Oper} {S : World → Prop} {listed : Array Bool} {a : Act} {w w1 : World} (i : Nat) (o : Oper) (hi : l[i]? = some o) (hg : o.guard = none) (hd : o.dst = none) (hr : Region.ready md l.toArray listed = [i]) (hr2 : Region.ready md l.toArray (listed.setIfInBounds i true) = [])
    (hv : (execOp a.eval o).run P w = .ok .skip w1) (hS : S w1) (h : Q .normal a w1) : wpAnyH P md l.toArray (NoPanic Q) S 1 listed a w := by
  refine wpAnyH_all hr (by simp) fun j hj => ?_
  obtain rfl : j = i := by simpa using hj
  have hi' : l.toArray[j]? = some o := by simpa using hi
  have hw : Region.wanted o (yielded l.toArray a.tmps) = true := by unfold Region.wanted; rw [hg]
  unfold wpOp
  have e : a.put o.dst undef = a := by rw [hd]; rfl
  simp only [hi', hw, if_true, Oper.wp, hv, Oper.upon]
  exact .inl ⟨hS, hr2, NoPanic.normal (by rw [e]; exact h)⟩
theorem toL {P : Program} {md : Region.Mode} {Q : Exit → Act → World → Prop} {l : List Oper} {n : Nat} {listed : Array Bool} {a : Act} {w : World} (f : Nat) (L : Bool → Bool → Bool → Array Bool) (hf : n = f + 3) (hl : listed = L false false false)
    (h : wpAnyH P md l.toArray (NoPanic Q) (fun _ => True) (f + 3) (L false false false) a w) : wpAnyH P md l.toArray (NoPanic Q) (fun _ => True) n listed a w := by
  subst hf hl
  exact h
end Go.Proofs.Ytpdnfiofjkbeiaa.plan
/- An eye stays where later blocks turn. No condition. -/
namespace Go.Proofs.Ytpdnfiofjkbeiaa.schema
open Go.RowKit Go.Proofs.Ytpdnfiofjkbeiaa.pen
set_option linter.unusedVariables false

theorem EyeAt.blk {t : TypeId} {b : Nat} {s : Sight} {w : World} (h : EyeAt t b s w) : ∃ cs, Block w b t cs := by
  obtain ⟨_, _, a, c, h3, _⟩ := h
  exact ⟨_, h3⟩
/-- what turns a later block leaves an eye alone -/
theorem eye_past {t : TypeId} {b g : Nat} {s : Sight} {w w' : World} (h : EyeAt t b s w) (hg : b < g) (hb : But w.heap.size g w w') : EyeAt t b s w' := by
  obtain ⟨h1, h2, a, cap, h3, h4, h5, h6⟩ := h
  refine ⟨h1, h2, a, cap, h3.but hb h3.lt (by omega), h4, ?_, h6⟩
  by_cases h0 : s.1.length = 0
  · exact ⟨h5.1, .inl h0⟩
  · exact reads_but h5 hb fun x hx => by have := h6 (by omega) x hx; omega
theorem eye_grown {t : TypeId} {b B e sz n : Nat} {s : Sight} {u : Value} {xs : List Value} {w w' : World} (h : EyeAt t b s w) (ho : w.ownsRow B e sz u n xs) (hg : w.grownBy w' u.ownBlock) (hB : b < B) : EyeAt t b s w' := by
  cases hu : u.ownBlock with
  | none =>
    rw [hu] at hg
    exact h.later ⟨hg.os, hg.tape, hg.output, hg.size, fun k hk => hg.block k hk (by simp)⟩
  | some g =>
    have h1 := World.ownsRow.lt ho g hu
    rw [hu] at hg
    exact eye_past h (by omega) ⟨hg.os, hg.tape, hg.output, hg.size, fun k hk hne => hg.block k hk (fun he => hne (Option.some.inj he))⟩
theorem but_grown {B b e sz n : Nat} {u : Value} {xs : List Value} {a w w' : World} (h : But B b a w) (ho : w.ownsRow B e sz u n xs) (hg : w.grownBy w' u.ownBlock) (hB : B ≤ w.heap.size) : But B b a w' := by
  refine h.trans ⟨hg.os, hg.tape, hg.output, hg.size, fun k hk _ => hg.block k (by omega) ?_⟩
  intro he
  have := World.ownsRow.lt ho k he.symm
  omega
end Go.Proofs.Ytpdnfiofjkbeiaa.schema
/- Contract of layer 15 (step): parseField. No condition. -/
namespace Go.Proofs.Ytpdnfiofjkbeiaa.step
open Go.RowKit Go.Proofs.Ytpdnfiofjkbeiaa.pen
open Go.Proofs.Ytpdnfiofjkbeiaa.schema (eCount_le fd5_info blk_but but_store take_end)
set_option linter.unusedVariables false

set_option maxRecDepth 20000 in
set_option maxHeartbeats 1600000 in
theorem parseField_any (b : Nat) (s : Sight) (w : World) (h : EyeAt 98 b s w) : Calls Try.prog 85 #[.pointer (some ⟨b, 0, none⟩)] w (Saw 98 b ((takeA s).1.val) (takeA s).2 w) := by
  obtain ⟨A, s1, hA⟩ : ∃ A s1, eCount 255 s = (A, s1) := ⟨_, _, rfl⟩
  obtain ⟨K, s2, hK⟩ : ∃ K s2, eCount 4 s1 = (K, s2) := ⟨_, _, rfl⟩
  obtain ⟨lo, s3, hl⟩ : ∃ A s, eInt s2 = (A, s) := ⟨_, _, rfl⟩
  obtain ⟨hi, s4, hg⟩ : ∃ A s, eInt s3 = (A, s) := ⟨_, _, rfl⟩
  obtain ⟨M, s5, hM⟩ : ∃ A s, eCount 1000 s4 = (A, s) := ⟨_, _, rfl⟩
  have hT : takeA s = (⟨A, K, lo, hi, M⟩, s5) := by unfold takeA; simp only [hA, hK, hl, hg, hM]
  rw [hT]
  have hlt := h.lt
  have hb0 : Below w.heap.size w (w.alloc (.cells #[.int .i64 0, .int .i64 0, .int .i64 0, .int .i64 0, .int .i64 0] 23)) := (Below.refl _ _).alloc (Nat.le_refl _) _
  have c1 := eyeCount_any b s _ (h.later hb0) 255 (by omega) (by omega)
  have HR0 := hid (Block.new w 23 [.int .i64 0, .int .i64 0, .int .i64 0, .int .i64 0, .int .i64 0])
  have c2 := fun w' hE => eyeCount_any b s1 w' hE 4 (by omega) (by omega)
  have c3 := fun w' hE => eyeNum_any b s2 w' hE
  have c4 := fun w' hE => eyeNum_any b s3 w' hE
  have c5 := fun w' hE => eyeCount_any b s4 w' hE 1000 (by omega) (by omega)
  rw [hA] at c1
  rw [hK] at c2
  rw [hl] at c3
  rw [hg] at c4
  rw [hM] at c5
  have HB0 := hid hb0
  clear hT hA hK hl hg hM h hb0
  simp only [field.Fd.val] at c1 c2 c3 c4 c5 ⊢
  unfold Saw at c1 c2 c3 c4 c5 ⊢
  have hne : w.heap.size ≠ b := by omega
  go_enter Try.func85, Try.ntmps85
  go_wp2_with (first
    | (go_at_call 40; ((with_reducible refine c1.mono ?_); rintro e w1 ⟨rfl, hE1, hu1⟩; have HR1 := hid (blk_but HR0.out hu1 hne)))
    | (go_at_call 40; ((with_reducible refine (c2 w1 hE1).mono ?_); rintro e w2 ⟨rfl, hE2, hu2⟩; have HR2 := hid (blk_but HR1.out hu2 hne)))
    | (go_at_call 84; ((with_reducible refine (c3 w2 hE2).mono ?_); rintro e w3 ⟨rfl, hE3, hu3⟩; have HR3 := hid (blk_but HR2.out hu3 hne)))
    | (go_at_call 84; ((with_reducible refine (c4 w3 hE3).mono ?_); rintro e w4 ⟨rfl, hE4, hu4⟩; have HR4 := hid (blk_but HR3.out hu4 hne)))
    | (go_at_call 40; ((with_reducible refine (c5 w4 hE4).mono ?_); rintro e w5 ⟨rfl, hE5, hu5⟩; have hR5 := blk_but HR4.out hu5 hne; have HR5 := hid hR5; have x0 := hR5.cell 0; have x1 := hR5.cell 1; have x2 := hR5.cell 2; have x3 := hR5.cell 3; have x4 := hR5.cell 4; have p0 := hR5.frozen 0; have p1 := hR5.frozen 1; have p2 := hR5.frozen 2; have p3 := hR5.frozen 3; have p4 := hR5.frozen 4; clear hR5)))
  have hs1 : w.heap.size ≤ w1.heap.size := Nat.le_trans HB0.out.size hu1.2.2.2.1
  have hs2 : w.heap.size ≤ w2.heap.size := Nat.le_trans hs1 hu2.2.2.2.1
  have hs3 : w.heap.size ≤ w3.heap.size := Nat.le_trans hs2 hu3.2.2.2.1
  have hs4 : w.heap.size ≤ w4.heap.size := Nat.le_trans hs3 hu4.2.2.2.1
  have hb5 := (((((Below.but (g := b) HB0.out).trans (hu1.mono HB0.out.size)).trans (hu2.mono hs1)).trans (hu3.mono hs2)).trans (hu4.mono hs3)).trans (hu5.mono hs4)
  obtain ⟨k1, k2, k3⟩ := take_end (w := w) ⟨A, K, lo, hi, M⟩ hE5 HR5.out hne (Nat.le_refl _) hb5
  exact bodyPost_ret (results_cell (b := w.heap.size) (o := 0) rfl rfl k2.whole Try.underlying23 rfl (fd5_info _ _ _ _ _)) rfl ⟨rfl, k1, k3⟩
end Go.Proofs.Ytpdnfiofjkbeiaa.step
/- One more field onto a list of fields that a call gathers in a variable. No condition. -/
namespace Go.Proofs.Ytpdnfiofjkbeiaa.schema
open Go.RowKit
set_option linter.unusedVariables false

theorem exec_push_fd {o : Oper} {a : Act} {w : World} {x y : Operand} {u : Value} {B n g : Nat} {L : List field.Fd} {p : field.Fd}
    (ho : o.op = .call { callee := .builtin .append, args := #[x, y], argTypes := #[27, 27] }) (hx : a.eval x = u) (hy : a.eval y = .slice (some ⟨g, 0, none⟩) 1 1)
    (hown : w.ownsRow B 23 5 u n (fdV L)) (hb : Block w g 23 (fdC p)) (hn : n ≤ 1000) (hB : B ≤ w.heap.size) :
    ∃ q w', (execOp a.eval o).run Try.prog w = .ok (.value q) w' ∧ w'.ownsRow B 23 5 q (n + 1) (fdV (L ++ [p])) ∧ w.grownBy w' u.ownBlock := by
  obtain ⟨i0, hi, hz0, hz1, hz2⟩ := fd_info_parts
  obtain ⟨q, w', h1, h2, h3⟩ := exec_push (sz := 5) (bytes := 40) Try.underlying27 hi hz0 hz1 hz2 (by simp [Value.cells]) (by omega) ho hx hy hown (news := fdC p) rfl (fun j v hj => (hb.cell j).trans hj) (by have := fdV_one [p]; simpa [fdV] using this) (by omega) (by omega) hB
  exact ⟨q, w', h1, by rw [fdV_append]; simpa [fdV] using h2, h3⟩
theorem exec_put_fd {o : Oper} {a : Act} {w : World} {x y : Operand} {ad : Addr} {v : Value} {p : Option Addr} {n c : Nat} (ho : o.op = .store 27 x y) (hx : a.eval x = .pointer (some ad)) (hy : a.eval y = .slice p n c) (hc : w.cell? ad = some v) (hf : w.frozen? ad = false) : (execOp a.eval o).run Try.prog w = .ok .skip (w.setCell ad (.slice p n c)) := by
  unfold execOp
  rw [ho]
  simp only [hx, hy]
  go_simp
end Go.Proofs.Ytpdnfiofjkbeiaa.schema
/- The variable of a step that is read, its two lists gathered in rows behind it. No condition. -/
namespace Go.Proofs.Ytpdnfiofjkbeiaa.step
open Go.RowKit Go.Proofs.Ytpdnfiofjkbeiaa.pen
open Go.Proofs.Ytpdnfiofjkbeiaa.field (newB)
open Go.Proofs.Ytpdnfiofjkbeiaa.schema (blk_but but_store EyeAt.blk eye_past eye_grown but_grown fdV StayT stay_but stay_grown stay_store stay_below own_low exec_push own_fds own_cap)
set_option linter.unusedVariables false

/-- the cells of numbers -/
def intV (l : List Int) : List Value := l.map fun n => Value.int .i64 n
theorem own_ints {w : World} {base n : Nat} {a : Option Addr} {cap : Nat} {L : List Int} {e : TypeId} (h : w.ownsRow base e 1 (.slice a n cap) n (intV L)) : Ins w a L ∧ n = L.length := by
  obtain ⟨hl, hr⟩ := h
  have hn : n = L.length := by have : (intV L).length = L.length := List.length_map _; omega
  rcases hr with ⟨hv, h0⟩ | ⟨b, cap', cur, hv, _, hg, hcp, _, _, htake⟩
  · cases hv
    exact ⟨.inl (List.eq_nil_of_length_eq_zero (by omega)), hn⟩
  · cases hv
    refine ⟨.inr ⟨b, 0, rfl, (Array.getElem?_eq_some_iff.1 hg).1, fun i p hp => ?_⟩, hn⟩
    have hi : i < L.length := (List.getElem?_eq_some_iff.1 hp).1
    have h1 : (intV L)[i]? = some (.int .i64 p) := by simp [intV, hp]
    rw [← htake, List.getElem?_take, if_pos (by omega)] at h1
    rw [cell_of_row w b _ cur _ _ hg, Nat.zero_add, ← h1, Array.getElem?_toList]
theorem int_info : (Try.prog.info? 3).map (fun i => (i.zero, i.size, i.bytes)) = some (some (.int .i64 0), 1, 8) := by kernel_rfl
theorem int_info_parts : ∃ i, Try.prog.info? 3 = some i ∧ i.zero = some (.int .i64 0) ∧ i.size = 1 ∧ i.bytes = 8 := by
  obtain ⟨i, hi, he⟩ := Option.map_eq_some_iff.1 int_info
  simp only [Prod.mk.injEq] at he
  exact ⟨i, hi, he.1, he.2.1, he.2.2⟩
theorem exec_push_int {o : Oper} {a : Act} {w : World} {x y : Operand} {u : Value} {B n g : Nat} {L : List Int} {p : Int}
    (ho : o.op = .call { callee := .builtin .append, args := #[x, y], argTypes := #[26, 26] }) (hx : a.eval x = u) (hy : a.eval y = .slice (some ⟨g, 0, none⟩) 1 1)
    (hown : w.ownsRow B 3 1 u n (intV L)) (hb : Block w g 3 [.int .i64 p]) (hn : n ≤ 1000) (hB : B ≤ w.heap.size) :
    ∃ q w', (execOp a.eval o).run Try.prog w = .ok (.value q) w' ∧ w'.ownsRow B 3 1 q (n + 1) (intV (L ++ [p])) ∧ w.grownBy w' u.ownBlock := by
  obtain ⟨i0, hi, hz0, hz1, hz2⟩ := int_info_parts
  obtain ⟨q, w', h1, h2, h3⟩ := exec_push (sz := 1) (bytes := 8) Try.underlying26 hi hz0 hz1 hz2 (by simp [Value.cells]) (by omega) ho hx hy hown (news := [.int .i64 p]) rfl (fun j v hj => (hb.cell j).trans hj) (by intro v hv; rw [List.mem_singleton.1 hv]; rfl) (by omega) (by omega) hB
  exact ⟨q, w', h1, by unfold intV at h2 ⊢; rw [List.map_append]; exact h2, h3⟩
theorem exec_put_int {o : Oper} {a : Act} {w : World} {x y : Operand} {ad : Addr} {v : Value} {p : Option Addr} {n c : Nat} (ho : o.op = .store 26 x y) (hx : a.eval x = .pointer (some ad)) (hy : a.eval y = .slice p n c) (hc : w.cell? ad = some v) (hf : w.frozen? ad = false) : (execOp a.eval o).run Try.prog w = .ok .skip (w.setCell ad (.slice p n c)) := by
  unfold execOp
  rw [ho]
  simp only [hx, hy]
  go_simp
theorem own_past {w : World} {B e sz n S o : Nat} {u v : Value} {xs : List Value} (h : w.ownsRow B e sz u n xs) (hS : S < B) : (w.setCell ⟨S, o, none⟩ v).ownsRow B e sz u n xs :=
  ownsRow_heap h (fun g hg => by have := World.ownsRow.lt h g hg; exact Below.heap_setCell w ⟨S, o, none⟩ v g (by show g ≠ S; omega))
theorem own_but {w w' : World} {b B e sz n : Nat} {u : Value} {xs : List Value} (h : w.ownsRow B e sz u n xs) (hu : But w.heap.size b w w') (hb : b < B) : w'.ownsRow B e sz u n xs :=
  ownsRow_heap h (fun g hg => by have := World.ownsRow.lt h g hg; exact hu.2.2.2.2 g (by omega) (by omega))
/-- the variable at T holds s; its lists lie in rows behind it; the eye at b stands at e; what lay before T is as in w0 but for the eye -/
structure TS (Ty : TypeId) (b T : Nat) (w0 : World) (s : Sp) (e : Sight) (ta : Option Addr) (tc : Nat) (la : Option Addr) (lc : Nat) (wr : World) : Prop where
  f : Block wr T 29 [.int .i64 s.op, .int .i64 s.fm, .int .i64 s.fd, .int .i64 s.pl, .int .i64 s.tt, .int .i64 s.a, .int .i64 s.b, .int .i64 s.f.id, .int .i64 s.f.kind, .int .i64 s.f.lo, .int .i64 s.f.hi, .int .i64 s.f.most, .int .i64 s.v.n, .string s.v.s, .slice ta s.t.length tc, .slice la s.l.length lc]
  rt : wr.ownsRow (T + 1) 3 1 (.slice ta s.t.length tc) s.t.length (intV s.t)
  rl : wr.ownsRow (T + 1) 23 5 (.slice la s.l.length lc) s.l.length (fdV s.l)
  eye : EyeAt Ty b e wr
  but : But T b w0 wr
  low : b < T
variable {Ty : TypeId} {b T : Nat} {w0 : World} {s : Sp} {e : Sight} {ta la : Option Addr} {tc lc : Nat}
theorem TS.later {w w' : World} (h : TS Ty b T w0 s e ta tc la lc w) (hb : Below w.heap.size w w') : TS Ty b T w0 s e ta tc la lc w' :=
  ⟨h.f.later hb, ownsRow_later h.rt hb, ownsRow_later h.rl hb, h.eye.later hb, h.but.trans ((Below.but hb).mono (Nat.le_of_lt h.f.lt)), h.low⟩
theorem TS.call {w w' : World} {e' : Sight} (h : TS Ty b T w0 s e ta tc la lc w) (hE : EyeAt Ty b e' w') (hu : But w.heap.size b w w') : TS Ty b T w0 s e' ta tc la lc w' :=
  ⟨blk_but h.f hu (Nat.ne_of_gt h.low), own_but h.rt hu (by have := h.low; omega), own_but h.rl hu (by have := h.low; omega), hE, h.but.trans (hu.mono (Nat.le_of_lt h.f.lt)), h.low⟩
/-- a cell of the variable is written, its lists aside -/
theorem TS.put {w : World} (h : TS Ty b T w0 s e ta tc la lc w) (j : Nat) (v : Value) (s' : Sp) (hs : [.int .i64 s'.op, .int .i64 s'.fm, .int .i64 s'.fd, .int .i64 s'.pl, .int .i64 s'.tt, .int .i64 s'.a, .int .i64 s'.b, .int .i64 s'.f.id, .int .i64 s'.f.kind, .int .i64 s'.f.lo, .int .i64 s'.f.hi, .int .i64 s'.f.most, .int .i64 s'.v.n, .string s'.v.s, .slice ta s'.t.length tc, .slice la s'.l.length lc] = [.int .i64 s.op, .int .i64 s.fm, .int .i64 s.fd, .int .i64 s.pl, .int .i64 s.tt, .int .i64 s.a, .int .i64 s.b, .int .i64 s.f.id, .int .i64 s.f.kind, .int .i64 s.f.lo, .int .i64 s.f.hi, .int .i64 s.f.most, .int .i64 s.v.n, .string s.v.s, .slice ta s.t.length tc, .slice la s.l.length lc].set j v) (ht : s'.t = s.t) (hl : s'.l = s.l) : TS Ty b T w0 s' e ta tc la lc (w.setCell ⟨T, j, none⟩ v) := by
  refine ⟨?_, ?_, ?_, eye_past h.eye h.low ((But.refl _ T w).setCell j v), but_store h.but (Nat.le_refl _) j v, h.low⟩
  · rw [hs]; exact h.f.setCell j v
  · rw [ht]; exact own_past h.rt (by omega)
  · rw [hl]; exact own_past h.rl (by omega)
theorem int_fd : (3 : TypeId) ≠ 23 := by decide
/-- behind an append onto a row: the variable still holds the old row -/
theorem TS.held {w w' : World} {B ee sz n : Nat} {u : Value} {xs : List Value} (h : TS Ty b T w0 s e ta tc la lc w) (ho : w.ownsRow (T + 1) ee sz u n xs) (hg : w.grownBy w' u.ownBlock) : Block w' T 29 [.int .i64 s.op, .int .i64 s.fm, .int .i64 s.fd, .int .i64 s.pl, .int .i64 s.tt, .int .i64 s.a, .int .i64 s.b, .int .i64 s.f.id, .int .i64 s.f.kind, .int .i64 s.f.lo, .int .i64 s.f.hi, .int .i64 s.f.most, .int .i64 s.v.n, .string s.v.s, .slice ta s.t.length tc, .slice la s.l.length lc] :=
  (hg.block T h.f.lt (by intro he; have := World.ownsRow.lt ho T he.symm; omega)).trans h.f
theorem TS.pushT {w w' : World} {p : Int} {q : Option Addr} {qc : Nat} (h : TS Ty b T w0 s e ta tc la lc w) (hg : w.grownBy w' (Value.slice ta s.t.length tc).ownBlock) (ho : w'.ownsRow (T + 1) 3 1 (.slice q (s.t.length + 1) qc) (s.t.length + 1) (intV (s.t ++ [p]))) :
    TS Ty b T w0 { s with t := s.t ++ [p] } e q qc la lc (w'.setCell ⟨T, 14, none⟩ (.slice q (s.t.length + 1) qc)) := by
  have hF := h.held (B := 0) h.rt hg
  have hln : (s.t ++ [p]).length = s.t.length + 1 := by simp
  refine ⟨?_, ?_, own_past ((stay_grown 23 h.rt hg int_fd).row h.rl) (by omega), ?_, ?_, h.low⟩
  · have := hF.setCell 14 (.slice q (s.t.length + 1) qc)
    rw [← hln] at this ⊢
    exact this
  · rw [hln]; exact own_past ho (by omega)
  · exact eye_past (eye_grown h.eye h.rt hg (by have := h.low; omega)) h.low ((But.refl _ T w').setCell 14 _)
  · exact but_store (but_grown h.but (own_low h.rt (by omega)) hg (Nat.le_of_lt h.f.lt)) (Nat.le_refl _) 14 _
theorem TS.pushL {w w' : World} {p : field.Fd} {q : Option Addr} {qc : Nat} (h : TS Ty b T w0 s e ta tc la lc w) (hg : w.grownBy w' (Value.slice la s.l.length lc).ownBlock) (ho : w'.ownsRow (T + 1) 23 5 (.slice q (s.l.length + 1) qc) (s.l.length + 1) (fdV (s.l ++ [p]))) :
    TS Ty b T w0 { s with l := s.l ++ [p] } e ta tc q qc (w'.setCell ⟨T, 15, none⟩ (.slice q (s.l.length + 1) qc)) := by
  have hF := h.held (B := 0) h.rl hg
  have hln : (s.l ++ [p]).length = s.l.length + 1 := by simp
  refine ⟨?_, own_past ((stay_grown 3 h.rl hg (Ne.symm int_fd)).row h.rt) (by omega), ?_, ?_, ?_, h.low⟩
  · have := hF.setCell 15 (.slice q (s.l.length + 1) qc)
    rw [← hln] at this ⊢
    exact this
  · rw [hln]; exact own_past ho (by omega)
  · exact eye_past (eye_grown h.eye h.rl hg (by have := h.low; omega)) h.low ((But.refl _ T w').setCell 15 _)
  · exact but_store (but_grown h.but (own_low h.rl (by omega)) hg (Nat.le_of_lt h.f.lt)) (Nat.le_refl _) 15 _
/-- at the start -/
theorem TS.start {w1 : World} (hE : EyeAt Ty b e w1) (op : Int) : TS Ty b w1.heap.size w1 (startS op) e none 0 none 0 (w1.alloc (.cells #[.int .i64 op, .int .i64 0, .int .i64 0, .int .i64 0, .int .i64 0, .int .i64 0, .int .i64 0, .int .i64 0, .int .i64 0, .int .i64 0, .int .i64 0, .int .i64 0, .int .i64 0, .string ⟨#[]⟩, .slice none 0 0, .slice none 0 0] 29)) :=
  ⟨Block.new w1 29 [.int .i64 op, .int .i64 0, .int .i64 0, .int .i64 0, .int .i64 0, .int .i64 0, .int .i64 0, .int .i64 0, .int .i64 0, .int .i64 0, .int .i64 0, .int .i64 0, .int .i64 0, .string ⟨#[]⟩, .slice none 0 0, .slice none 0 0], World.ownsRow_nil _ _ _ _, World.ownsRow_nil _ _ _ _, hE.later (newB _ _), Below.but (newB _ _), hE.lt⟩
/-- what has been gathered lies in memory -/
theorem TS.lists {w : World} (h : TS Ty b T w0 s e ta tc la lc w) : Lists w s ta la :=
  ⟨(own_ints h.rt).1, (own_fds h.rl).1, Nat.le_trans (own_cap h.rt).1 (own_cap h.rt).2, Nat.le_trans (own_cap h.rl).1 (own_cap h.rl).2⟩
end Go.Proofs.Ytpdnfiofjkbeiaa.step
/- Contracts of the eye's calls Count, Num and Text, and of Of. No condition but bytes that are fewer than 2^47. -/
namespace Go.Proofs.Ytpdnfiofjkbeiaa.pen
open Go.RowKit Go.Proofs.Ytpdnfiofjkbeiaa.texts
set_option linter.unusedVariables false
set_option maxRecDepth 8000 in
theorem eyeText_any (b : Nat) (s : Sight) (w : World) (h : EyeAt 98 b s w) (most : Int) (h1 : -9223372036854775808 ≤ most) (h2 : most ≤ 9223372036854775807) :
    Calls Try.prog 86 #[.pointer (some ⟨b, 0, none⟩), .int .i64 most] w (Saw 98 b (.string (strOf (eText most s).1)) (eText most s).2 w) := by
  have c0 := eyeCount_any b s w h most h1 h2
  have hle := (eVar_le 9223372036854775807 (max most 0).toNat s).1
  have hle' : (eCount most s).1 ≤ 9223372036854775807 := hle
  obtain ⟨r, z⟩ := s
  obtain ⟨a, c, st⟩ := h.stand
  unfold eText
  obtain ⟨x, hx⟩ : ∃ x, Hid ((eCount most (r, z)).1 = x) := ⟨_, rfl⟩
  obtain ⟨s1, hs1⟩ : ∃ s', Hid ((eCount most (r, z)).2 = s') := ⟨_, rfl⟩
  simp only [hx.out, hs1.out] at c0 hle' ⊢
  have c1 : Hid (∀ w1, EyeAt 98 b s1 w1 → Calls Try.prog 83 #[.pointer (some ⟨b, 0, none⟩), .int .i64 (x : Int)] w1 (Took 98 b (eNext x s1).1 (eNext x s1).2 w1)) := fun w1 hE => next_any b s1 w1 hE x hle'
  obtain ⟨t, ht⟩ : ∃ t, Hid ((eNext x s1).1 = t) := ⟨_, rfl⟩
  obtain ⟨⟨r2, z2⟩, hs2⟩ : ∃ s', Hid ((eNext x s1).2 = s') := ⟨_, rfl⟩
  simp only [ht.out, hs2.out] at c1 ⊢
  obtain ⟨T, hT⟩ : ∃ T, Hid (strOf t = T) := ⟨_, rfl⟩
  rw [hT.out]
  have d0 := st.rest
  have ST := hid st
  clear h st hx hs1 ht hs2 hle hle'
  by_cases hz : z2 = 0
  · rw [if_neg (by simpa using hz)]
    subst hz
    go_enter Try.func86, Try.ntmps86
    go_wp2_with (first
      | (go_at_call 40; (with_reducible refine c0.mono ?_); clear c0; rintro e w1 ⟨rfl, hE1, hB1⟩)
      | (go_at_call 83; (with_reducible refine (c1.out _ hE1).mono ?_); clear c1 hE1; rintro e w2 ⟨a', c', rfl, _, hrd, hE2, hB2⟩; have hcv := Reads.str (P := Try.prog) hrd 35 5 Try.underlying35 Try.underlying5 c' 9 Try.underlying9; rw [hT.out] at hcv; obtain ⟨a2, k2, st2⟩ := hE2.stand; have e2 := st2.err; clear st2; have HRD := hid hrd; have HE2 := hid hE2; have HB := hid (And.intro hB1 hB2); clear hrd hE2 hB1 hB2))
    go_ret
    exact ⟨rfl, HE2.out, HB.out.1.trans (HB.out.2.mono HB.out.1.2.2.2.1)⟩
  · rw [if_pos hz]
    have q : ((z2 : Int) != 0) = true := by rw [bne_iff_ne]; omega
    clear hz
    go_enter Try.func86, Try.ntmps86
    go_wp2_with (first
      | (go_at_call 40; (with_reducible refine c0.mono ?_); clear c0; rintro e w1 ⟨rfl, hE1, hB1⟩)
      | (go_at_call 83; (with_reducible refine (c1.out _ hE1).mono ?_); clear c1 hE1; rintro e w2 ⟨a', c', rfl, _, hrd, hE2, hB2⟩; have hcv := Reads.str (P := Try.prog) hrd 35 5 Try.underlying35 Try.underlying5 c' 9 Try.underlying9; rw [hT.out] at hcv; obtain ⟨a2, k2, st2⟩ := hE2.stand; have e2 := st2.err; have e3 := st2.rest; have e4 := st2.block.frozen 0; have ST2 := hid st2; clear st2; have HRD := hid hrd; have HE2 := hid hE2; have HB := hid (And.intro hB1 hB2); clear hrd hE2 hB1 hB2))
    go_ret
    have hB : But w.heap.size b w w2 := HB.out.1.trans (HB.out.2.mono HB.out.1.2.2.2.1)
    have hB' := hB.setCell 0 (.slice a r.length c)
    have s0 := ST.out
    exact ⟨rfl, ⟨s0.small, s0.len, a, c, ST2.out.block.setCell 0 _, s0.room, reads_low s0.reads hB' s0.off, s0.off⟩, hB'⟩
theorem eyeText_nil (most : Int) (w : World) : Calls Try.prog 86 #[.pointer none, .int .i64 most] w (Quiet (.string ⟨#[]⟩) w) := by
  go_enter Try.func86, Try.ntmps86
  go_wp2
  go_ret
  exact ⟨rfl, 0, rfl⟩

end Go.Proofs.Ytpdnfiofjkbeiaa.pen
/- A region whose order is open: two chains of two operations each: a load (A1) and a row that is made of it (A2); a load (B1) and a row that is made of it (B2). Whatever the order, behind the four the state is the same but for where the rows lie. No condition. -/
namespace Go.Proofs.Ytpdnfiofjkbeiaa.plan
open Go Go.RowKit
set_option linter.unusedVariables false

section
variable {P : Program} {md : Region.Mode} {Q : Exit → Act → World → Prop} {l : List Oper}

/-- an operation that looks at no memory is taken first -/
theorem free {f : Nat} {listed : Array Bool} {a : Act} {w : World} (i : Nat) (o : Oper) (v : Value) (hi : l[i]? = some o) (hs : Region.noSelect l.toArray = true) (hf : Region.free md l.toArray listed i = true)
    (hr : (Region.ready md l.toArray listed).contains i = true) (hw : Region.wanted o (yielded l.toArray a.tmps) = true) (hv : ∀ w', (execOp a.eval o).run P w' = .ok (.value v) w')
    (h : wpAnyH P md l.toArray (NoPanic Q) (fun _ => True) f (listed.setIfInBounds i true) (a.put o.dst v) w) : wpAnyH P md l.toArray (NoPanic Q) (fun _ => True) (f + 1) listed a w :=
  wpAnyH_take (by simpa using hi) hs hf hr (fun c a' w' h => h) (.inl ⟨hw, fun w' _ => hv w'⟩) trivial h
theorem regionT {id : Nat} {a : Act} {w : World} (hmx : P.follows .mixedOrders = true) (h : wpAnyH P .any l.toArray (NoPanic Q) (fun _ => True) l.length (Array.replicate l.length false) a w.drew) : (Code.region id l.toArray true).wp P Q a w := by
  refine wp_region_noPanic (wp_region_held (S := fun _ => True) hmx ?_)
  have e : l.toArray.size = l.length := by simp
  rw [e]
  exact h
/-- the only operation that may come up yields a value -/
theorem oneT {f : Nat} {listed : Array Bool} {a : Act} {w w1 : World} (i : Nat) (o : Oper) (v : Value) (hi : l[i]? = some o) (hg : o.guard = none) (hr : Region.ready md l.toArray listed = [i])
    (hv : (execOp a.eval o).run P w = .ok (.value v) w1) (h : wpAnyH P md l.toArray (NoPanic Q) (fun _ => True) f (listed.setIfInBounds i true) (a.put o.dst v) w1) : wpAnyH P md l.toArray (NoPanic Q) (fun _ => True) (f + 1) listed a w := by
  refine every (by rw [hr]; simp) fun j hj => ?_
  rw [hr] at hj
  obtain rfl : j = i := by simpa using hj
  exact ⟨o, hi, hg, .inl ⟨v, w1, hv, trivial, h⟩⟩
theorem oneE {f : Nat} {listed : Array Bool} {a : Act} {w : World} (i : Nat) (o : Oper) (Pr : Value → World → Prop) (hi : l[i]? = some o) (hg : o.guard = none) (hr : Region.ready md l.toArray listed = [i])
    (hv : ∃ v w1, (execOp a.eval o).run P w = .ok (.value v) w1 ∧ Pr v w1) (h : ∀ v w1, Pr v w1 → wpAnyH P md l.toArray (NoPanic Q) (fun _ => True) f (listed.setIfInBounds i true) (a.put o.dst v) w1) : wpAnyH P md l.toArray (NoPanic Q) (fun _ => True) (f + 1) listed a w := by
  obtain ⟨v, w1, h1, h2⟩ := hv
  exact oneT i o v hi hg hr h1 (h v w1 h2)
/-- the only operation that may come up is a store, the last -/
theorem lastT {listed : Array Bool} {a : Act} {w w1 : World} (i : Nat) (o : Oper) (hi : l[i]? = some o) (hg : o.guard = none) (hd : o.dst = none) (hr : Region.ready md l.toArray listed = [i]) (hr2 : Region.ready md l.toArray (listed.setIfInBounds i true) = [])
    (hv : (execOp a.eval o).run P w = .ok .skip w1) (h : Q .normal a w1) : wpAnyH P md l.toArray (NoPanic Q) (fun _ => True) 1 listed a w := by
  refine wpAnyH_all hr (by simp) fun j hj => ?_
  obtain rfl : j = i := by simpa using hj
  have hi' : l.toArray[j]? = some o := by simpa using hi
  have hw : Region.wanted o (yielded l.toArray a.tmps) = true := by unfold Region.wanted; rw [hg]
  unfold wpOp
  have e : a.put o.dst undef = a := by rw [hd]; rfl
  simp only [hi', hw, if_true, Oper.wp, hv, Oper.upon]
  exact .inl ⟨trivial, hr2, NoPanic.normal (by rw [e]; exact h)⟩
theorem to4 {n : Nat} {listed : Array Bool} {a : Act} {w : World} (dA eA dB eB f : Nat) (L : Bool → Bool → Bool → Bool → Array Bool) (hf : n = f + 4) (hl : listed = L false false false false) (ha : at4 a dA eA dB eB undef undef undef undef = a)
    (h : wpAnyH P md l.toArray (NoPanic Q) (fun _ => True) (f + 4) (L false false false false) (at4 a dA eA dB eB undef undef undef undef) w) : wpAnyH P md l.toArray (NoPanic Q) (fun _ => True) n listed a w := by
  subst hf hl
  rw [ha] at h
  exact h
theorem cross (a0 : Act) (w0 : World) (iA iB jA jB dA eA dB eB f : Nat) (n1 : dA ≠ eA) (n2 : dA ≠ dB) (n3 : dA ≠ eB) (n4 : eA ≠ dB) (n5 : eA ≠ eB) (n6 : dB ≠ eB) (oA pA oB pB : Oper) (L : Bool → Bool → Bool → Bool → Array Bool)
    (lA : l[iA]? = some oA) (mA : l[jA]? = some pA) (lB : l[iB]? = some oB) (mB : l[jB]? = some pB) (gA : oA.guard = none) (hA : pA.guard = none) (gB : oB.guard = none) (hB : pB.guard = none)
    (sA : oA.dst = some dA) (tA : pA.dst = some eA) (sB : oB.dst = some dB) (tB : pB.dst = some eB)
    (cA : ∀ q r s, (L false q r s).setIfInBounds iA true = L true q r s) (zA : ∀ p r s, (L p false r s).setIfInBounds jA true = L p true r s) (cB : ∀ p q s, (L p q false s).setIfInBounds iB true = L p q true s) (zB : ∀ p q r, (L p q r false).setIfInBounds jB true = L p q r true)
    (q00 : Region.ready md l.toArray (L false false false false) = [iA, iB]) (q10 : Region.ready md l.toArray (L true false false false) = [jA, iB]) (q01 : Region.ready md l.toArray (L false false true false) = [iA, jB])
    (q20 : Region.ready md l.toArray (L true true false false) = [iB]) (q11 : Region.ready md l.toArray (L true false true false) = [jA, jB]) (q02 : Region.ready md l.toArray (L false false true true) = [iA])
    (q21 : Region.ready md l.toArray (L true true true false) = [jB]) (q12 : Region.ready md l.toArray (L true false true true) = [jA])
    (VA VB : Value) (RA RB : Value → World → Prop) (kA : ∀ x w w', RA x w → Below w.heap.size w w' → RA x w') (kB : ∀ x w w', RB x w → Below w.heap.size w w' → RB x w')
    (rA : ∀ u v x y w, Below w0.heap.size w0 w → (execOp (at4 a0 dA eA dB eB u v x y).eval oA).run P w = .ok (.value VA) w)
    (rB : ∀ u v x y w, Below w0.heap.size w0 w → (execOp (at4 a0 dA eA dB eB u v x y).eval oB).run P w = .ok (.value VB) w)
    (yA : ∀ v x y w, Below w0.heap.size w0 w → ∃ z w', (execOp (at4 a0 dA eA dB eB VA v x y).eval pA).run P w = .ok (.value z) w' ∧ Below w.heap.size w w' ∧ RA z w')
    (yB : ∀ u v y w, Below w0.heap.size w0 w → ∃ z w', (execOp (at4 a0 dA eA dB eB u v VB y).eval pB).run P w = .ok (.value z) w' ∧ Below w.heap.size w w' ∧ RB z w')
    (rest : ∀ v y w', RA v w' → RB y w' → Below w0.heap.size w0 w' → wpAnyH P md l.toArray (NoPanic Q) (fun _ => True) f (L true true true true) (at4 a0 dA eA dB eB VA v VB y) w')
    (u v x y : Value) :
    wpAnyH P md l.toArray (NoPanic Q) (fun _ => True) (f + 4) (L false false false false) (at4 a0 dA eA dB eB u v x y) w0 := by
  have pA1 : ∀ u v x y z, (at4 a0 dA eA dB eB u v x y).put (some dA) z = at4 a0 dA eA dB eB z v x y := by
    intro u v x y z
    unfold at4
    rw [put_comm _ eB dA _ _ n3.symm, put_comm _ dB dA _ _ n2.symm, put_comm _ eA dA _ _ n1.symm, put_same]
  have pA2 : ∀ u v x y z, (at4 a0 dA eA dB eB u v x y).put (some eA) z = at4 a0 dA eA dB eB u z x y := by
    intro u v x y z
    unfold at4
    rw [put_comm _ eB eA _ _ n5.symm, put_comm _ dB eA _ _ n4.symm, put_same]
  have pB1 : ∀ u v x y z, (at4 a0 dA eA dB eB u v x y).put (some dB) z = at4 a0 dA eA dB eB u v z y := by
    intro u v x y z
    unfold at4
    rw [put_comm _ eB dB _ _ n6.symm, put_same]
  have pB2 : ∀ u v x y z, (at4 a0 dA eA dB eB u v x y).put (some eB) z = at4 a0 dA eA dB eB u v x z := by
    intro u v x y z
    unfold at4
    rw [put_same]
  have st : ∀ {w w' : World}, Below w0.heap.size w0 w → Below w.heap.size w w' → Below w0.heap.size w0 w' := fun h k => h.trans (k.mono h.size)
  -- backwards through the states
  have s21 : ∀ v y w, RA v w → Below w0.heap.size w0 w → wpAnyH P md l.toArray (NoPanic Q) (fun _ => True) (f + 1) (L true true true false) (at4 a0 dA eA dB eB VA v VB y) w := fun v y w h1 hb => by
    obtain ⟨z, w', hr, hb2, hz⟩ := yB VA v y w hb
    refine oneT jB pB z mB hB q21 hr ?_
    rw [zB, tB, pB2]
    exact rest _ _ _ (kA _ _ _ h1 hb2) hz (st hb hb2)
  have s12 : ∀ v y w, RB y w → Below w0.heap.size w0 w → wpAnyH P md l.toArray (NoPanic Q) (fun _ => True) (f + 1) (L true false true true) (at4 a0 dA eA dB eB VA v VB y) w := fun v y w h1 hb => by
    obtain ⟨z, w', hr, hb2, hz⟩ := yA v VB y w hb
    refine oneT jA pA z mA hA q12 hr ?_
    rw [zA, tA, pA2]
    exact rest _ _ _ hz (kB _ _ _ h1 hb2) (st hb hb2)
  have s11 : ∀ v y w, Below w0.heap.size w0 w → wpAnyH P md l.toArray (NoPanic Q) (fun _ => True) (f + 2) (L true false true false) (at4 a0 dA eA dB eB VA v VB y) w := fun v y w hb => by
    refine every (by rw [q11]; simp) fun i hi => ?_
    rw [q11] at hi
    rcases List.mem_cons.1 hi with rfl | hi
    · obtain ⟨z, w', hr, hb2, hz⟩ := yA v VB y w hb
      refine ⟨pA, mA, hA, .inl ⟨z, w', hr, trivial, ?_⟩⟩
      rw [zA, tA, pA2]
      exact s21 _ _ _ hz (st hb hb2)
    · obtain rfl : i = jB := by simpa using hi
      obtain ⟨z, w', hr, hb2, hz⟩ := yB VA v y w hb
      refine ⟨pB, mB, hB, .inl ⟨z, w', hr, trivial, ?_⟩⟩
      rw [zB, tB, pB2]
      exact s12 _ _ _ hz (st hb hb2)
  have s20 : ∀ v x y w, RA v w → Below w0.heap.size w0 w → wpAnyH P md l.toArray (NoPanic Q) (fun _ => True) (f + 2) (L true true false false) (at4 a0 dA eA dB eB VA v x y) w := fun v x y w h1 hb => by
    refine oneT iB oB VB lB gB q20 (rB _ _ _ _ w hb) ?_
    rw [cB, sB, pB1]
    exact s21 _ _ _ h1 hb
  have s02 : ∀ u v y w, RB y w → Below w0.heap.size w0 w → wpAnyH P md l.toArray (NoPanic Q) (fun _ => True) (f + 2) (L false false true true) (at4 a0 dA eA dB eB u v VB y) w := fun u v y w h1 hb => by
    refine oneT iA oA VA lA gA q02 (rA _ _ _ _ w hb) ?_
    rw [cA, sA, pA1]
    exact s12 _ _ _ h1 hb
  have s10 : ∀ v x y w, Below w0.heap.size w0 w → wpAnyH P md l.toArray (NoPanic Q) (fun _ => True) (f + 3) (L true false false false) (at4 a0 dA eA dB eB VA v x y) w := fun v x y w hb => by
    refine every (by rw [q10]; simp) fun i hi => ?_
    rw [q10] at hi
    rcases List.mem_cons.1 hi with rfl | hi
    · obtain ⟨z, w', hr, hb2, hz⟩ := yA v x y w hb
      refine ⟨pA, mA, hA, .inl ⟨z, w', hr, trivial, ?_⟩⟩
      rw [zA, tA, pA2]
      exact s20 _ _ _ _ hz (st hb hb2)
    · obtain rfl : i = iB := by simpa using hi
      refine ⟨oB, lB, gB, .inl ⟨VB, w, rB _ _ _ _ w hb, trivial, ?_⟩⟩
      rw [cB, sB, pB1]
      exact s11 _ _ _ hb
  have s01 : ∀ u v y w, Below w0.heap.size w0 w → wpAnyH P md l.toArray (NoPanic Q) (fun _ => True) (f + 3) (L false false true false) (at4 a0 dA eA dB eB u v VB y) w := fun u v y w hb => by
    refine every (by rw [q01]; simp) fun i hi => ?_
    rw [q01] at hi
    rcases List.mem_cons.1 hi with rfl | hi
    · refine ⟨oA, lA, gA, .inl ⟨VA, w, rA _ _ _ _ w hb, trivial, ?_⟩⟩
      rw [cA, sA, pA1]
      exact s11 _ _ _ hb
    · obtain rfl : i = jB := by simpa using hi
      obtain ⟨z, w', hr, hb2, hz⟩ := yB u v y w hb
      refine ⟨pB, mB, hB, .inl ⟨z, w', hr, trivial, ?_⟩⟩
      rw [zB, tB, pB2]
      exact s02 _ _ _ _ hz (st hb hb2)
  refine every (by rw [q00]; simp) fun i hi => ?_
  rw [q00] at hi
  rcases List.mem_cons.1 hi with rfl | hi
  · refine ⟨oA, lA, gA, .inl ⟨VA, w0, rA _ _ _ _ w0 (Below.refl _ _), trivial, ?_⟩⟩
    rw [cA, sA, pA1]
    exact s10 _ _ _ _ (Below.refl _ _)
  · obtain rfl : i = iB := by simpa using hi
    refine ⟨oB, lB, gB, .inl ⟨VB, w0, rB _ _ _ _ w0 (Below.refl _ _), trivial, ?_⟩⟩
    rw [cB, sB, pB1]
    exact s01 _ _ _ _ (Below.refl _ _)
end
end Go.Proofs.Ytpdnfiofjkbeiaa.plan
