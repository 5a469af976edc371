/- Contracts and lemmas that the claims of this seat share: Four, Cross, Three, Two, FrameExec, JournalRefAdd, ZerosTwinRef, WordSame. Each says its own conditions. -/
import Derived.Test.YtphifanacehppaaGreatCmI
import Derived.Test.YtphifanacehppaaGreatCmC
import Derived.Test.YtphifanacehppaaGreatCmB
import Derived.Maps.AppendAt
import Derived.Test.YtphifanacehppaaGreatCmH
import Derived.Test.YtphifanacehppaaGreatCmD
import Derived.Test.YtphifanacehppaaGreatCmA
/- A region whose order is open: two calls that make memory, one behind the other, and two new variables that may come up at any time. Whatever the order, behind the four the state is the same but for where the variables lie. No condition. -/
namespace Go.Proofs.YtphifanacehppaaGreat.plan
open Go Go.RowKit
set_option linter.unusedVariables false

theorem put_same (a : Act) (d : Nat) (u v : Value) : (a.put (some d) u).put (some d) v = a.put (some d) v := by
  simp [Act.put]
theorem put_comm (a : Act) (d e : Nat) (u v : Value) (h : d ≠ e) : (a.put (some d) u).put (some e) v = (a.put (some e) v).put (some d) u := by
  simp only [Act.put, Act.mk.injEq, and_true]
  exact Array.setIfInBounds_comm u v h
theorem wanted_none {o : Oper} (h : o.guard = none) (y : Nat → Option Value) (hy : True) : ∀ t, Region.wanted o t = true := by
  intro t
  unfold Region.wanted
  rw [h]

section
variable {P : Program} {md : Region.Mode} {Q : Exit → Act → World → Prop} {l : List Oper}

theorem exec_load_int {o : Oper} {a : Act} {w : World} {ty : TypeId} {x : Operand} {ad : Addr} {k : IntKind} {n : Int} (ho : o.op = .load ty x) (hx : a.eval x = .pointer (some ad)) (hc : w.cell? ad = some (.int k n)) (hu : ∀ w', (isAgg ty).run P w' = .ok false w') :
    (execOp a.eval o).run P w = .ok (.value (.int k n)) w := by
  unfold execOp
  rw [ho]
  simp only [hx]
  go_simp
/-- each operation that may come up goes on -/
theorem every {S : World → Prop} {f : Nat} {listed : Array Bool} {a : Act} {w : World} (hne : Region.ready md l.toArray listed ≠ [])
    (h : ∀ i ∈ Region.ready md l.toArray listed, ∃ o, l[i]? = some o ∧ o.guard = none ∧
      ((∃ v w1, (execOp a.eval o).run P w = .ok (.value v) w1 ∧ S w1 ∧ wpAnyH P md l.toArray (NoPanic Q) S f (listed.setIfInBounds i true) (a.put o.dst v) w1) ∨
       (∃ F args, (execOp a.eval o).run P w = .ok (.enter F args) w ∧ Calls P F args w fun e w' => ∃ v, e = .returned v ∧ S w' ∧ wpAnyH P md l.toArray (NoPanic Q) S f (listed.setIfInBounds i true) (a.put o.dst v) w'))) :
    wpAnyH P md l.toArray (NoPanic Q) S (f + 1) listed a w := by
  refine wpAnyH_all rfl hne fun i hi => ?_
  obtain ⟨o, ho, hg, h⟩ := h i hi
  have hi' : l.toArray[i]? = some o := by simpa using ho
  have hw : Region.wanted o (yielded l.toArray a.tmps) = true := by unfold Region.wanted; rw [hg]
  unfold wpOp
  rcases h with ⟨v, w1, hv, hb, hR⟩ | ⟨F, args, hv, hc⟩
  · simp only [hi', hw, if_true, Oper.wp, hv, Oper.upon]
    exact .inl ⟨hb, hR⟩
  · simp only [hi', hw, if_true, Oper.wp, hv, Oper.upon]
    refine .inl (hc.mono ?_)
    rintro e w' ⟨v, rfl, hb, hR⟩
    exact ⟨hb, hR⟩

/-- a store of a row into a block of the call's own, the only operation that may come up -/
theorem store {f : Nat} {listed : Array Bool} {a : Act} {w0 w : World} (B i : Nat) (o : Oper) (ty : TypeId) (x y : Operand) (g : Nat) (t : TypeId) (cs : List Value) (cells : Array Value) (hi : l[i]? = some o) (hg : o.guard = none) (ho : o.op = .store ty x y) (hd : o.dst = none)
    (hr : Region.ready md l.toArray listed = [i]) (hx : a.eval x = .pointer (some ⟨g, 0, none⟩)) (hy : a.eval y = .agg cells) (hb : Block w g t cs) (hl : cs.length = cells.size) (hs : (P.info? ty).map (·.size) = some cells.size) (h1 : cells.all (·.oneCell') = true)
    (h0 : Below B w0 w) (hB : B ≤ g)
    (hS : ∀ w', Below B w0 w' → Block w' g t cells.toList → (∀ g' t' cs', g' ≠ g → Block w g' t' cs' → Block w' g' t' cs') → wpAnyH P md l.toArray (NoPanic Q) (Below B w0) f (listed.setIfInBounds i true) a w') :
    wpAnyH P md l.toArray (NoPanic Q) (Below B w0) (f + 1) listed a w := by
  refine wpAnyH_all hr (by simp) fun j hj => ?_
  obtain rfl : j = i := by simpa using hj
  have hi' : l.toArray[j]? = some o := by simpa using hi
  have hw : Region.wanted o (yielded l.toArray a.tmps) = true := by unfold Region.wanted; rw [hg]
  have hrun : (execOp a.eval o).run P w = .ok .skip (w.setCells g 0 cells.toList) := by
    unfold execOp
    simp [ho, hx, hy, run_storeAt_mid w g 0 ty cells (hb.there 0 cells.size (by omega)) hs h1]
  have hbl : Below B w0 (w.setCells g 0 cells.toList) := below_setCells h0 hB _ _
  unfold wpOp
  simp only [hi', hw, if_true, Oper.wp, hrun, Oper.upon]
  refine .inl ⟨hbl, ?_⟩
  rw [hd]
  refine hS _ hbl ?_ fun g' t' cs' hne h' => h'.aparts g 0 _ hne
  have := hb.setCells (vs := cells.toList) (o := 0)
  rwa [put_all _ _ (by simpa using hl)] at this

/-- the frame, with the two results and the two variables' addresses -/
def at4 (a0 : Act) (d2 d5 d6 d7 : Nat) (v2 v5 p6 p7 : Value) : Act := (((a0.put (some d2) v2).put (some d5) v5).put (some d6) p6).put (some d7) p7
/-- what is known when some of the four have come up -/
structure Inv4 (w0 : World) (t : TypeId) (Z : List Value) (V2 V5 : Value) (b2 b5 b6 b7 : Bool) (v2 v5 p6 p7 : Value) (w : World) : Prop where
  below : Below w0.heap.size w0 w
  c2 : b2 = true → v2 = V2
  c5 : b5 = true → v5 = V5
  a6 : b6 = true → ∃ g, p6 = .pointer (some ⟨g, 0, none⟩) ∧ w0.heap.size ≤ g ∧ Block w g t Z
  a7 : b7 = true → ∃ g, p7 = .pointer (some ⟨g, 0, none⟩) ∧ w0.heap.size ≤ g ∧ Block w g t Z
  ne : b6 = true → b7 = true → p6 ≠ p7
theorem Inv4.later {w0 w w' : World} {t : TypeId} {Z : List Value} {V2 V5 : Value} {b2 b5 b6 b7 : Bool} {v2 v5 p6 p7 : Value} (h : Inv4 w0 t Z V2 V5 b2 b5 b6 b7 v2 v5 p6 p7 w) (hb : Below w.heap.size w w') :
    Inv4 w0 t Z V2 V5 b2 b5 b6 b7 v2 v5 p6 p7 w' :=
  ⟨h.below.trans (hb.mono h.below.size), h.c2, h.c5, fun e => (h.a6 e).imp fun g ⟨h1, h2, h3⟩ => ⟨h1, h2, h3.later hb⟩, fun e => (h.a7 e).imp fun g ⟨h1, h2, h3⟩ => ⟨h1, h2, h3.later hb⟩, h.ne⟩

theorem four (a0 : Act) (w0 : World) (t : TypeId) (Z : List Value) (V2 V5 : Value) (d2 d5 d6 d7 : Nat) (o2 o5 o6 o7 : Oper) (F : FuncId) (x2 x5 : Array Value)
    (n25 : d2 ≠ d5) (n26 : d2 ≠ d6) (n27 : d2 ≠ d7) (n56 : d5 ≠ d6) (n57 : d5 ≠ d7) (n67 : d6 ≠ d7)
    (l2 : l[2]? = some o2) (l5 : l[5]? = some o5) (l6 : l[6]? = some o6) (l7 : l[7]? = some o7)
    (g2 : o2.guard = none) (g5 : o5.guard = none) (g6 : o6.guard = none) (g7 : o7.guard = none)
    (s2 : o2.dst = some d2) (s5 : o5.dst = some d5) (s6 : o6.dst = some d6) (s7 : o7.dst = some d7)
    (hready : ∀ b2 b5 b6 b7, (b5 = true → b2 = true) → (b2 && b5 && b6 && b7) = false →
      Region.ready md l.toArray #[true, true, b2, true, true, b5, b6, b7, false, false] = (if b2 = true then (if b5 = true then [] else [5]) else [2]) ++ ((if b6 = true then [] else [6]) ++ (if b7 = true then [] else [7])))
    (r2 : ∀ v2 v5 p6 p7 w, (execOp (at4 a0 d2 d5 d6 d7 v2 v5 p6 p7).eval o2).run P w = .ok (.enter F x2) w)
    (r5 : ∀ v2 v5 p6 p7 w, (execOp (at4 a0 d2 d5 d6 d7 v2 v5 p6 p7).eval o5).run P w = .ok (.enter F x5) w)
    (r6 : ∀ v2 v5 p6 p7 w, (execOp (at4 a0 d2 d5 d6 d7 v2 v5 p6 p7).eval o6).run P w = .ok (.value (.pointer (some ⟨w.heap.size, 0, none⟩))) (w.alloc (.cells Z.toArray t)))
    (r7 : ∀ v2 v5 p6 p7 w, (execOp (at4 a0 d2 d5 d6 d7 v2 v5 p6 p7).eval o7).run P w = .ok (.value (.pointer (some ⟨w.heap.size, 0, none⟩))) (w.alloc (.cells Z.toArray t)))
    (k2 : ∀ w, Calls P F x2 w fun e w' => e = .returned V2 ∧ Below w.heap.size w w') (k5 : ∀ w, Calls P F x5 w fun e w' => e = .returned V5 ∧ Below w.heap.size w w')
    (rest : ∀ g g' w', w0.heap.size ≤ g → w0.heap.size ≤ g' → g ≠ g' → Block w' g t Z → Block w' g' t Z → Below w0.heap.size w0 w' →
      wpAnyH P md l.toArray (NoPanic Q) (Below w0.heap.size w0) 2 #[true, true, true, true, true, true, true, true, false, false] (at4 a0 d2 d5 d6 d7 V2 V5 (.pointer (some ⟨g, 0, none⟩)) (.pointer (some ⟨g', 0, none⟩))) w') :
    ∀ (n : Nat) (b2 b5 b6 b7 : Bool) (v2 v5 p6 p7 : Value) (w : World), (b5 = true → b2 = true) → n = (if b2 = true then 0 else 1) + (if b5 = true then 0 else 1) + (if b6 = true then 0 else 1) + (if b7 = true then 0 else 1) →
      Inv4 w0 t Z V2 V5 b2 b5 b6 b7 v2 v5 p6 p7 w →
      wpAnyH P md l.toArray (NoPanic Q) (Below w0.heap.size w0) (n + 2) #[true, true, b2, true, true, b5, b6, b7, false, false] (at4 a0 d2 d5 d6 d7 v2 v5 p6 p7) w := by
  have e2 : ∀ v2 v5 p6 p7 v, (at4 a0 d2 d5 d6 d7 v2 v5 p6 p7).put (some d2) v = at4 a0 d2 d5 d6 d7 v v5 p6 p7 := by
    intro v2 v5 p6 p7 v
    unfold at4
    rw [put_comm _ d7 d2 _ _ n27.symm, put_comm _ d6 d2 _ _ n26.symm, put_comm _ d5 d2 _ _ n25.symm, put_same]
  have e5 : ∀ v2 v5 p6 p7 v, (at4 a0 d2 d5 d6 d7 v2 v5 p6 p7).put (some d5) v = at4 a0 d2 d5 d6 d7 v2 v p6 p7 := by
    intro v2 v5 p6 p7 v
    unfold at4
    rw [put_comm _ d7 d5 _ _ n57.symm, put_comm _ d6 d5 _ _ n56.symm, put_same]
  have e6 : ∀ v2 v5 p6 p7 v, (at4 a0 d2 d5 d6 d7 v2 v5 p6 p7).put (some d6) v = at4 a0 d2 d5 d6 d7 v2 v5 v p7 := by
    intro v2 v5 p6 p7 v
    unfold at4
    rw [put_comm _ d7 d6 _ _ n67.symm, put_same]
  have e7 : ∀ v2 v5 p6 p7 v, (at4 a0 d2 d5 d6 d7 v2 v5 p6 p7).put (some d7) v = at4 a0 d2 d5 d6 d7 v2 v5 p6 v := by
    intro v2 v5 p6 p7 v
    unfold at4
    rw [put_same]
  have hal : ∀ w : World, Below w.heap.size w (w.alloc (.cells Z.toArray t)) := fun w => (Below.refl _ w).alloc (Nat.le_refl _) _
  intro n
  induction n with
  | zero =>
    intro b2 b5 b6 b7 v2 v5 p6 p7 w h25 hn inv
    cases b2 <;> cases b5 <;> cases b6 <;> cases b7 <;> simp at hn
    obtain rfl := inv.c2 rfl
    obtain rfl := inv.c5 rfl
    obtain ⟨g, rfl, hg, hB⟩ := inv.a6 rfl
    obtain ⟨g', rfl, hg', hB'⟩ := inv.a7 rfl
    exact rest g g' w hg hg' (by rintro rfl; exact inv.ne rfl rfl rfl) hB hB' inv.below
  | succ n ih =>
    intro b2 b5 b6 b7 v2 v5 p6 p7 w h25 hn inv
    have hall : (b2 && b5 && b6 && b7) = false := by
      cases b2 <;> cases b5 <;> cases b6 <;> cases b7 <;> simp at hn ⊢
    have hr := hready b2 b5 b6 b7 h25 hall
    refine every ?_ ?_
    · rw [hr]
      cases b2 <;> cases b5 <;> cases b6 <;> cases b7 <;> simp at hall ⊢
    · rw [hr]
      intro i hi
      simp only [List.mem_append] at hi
      rcases hi with hi | hi | hi
      · cases b2 with
        | false =>
          obtain rfl : i = 2 := by simpa using hi
          obtain rfl : b5 = false := by cases b5 <;> simp at h25 ⊢
          refine ⟨o2, l2, g2, .inr ⟨F, x2, r2 _ _ _ _ _, (k2 w).mono ?_⟩⟩
          rintro e w' ⟨rfl, hb⟩
          refine ⟨V2, rfl, (inv.later hb).below, ?_⟩
          rw [s2, e2]
          have i' := inv.later hb
          exact ih true false b6 b7 V2 v5 p6 p7 w' (by simp) (by simp at hn ⊢; omega) ⟨i'.below, fun _ => rfl, i'.c5, i'.a6, i'.a7, i'.ne⟩
        | true =>
          cases b5 with
          | true => simp at hi
          | false =>
            obtain rfl : i = 5 := by simpa using hi
            refine ⟨o5, l5, g5, .inr ⟨F, x5, r5 _ _ _ _ _, (k5 w).mono ?_⟩⟩
            rintro e w' ⟨rfl, hb⟩
            refine ⟨V5, rfl, (inv.later hb).below, ?_⟩
            rw [s5, e5]
            have i' := inv.later hb
            exact ih true true b6 b7 v2 V5 p6 p7 w' (by simp) (by simp at hn ⊢; omega) ⟨i'.below, i'.c2, fun _ => rfl, i'.a6, i'.a7, i'.ne⟩
      · cases b6 with
        | true => simp at hi
        | false =>
          obtain rfl : i = 6 := by simpa using hi
          refine ⟨o6, l6, g6, .inl ⟨_, _, r6 _ _ _ _ _, (inv.later (hal w)).below, ?_⟩⟩
          rw [s6, e6]
          have i' := inv.later (hal w)
          refine ih b2 b5 true b7 v2 v5 _ p7 _ h25 (by simp at hn ⊢; omega) ⟨i'.below, i'.c2, i'.c5, fun _ => ⟨_, rfl, inv.below.size, Block.new w t Z⟩, i'.a7, fun _ e7 => ?_⟩
          obtain ⟨g, rfl, _, hB⟩ := inv.a7 e7
          have := hB.lt
          simp only [ne_eq, Value.pointer.injEq, Option.some.injEq, Addr.mk.injEq, and_true]
          omega
      · cases b7 with
        | true => simp at hi
        | false =>
          obtain rfl : i = 7 := by simpa using hi
          refine ⟨o7, l7, g7, .inl ⟨_, _, r7 _ _ _ _ _, (inv.later (hal w)).below, ?_⟩⟩
          rw [s7, e7]
          have i' := inv.later (hal w)
          refine ih b2 b5 b6 true v2 v5 p6 _ _ h25 (by simp at hn ⊢; omega) ⟨i'.below, i'.c2, i'.c5, i'.a6, fun _ => ⟨_, rfl, inv.below.size, Block.new w t Z⟩, fun e6 _ => ?_⟩
          obtain ⟨g, rfl, _, hB⟩ := inv.a6 e6
          have := hB.lt
          simp only [ne_eq, Value.pointer.injEq, Option.some.injEq, Addr.mk.injEq, and_true]
          omega
theorem Rest.to4 {f : Nat} {listed : Array Bool} {a : Act} {w : World} (d2 d5 d6 d7 : Nat) (hf : f = 6) (hl : listed = #[true, true, false, true, true, false, false, false, false, false]) (ha : at4 a d2 d5 d6 d7 undef undef undef undef = a)
    (h : wpAnyH P md l.toArray (NoPanic Q) (Below w.heap.size w) 6 #[true, true, false, true, true, false, false, false, false, false] (at4 a d2 d5 d6 d7 undef undef undef undef) w) : Rest P md l Q f listed a w := by
  subst hf hl
  rw [ha] at h
  exact h
end
end Go.Proofs.YtphifanacehppaaGreat.plan
/- A region whose order is open: two chains of two operations each: a load (A1) and a row that is made of it (A2); a load (B1) and a row that is made of it (B2). Whatever the order, behind the four the state is the same but for where the rows lie. No condition. -/
namespace Go.Proofs.YtphifanacehppaaGreat.plan
open Go Go.RowKit
set_option linter.unusedVariables false

section
variable {P : Program} {md : Region.Mode} {Q : Exit → Act → World → Prop} {l : List Oper}

/-- an operation that looks at no memory is taken first -/
theorem free {f : Nat} {listed : Array Bool} {a : Act} {w : World} (i : Nat) (o : Oper) (v : Value) (hi : l[i]? = some o) (hs : Region.noSelect l.toArray = true) (hf : Region.free md l.toArray listed i = true)
    (hr : (Region.ready md l.toArray listed).contains i = true) (hw : Region.wanted o (yielded l.toArray a.tmps) = true) (hv : ∀ w', (execOp a.eval o).run P w' = .ok (.value v) w')
    (h : wpAnyH P md l.toArray (NoPanic Q) (fun _ => True) f (listed.setIfInBounds i true) (a.put o.dst v) w) : wpAnyH P md l.toArray (NoPanic Q) (fun _ => True) (f + 1) listed a w :=
  wpAnyH_take (by simpa using hi) hs hf hr (fun c a' w' h => h) (.inl ⟨hw, fun w' _ => hv w'⟩) trivial h
theorem regionT {id : Nat} {a : Act} {w : World} (hmx : P.follows .mixedOrders = true) (h : wpAnyH P .any l.toArray (NoPanic Q) (fun _ => True) l.length (Array.replicate l.length false) a w.drew) : (Code.region id l.toArray true).wp P Q a w := by
  refine wp_region_noPanic (wp_region_held (S := fun _ => True) hmx ?_)
  have e : l.toArray.size = l.length := by simp
  rw [e]
  exact h
/-- the only operation that may come up yields a value -/
theorem oneT {f : Nat} {listed : Array Bool} {a : Act} {w w1 : World} (i : Nat) (o : Oper) (v : Value) (hi : l[i]? = some o) (hg : o.guard = none) (hr : Region.ready md l.toArray listed = [i])
    (hv : (execOp a.eval o).run P w = .ok (.value v) w1) (h : wpAnyH P md l.toArray (NoPanic Q) (fun _ => True) f (listed.setIfInBounds i true) (a.put o.dst v) w1) : wpAnyH P md l.toArray (NoPanic Q) (fun _ => True) (f + 1) listed a w := by
  refine every (by rw [hr]; simp) fun j hj => ?_
  rw [hr] at hj
  obtain rfl : j = i := by simpa using hj
  exact ⟨o, hi, hg, .inl ⟨v, w1, hv, trivial, h⟩⟩
theorem oneE {f : Nat} {listed : Array Bool} {a : Act} {w : World} (i : Nat) (o : Oper) (Pr : Value → World → Prop) (hi : l[i]? = some o) (hg : o.guard = none) (hr : Region.ready md l.toArray listed = [i])
    (hv : ∃ v w1, (execOp a.eval o).run P w = .ok (.value v) w1 ∧ Pr v w1) (h : ∀ v w1, Pr v w1 → wpAnyH P md l.toArray (NoPanic Q) (fun _ => True) f (listed.setIfInBounds i true) (a.put o.dst v) w1) : wpAnyH P md l.toArray (NoPanic Q) (fun _ => True) (f + 1) listed a w := by
  obtain ⟨v, w1, h1, h2⟩ := hv
  exact oneT i o v hi hg hr h1 (h v w1 h2)
/-- the only operation that may come up is a store, the last -/
theorem lastT {listed : Array Bool} {a : Act} {w w1 : World} (i : Nat) (o : Oper) (hi : l[i]? = some o) (hg : o.guard = none) (hd : o.dst = none) (hr : Region.ready md l.toArray listed = [i]) (hr2 : Region.ready md l.toArray (listed.setIfInBounds i true) = [])
    (hv : (execOp a.eval o).run P w = .ok .skip w1) (h : Q .normal a w1) : wpAnyH P md l.toArray (NoPanic Q) (fun _ => True) 1 listed a w := by
  refine wpAnyH_all hr (by simp) fun j hj => ?_
  obtain rfl : j = i := by simpa using hj
  have hi' : l.toArray[j]? = some o := by simpa using hi
  have hw : Region.wanted o (yielded l.toArray a.tmps) = true := by unfold Region.wanted; rw [hg]
  unfold wpOp
  have e : a.put o.dst undef = a := by rw [hd]; rfl
  simp only [hi', hw, if_true, Oper.wp, hv, Oper.upon]
  exact .inl ⟨trivial, hr2, NoPanic.normal (by rw [e]; exact h)⟩
theorem to4 {n : Nat} {listed : Array Bool} {a : Act} {w : World} (dA eA dB eB f : Nat) (L : Bool → Bool → Bool → Bool → Array Bool) (hf : n = f + 4) (hl : listed = L false false false false) (ha : at4 a dA eA dB eB undef undef undef undef = a)
    (h : wpAnyH P md l.toArray (NoPanic Q) (fun _ => True) (f + 4) (L false false false false) (at4 a dA eA dB eB undef undef undef undef) w) : wpAnyH P md l.toArray (NoPanic Q) (fun _ => True) n listed a w := by
  subst hf hl
  rw [ha] at h
  exact h
theorem cross (a0 : Act) (w0 : World) (iA iB jA jB dA eA dB eB f : Nat) (n1 : dA ≠ eA) (n2 : dA ≠ dB) (n3 : dA ≠ eB) (n4 : eA ≠ dB) (n5 : eA ≠ eB) (n6 : dB ≠ eB) (oA pA oB pB : Oper) (L : Bool → Bool → Bool → Bool → Array Bool)
    (lA : l[iA]? = some oA) (mA : l[jA]? = some pA) (lB : l[iB]? = some oB) (mB : l[jB]? = some pB) (gA : oA.guard = none) (hA : pA.guard = none) (gB : oB.guard = none) (hB : pB.guard = none)
    (sA : oA.dst = some dA) (tA : pA.dst = some eA) (sB : oB.dst = some dB) (tB : pB.dst = some eB)
    (cA : ∀ q r s, (L false q r s).setIfInBounds iA true = L true q r s) (zA : ∀ p r s, (L p false r s).setIfInBounds jA true = L p true r s) (cB : ∀ p q s, (L p q false s).setIfInBounds iB true = L p q true s) (zB : ∀ p q r, (L p q r false).setIfInBounds jB true = L p q r true)
    (q00 : Region.ready md l.toArray (L false false false false) = [iA, iB]) (q10 : Region.ready md l.toArray (L true false false false) = [jA, iB]) (q01 : Region.ready md l.toArray (L false false true false) = [iA, jB])
    (q20 : Region.ready md l.toArray (L true true false false) = [iB]) (q11 : Region.ready md l.toArray (L true false true false) = [jA, jB]) (q02 : Region.ready md l.toArray (L false false true true) = [iA])
    (q21 : Region.ready md l.toArray (L true true true false) = [jB]) (q12 : Region.ready md l.toArray (L true false true true) = [jA])
    (VA VB : Value) (RA RB : Value → World → Prop) (kA : ∀ x w w', RA x w → Below w.heap.size w w' → RA x w') (kB : ∀ x w w', RB x w → Below w.heap.size w w' → RB x w')
    (rA : ∀ u v x y w, Below w0.heap.size w0 w → (execOp (at4 a0 dA eA dB eB u v x y).eval oA).run P w = .ok (.value VA) w)
    (rB : ∀ u v x y w, Below w0.heap.size w0 w → (execOp (at4 a0 dA eA dB eB u v x y).eval oB).run P w = .ok (.value VB) w)
    (yA : ∀ v x y w, Below w0.heap.size w0 w → ∃ z w', (execOp (at4 a0 dA eA dB eB VA v x y).eval pA).run P w = .ok (.value z) w' ∧ Below w.heap.size w w' ∧ RA z w')
    (yB : ∀ u v y w, Below w0.heap.size w0 w → ∃ z w', (execOp (at4 a0 dA eA dB eB u v VB y).eval pB).run P w = .ok (.value z) w' ∧ Below w.heap.size w w' ∧ RB z w')
    (rest : ∀ v y w', RA v w' → RB y w' → Below w0.heap.size w0 w' → wpAnyH P md l.toArray (NoPanic Q) (fun _ => True) f (L true true true true) (at4 a0 dA eA dB eB VA v VB y) w')
    (u v x y : Value) :
    wpAnyH P md l.toArray (NoPanic Q) (fun _ => True) (f + 4) (L false false false false) (at4 a0 dA eA dB eB u v x y) w0 := by
  have pA1 : ∀ u v x y z, (at4 a0 dA eA dB eB u v x y).put (some dA) z = at4 a0 dA eA dB eB z v x y := by
    intro u v x y z
    unfold at4
    rw [put_comm _ eB dA _ _ n3.symm, put_comm _ dB dA _ _ n2.symm, put_comm _ eA dA _ _ n1.symm, put_same]
  have pA2 : ∀ u v x y z, (at4 a0 dA eA dB eB u v x y).put (some eA) z = at4 a0 dA eA dB eB u z x y := by
    intro u v x y z
    unfold at4
    rw [put_comm _ eB eA _ _ n5.symm, put_comm _ dB eA _ _ n4.symm, put_same]
  have pB1 : ∀ u v x y z, (at4 a0 dA eA dB eB u v x y).put (some dB) z = at4 a0 dA eA dB eB u v z y := by
    intro u v x y z
    unfold at4
    rw [put_comm _ eB dB _ _ n6.symm, put_same]
  have pB2 : ∀ u v x y z, (at4 a0 dA eA dB eB u v x y).put (some eB) z = at4 a0 dA eA dB eB u v x z := by
    intro u v x y z
    unfold at4
    rw [put_same]
  have st : ∀ {w w' : World}, Below w0.heap.size w0 w → Below w.heap.size w w' → Below w0.heap.size w0 w' := fun h k => h.trans (k.mono h.size)
  -- backwards through the states
  have s21 : ∀ v y w, RA v w → Below w0.heap.size w0 w → wpAnyH P md l.toArray (NoPanic Q) (fun _ => True) (f + 1) (L true true true false) (at4 a0 dA eA dB eB VA v VB y) w := fun v y w h1 hb => by
    obtain ⟨z, w', hr, hb2, hz⟩ := yB VA v y w hb
    refine oneT jB pB z mB hB q21 hr ?_
    rw [zB, tB, pB2]
    exact rest _ _ _ (kA _ _ _ h1 hb2) hz (st hb hb2)
  have s12 : ∀ v y w, RB y w → Below w0.heap.size w0 w → wpAnyH P md l.toArray (NoPanic Q) (fun _ => True) (f + 1) (L true false true true) (at4 a0 dA eA dB eB VA v VB y) w := fun v y w h1 hb => by
    obtain ⟨z, w', hr, hb2, hz⟩ := yA v VB y w hb
    refine oneT jA pA z mA hA q12 hr ?_
    rw [zA, tA, pA2]
    exact rest _ _ _ hz (kB _ _ _ h1 hb2) (st hb hb2)
  have s11 : ∀ v y w, Below w0.heap.size w0 w → wpAnyH P md l.toArray (NoPanic Q) (fun _ => True) (f + 2) (L true false true false) (at4 a0 dA eA dB eB VA v VB y) w := fun v y w hb => by
    refine every (by rw [q11]; simp) fun i hi => ?_
    rw [q11] at hi
    rcases List.mem_cons.1 hi with rfl | hi
    · obtain ⟨z, w', hr, hb2, hz⟩ := yA v VB y w hb
      refine ⟨pA, mA, hA, .inl ⟨z, w', hr, trivial, ?_⟩⟩
      rw [zA, tA, pA2]
      exact s21 _ _ _ hz (st hb hb2)
    · obtain rfl : i = jB := by simpa using hi
      obtain ⟨z, w', hr, hb2, hz⟩ := yB VA v y w hb
      refine ⟨pB, mB, hB, .inl ⟨z, w', hr, trivial, ?_⟩⟩
      rw [zB, tB, pB2]
      exact s12 _ _ _ hz (st hb hb2)
  have s20 : ∀ v x y w, RA v w → Below w0.heap.size w0 w → wpAnyH P md l.toArray (NoPanic Q) (fun _ => True) (f + 2) (L true true false false) (at4 a0 dA eA dB eB VA v x y) w := fun v x y w h1 hb => by
    refine oneT iB oB VB lB gB q20 (rB _ _ _ _ w hb) ?_
    rw [cB, sB, pB1]
    exact s21 _ _ _ h1 hb
  have s02 : ∀ u v y w, RB y w → Below w0.heap.size w0 w → wpAnyH P md l.toArray (NoPanic Q) (fun _ => True) (f + 2) (L false false true true) (at4 a0 dA eA dB eB u v VB y) w := fun u v y w h1 hb => by
    refine oneT iA oA VA lA gA q02 (rA _ _ _ _ w hb) ?_
    rw [cA, sA, pA1]
    exact s12 _ _ _ h1 hb
  have s10 : ∀ v x y w, Below w0.heap.size w0 w → wpAnyH P md l.toArray (NoPanic Q) (fun _ => True) (f + 3) (L true false false false) (at4 a0 dA eA dB eB VA v x y) w := fun v x y w hb => by
    refine every (by rw [q10]; simp) fun i hi => ?_
    rw [q10] at hi
    rcases List.mem_cons.1 hi with rfl | hi
    · obtain ⟨z, w', hr, hb2, hz⟩ := yA v x y w hb
      refine ⟨pA, mA, hA, .inl ⟨z, w', hr, trivial, ?_⟩⟩
      rw [zA, tA, pA2]
      exact s20 _ _ _ _ hz (st hb hb2)
    · obtain rfl : i = iB := by simpa using hi
      refine ⟨oB, lB, gB, .inl ⟨VB, w, rB _ _ _ _ w hb, trivial, ?_⟩⟩
      rw [cB, sB, pB1]
      exact s11 _ _ _ hb
  have s01 : ∀ u v y w, Below w0.heap.size w0 w → wpAnyH P md l.toArray (NoPanic Q) (fun _ => True) (f + 3) (L false false true false) (at4 a0 dA eA dB eB u v VB y) w := fun u v y w hb => by
    refine every (by rw [q01]; simp) fun i hi => ?_
    rw [q01] at hi
    rcases List.mem_cons.1 hi with rfl | hi
    · refine ⟨oA, lA, gA, .inl ⟨VA, w, rA _ _ _ _ w hb, trivial, ?_⟩⟩
      rw [cA, sA, pA1]
      exact s11 _ _ _ hb
    · obtain rfl : i = jB := by simpa using hi
      obtain ⟨z, w', hr, hb2, hz⟩ := yB u v y w hb
      refine ⟨pB, mB, hB, .inl ⟨z, w', hr, trivial, ?_⟩⟩
      rw [zB, tB, pB2]
      exact s02 _ _ _ _ hz (st hb hb2)
  refine every (by rw [q00]; simp) fun i hi => ?_
  rw [q00] at hi
  rcases List.mem_cons.1 hi with rfl | hi
  · refine ⟨oA, lA, gA, .inl ⟨VA, w0, rA _ _ _ _ w0 (Below.refl _ _), trivial, ?_⟩⟩
    rw [cA, sA, pA1]
    exact s10 _ _ _ _ (Below.refl _ _)
  · obtain rfl : i = iB := by simpa using hi
    refine ⟨oB, lB, gB, .inl ⟨VB, w0, rB _ _ _ _ w0 (Below.refl _ _), trivial, ?_⟩⟩
    rw [cB, sB, pB1]
    exact s01 _ _ _ _ (Below.refl _ _)
end
end Go.Proofs.YtphifanacehppaaGreat.plan
/- A region whose order is open: a row that is made (0), a call that reads it and makes memory (4), and another row (7), which may come up at any time. Whatever the order, behind the three the state is the same but for where the rows lie. No condition. -/
namespace Go.Proofs.YtphifanacehppaaGreat.plan
open Go Go.RowKit
set_option linter.unusedVariables false

section
variable {P : Program} {md : Region.Mode} {Q : Exit → Act → World → Prop} {l : List Oper}

/-- the frame, with the three results -/
def at3 (a0 : Act) (d0 d4 d7 : Nat) (v0 v4 v7 : Value) : Act := ((a0.put (some d0) v0).put (some d4) v4).put (some d7) v7

theorem three (a0 : Act) (w0 : World) (i0 i4 i7 d0 d4 d7 f : Nat) (n04 : d0 ≠ d4) (n07 : d0 ≠ d7) (n47 : d4 ≠ d7) (o0 o4 o7 : Oper) (L : Bool → Bool → Bool → Array Bool)
    (l0 : l[i0]? = some o0) (l4 : l[i4]? = some o4) (l7 : l[i7]? = some o7) (g0 : o0.guard = none) (g4 : o4.guard = none) (g7 : o7.guard = none) (s0 : o0.dst = some d0) (s4 : o4.dst = some d4) (s7 : o7.dst = some d7)
    (e0 : ∀ b4 b7, (L false b4 b7).setIfInBounds i0 true = L true b4 b7) (e4 : ∀ b7, (L true false b7).setIfInBounds i4 true = L true true b7) (e7 : ∀ b0 b4, (L b0 b4 false).setIfInBounds i7 true = L b0 b4 true)
    (q1 : Region.ready md l.toArray (L false false false) = [i0, i7]) (q2 : Region.ready md l.toArray (L true false false) = [i4, i7]) (q3 : Region.ready md l.toArray (L false false true) = [i0])
    (q4 : Region.ready md l.toArray (L true false true) = [i4]) (q5 : Region.ready md l.toArray (L true true false) = [i7])
    (V0 V4 V7 : Nat → Value) (R0 R4 R7 : Nat → World → Prop) (F : FuncId) (x4 : Nat → Array Value)
    (t0 : ∀ g w w', R0 g w → Below w.heap.size w w' → R0 g w') (t4 : ∀ g w w', R4 g w → Below w.heap.size w w' → R4 g w') (t7 : ∀ g w w', R7 g w → Below w.heap.size w w' → R7 g w')
    (lt4 : ∀ g w, R4 g w → g < w.heap.size) (lt7 : ∀ g w, R7 g w → g < w.heap.size)
    (r0 : ∀ v0 v4 v7 w, ∃ w', (execOp (at3 a0 d0 d4 d7 v0 v4 v7).eval o0).run P w = .ok (.value (V0 w.heap.size)) w' ∧ Below w.heap.size w w' ∧ R0 w.heap.size w')
    (r7 : ∀ v0 v4 v7 w, ∃ w', (execOp (at3 a0 d0 d4 d7 v0 v4 v7).eval o7).run P w = .ok (.value (V7 w.heap.size)) w' ∧ Below w.heap.size w w' ∧ R7 w.heap.size w')
    (r4 : ∀ g v4 v7 w, (execOp (at3 a0 d0 d4 d7 (V0 g) v4 v7).eval o4).run P w = .ok (.enter F (x4 g)) w)
    (k4 : ∀ g w, R0 g w → Calls P F (x4 g) w fun e w' => ∃ g', e = .returned (V4 g') ∧ w.heap.size ≤ g' ∧ R4 g' w' ∧ Below w.heap.size w w')
    (rest : ∀ g g' g'' w', w0.heap.size ≤ g' → w0.heap.size ≤ g'' → g' ≠ g'' → R4 g' w' → R7 g'' w' → Below w0.heap.size w0 w' →
      wpAnyH P md l.toArray (NoPanic Q) (Below w0.heap.size w0) f (L true true true) (at3 a0 d0 d4 d7 (V0 g) (V4 g') (V7 g'')) w')
    (u0 u4 u7 : Value) :
    wpAnyH P md l.toArray (NoPanic Q) (Below w0.heap.size w0) (f + 3) (L false false false) (at3 a0 d0 d4 d7 u0 u4 u7) w0 := by
  have p0 : ∀ v0 v4 v7 v, (at3 a0 d0 d4 d7 v0 v4 v7).put (some d0) v = at3 a0 d0 d4 d7 v v4 v7 := by
    intro v0 v4 v7 v
    unfold at3
    rw [put_comm _ d7 d0 _ _ n07.symm, put_comm _ d4 d0 _ _ n04.symm, put_same]
  have p4 : ∀ v0 v4 v7 v, (at3 a0 d0 d4 d7 v0 v4 v7).put (some d4) v = at3 a0 d0 d4 d7 v0 v v7 := by
    intro v0 v4 v7 v
    unfold at3
    rw [put_comm _ d7 d4 _ _ n47.symm, put_same]
  have p7 : ∀ v0 v4 v7 v, (at3 a0 d0 d4 d7 v0 v4 v7).put (some d7) v = at3 a0 d0 d4 d7 v0 v4 v := by
    intro v0 v4 v7 v
    unfold at3
    rw [put_same]
  refine every (by rw [q1]; simp) fun i hi => ?_
  rw [q1] at hi
  rcases List.mem_cons.1 hi with rfl | hi
  · obtain ⟨w1, h1, b1, z1⟩ := r0 u0 u4 u7 w0
    refine ⟨o0, l0, g0, .inl ⟨_, w1, h1, b1, ?_⟩⟩
    rw [e0, s0, p0]
    refine every (by rw [q2]; simp) fun i hi => ?_
    rw [q2] at hi
    rcases List.mem_cons.1 hi with rfl | hi
    · refine ⟨o4, l4, g4, .inr ⟨F, _, r4 _ _ _ _, (k4 _ w1 z1).mono ?_⟩⟩
      rintro e w2 ⟨g', rfl, hg', hR, b2⟩
      have B2 := b1.trans (b2.mono b1.size)
      refine ⟨_, rfl, B2, ?_⟩
      rw [e4, s4, p4]
      refine every (by rw [q5]; simp) fun i hi => ?_
      rw [q5] at hi
      obtain rfl : i = i7 := by simpa using hi
      obtain ⟨w3, h3, b3, z3⟩ := r7 (V0 w0.heap.size) (V4 g') u7 w2
      have B3 := B2.trans (b3.mono B2.size)
      refine ⟨o7, l7, g7, .inl ⟨_, w3, h3, B3, ?_⟩⟩
      rw [e7, s7, p7]
      have := lt4 _ _ hR
      have := b1.size
      exact rest _ _ _ _ (by omega) B2.size (by omega) (t4 _ _ _ hR b3) z3 B3
    · obtain rfl : i = i7 := by simpa using hi
      obtain ⟨w2, h2, b2, z2⟩ := r7 (V0 w0.heap.size) u4 u7 w1
      have B2 := b1.trans (b2.mono b1.size)
      refine ⟨o7, l7, g7, .inl ⟨_, w2, h2, B2, ?_⟩⟩
      rw [e7, s7, p7]
      refine every (by rw [q4]; simp) fun i hi => ?_
      rw [q4] at hi
      obtain rfl : i = i4 := by simpa using hi
      refine ⟨o4, l4, g4, .inr ⟨F, _, r4 _ _ _ _, (k4 _ w2 (t0 _ _ _ z1 b2)).mono ?_⟩⟩
      rintro e w3 ⟨g', rfl, hg', hR, b3⟩
      have B3 := B2.trans (b3.mono B2.size)
      refine ⟨_, rfl, B3, ?_⟩
      rw [e4, s4, p4]
      have := lt7 _ _ z2
      exact rest _ _ _ _ (by have := B2.size; omega) b1.size (by omega) hR (t7 _ _ _ z2 b3) B3
  · obtain rfl : i = i7 := by simpa using hi
    obtain ⟨w1, h1, b1, z1⟩ := r7 u0 u4 u7 w0
    refine ⟨o7, l7, g7, .inl ⟨_, w1, h1, b1, ?_⟩⟩
    rw [e7, s7, p7]
    refine every (by rw [q3]; simp) fun i hi => ?_
    rw [q3] at hi
    obtain rfl : i = i0 := by simpa using hi
    obtain ⟨w2, h2, b2, z2⟩ := r0 u0 u4 (V7 w0.heap.size) w1
    have B2 := b1.trans (b2.mono b1.size)
    refine ⟨o0, l0, g0, .inl ⟨_, w2, h2, B2, ?_⟩⟩
    rw [e0, s0, p0]
    refine every (by rw [q4]; simp) fun i hi => ?_
    rw [q4] at hi
    obtain rfl : i = i4 := by simpa using hi
    refine ⟨o4, l4, g4, .inr ⟨F, _, r4 _ _ _ _, (k4 _ w2 z2).mono ?_⟩⟩
    rintro e w3 ⟨g', rfl, hg', hR, b3⟩
    have B3 := B2.trans (b3.mono B2.size)
    refine ⟨_, rfl, B3, ?_⟩
    rw [e4, s4, p4]
    have := lt7 _ _ z1
    exact rest _ _ _ _ (by have := B2.size; omega) (Nat.le_refl _) (by have := b2.size; omega) hR (t7 _ _ _ z1 (b2.trans (b3.mono b2.size))) B3
theorem one {S : World → Prop} {f : Nat} {listed : Array Bool} {a : Act} {w w1 : World} (i : Nat) (o : Oper) (v : Value) (hi : l[i]? = some o) (hg : o.guard = none) (hr : Region.ready md l.toArray listed = [i])
    (hv : (execOp a.eval o).run P w = .ok (.value v) w1) (hS : S w1) (h : wpAnyH P md l.toArray (NoPanic Q) S f (listed.setIfInBounds i true) (a.put o.dst v) w1) : wpAnyH P md l.toArray (NoPanic Q) S (f + 1) listed a w := by
  refine every (by rw [hr]; simp) fun j hj => ?_
  rw [hr] at hj
  obtain rfl : j = i := by simpa using hj
  exact ⟨o, hi, hg, .inl ⟨v, w1, hv, hS, h⟩⟩
theorem Rest.to3 {n : Nat} {listed : Array Bool} {a : Act} {w : World} (d0 d4 d7 f : Nat) (L : Bool → Bool → Bool → Array Bool) (hf : n = f + 3) (hl : listed = L false false false) (ha : at3 a d0 d4 d7 undef undef undef = a)
    (h : wpAnyH P md l.toArray (NoPanic Q) (Below w.heap.size w) (f + 3) (L false false false) (at3 a d0 d4 d7 undef undef undef) w) : Rest P md l Q n listed a w := by
  subst hf hl
  rw [ha] at h
  exact h
end
end Go.Proofs.YtphifanacehppaaGreat.plan
/- A region whose order is open: a row that is made (A), a new variable (B), and a value that is built of the row (C). Whatever the order, behind the three the state is the same but for where the row and the variable lie. No condition. -/
namespace Go.Proofs.YtphifanacehppaaGreat.plan
open Go Go.RowKit
set_option linter.unusedVariables false

section
variable {P : Program} {md : Region.Mode} {Q : Exit → Act → World → Prop} {l : List Oper}
theorem two (a0 : Act) (w0 : World) (iA iB iC dA dB dC f : Nat) (nAB : dA ≠ dB) (nAC : dA ≠ dC) (nBC : dB ≠ dC) (oA oB oC : Oper) (L : Bool → Bool → Bool → Array Bool)
    (lA : l[iA]? = some oA) (lB : l[iB]? = some oB) (lC : l[iC]? = some oC) (gA : oA.guard = none) (gB : oB.guard = none) (gC : oC.guard = none) (sA : oA.dst = some dA) (sB : oB.dst = some dB) (sC : oC.dst = some dC)
    (eA : ∀ b c, (L false b c).setIfInBounds iA true = L true b c) (eB : ∀ a c, (L a false c).setIfInBounds iB true = L a true c) (eC : ∀ a b, (L a b false).setIfInBounds iC true = L a b true)
    (q0 : Region.ready md l.toArray (L false false false) = [iA, iB]) (q1 : Region.ready md l.toArray (L true false false) = [iC, iB]) (q2 : Region.ready md l.toArray (L false true false) = [iA])
    (q3 : Region.ready md l.toArray (L true true false) = [iC]) (q4 : Region.ready md l.toArray (L true false true) = [iB])
    (R : Nat → Value → World → Prop) (VC : Value → Value) (t : TypeId) (cs : List Value)
    (tR : ∀ g v w w', R g v w → Below w.heap.size w w' → R g v w') (lt : ∀ g v w, R g v w → g < w.heap.size)
    (rA : ∀ u v c w, Below w0.heap.size w0 w → ∃ g x w', (execOp (at3 a0 dA dB dC u v c).eval oA).run P w = .ok (.value x) w' ∧ Below w.heap.size w w' ∧ w.heap.size ≤ g ∧ R g x w')
    (rB : ∀ u v c w, (execOp (at3 a0 dA dB dC u v c).eval oB).run P w = .ok (.value (.pointer (some ⟨w.heap.size, 0, none⟩))) (w.alloc (.cells cs.toArray t)))
    (rC : ∀ g u v c w, R g u w → (execOp (at3 a0 dA dB dC u v c).eval oC).run P w = .ok (.value (VC u)) w)
    (rest : ∀ g g' x w', w0.heap.size ≤ g → w0.heap.size ≤ g' → g ≠ g' → R g x w' → Block w' g' t cs → Below w0.heap.size w0 w' →
      wpAnyH P md l.toArray (NoPanic Q) (Below w0.heap.size w0) f (L true true true) (at3 a0 dA dB dC x (.pointer (some ⟨g', 0, none⟩)) (VC x)) w')
    (u v c : Value) :
    wpAnyH P md l.toArray (NoPanic Q) (Below w0.heap.size w0) (f + 3) (L false false false) (at3 a0 dA dB dC u v c) w0 := by
  have pA : ∀ u v c x, (at3 a0 dA dB dC u v c).put (some dA) x = at3 a0 dA dB dC x v c := by
    intro u v c x
    unfold at3
    rw [put_comm _ dC dA _ _ nAC.symm, put_comm _ dB dA _ _ nAB.symm, put_same]
  have pB : ∀ u v c x, (at3 a0 dA dB dC u v c).put (some dB) x = at3 a0 dA dB dC u x c := by
    intro u v c x
    unfold at3
    rw [put_comm _ dC dB _ _ nBC.symm, put_same]
  have pC : ∀ u v c x, (at3 a0 dA dB dC u v c).put (some dC) x = at3 a0 dA dB dC u v x := by
    intro u v c x
    unfold at3
    rw [put_same]
  refine every (by rw [q0]; simp) fun i hi => ?_
  rw [q0] at hi
  rcases List.mem_cons.1 hi with rfl | hi
  · obtain ⟨g, x, w1, h1, b1, hg, z1⟩ := rA u v c w0 (Below.refl _ _)
    refine ⟨oA, lA, gA, .inl ⟨_, w1, h1, b1, ?_⟩⟩
    rw [eA, sA, pA]
    refine every (by rw [q1]; simp) fun i hi => ?_
    rw [q1] at hi
    have bN : Below w0.heap.size w0 (w1.alloc (.cells cs.toArray t)) := b1.trans (((Below.refl _ _).alloc (Nat.le_refl _) _).mono b1.size)
    have zN := tR _ _ _ _ z1 ((Below.refl w1.heap.size w1).alloc (Nat.le_refl _) (.cells cs.toArray t))
    have hne : g ≠ w1.heap.size := by have := lt _ _ _ z1; omega
    rcases List.mem_cons.1 hi with rfl | hi
    · refine ⟨oC, lC, gC, .inl ⟨_, w1, rC g x v c w1 z1, b1, ?_⟩⟩
      rw [eC, sC, pC]
      refine every (by rw [q4]; simp) fun i hi => ?_
      rw [q4] at hi
      obtain rfl : i = iB := by simpa using hi
      refine ⟨oB, lB, gB, .inl ⟨_, _, rB x v _ w1, bN, ?_⟩⟩
      rw [eB, sB, pB]
      exact rest _ _ _ _ hg b1.size hne zN (Block.new w1 t cs) bN
    · obtain rfl : i = iB := by simpa using hi
      refine ⟨oB, lB, gB, .inl ⟨_, _, rB x v c w1, bN, ?_⟩⟩
      rw [eB, sB, pB]
      refine every (by rw [q3]; simp) fun i hi => ?_
      rw [q3] at hi
      obtain rfl : i = iC := by simpa using hi
      refine ⟨oC, lC, gC, .inl ⟨_, _, rC g x _ c _ zN, bN, ?_⟩⟩
      rw [eC, sC, pC]
      exact rest _ _ _ _ hg b1.size hne zN (Block.new w1 t cs) bN
  · obtain rfl : i = iB := by simpa using hi
    have b1 : Below w0.heap.size w0 (w0.alloc (.cells cs.toArray t)) := (Below.refl _ _).alloc (Nat.le_refl _) _
    refine ⟨oB, lB, gB, .inl ⟨_, _, rB u v c w0, b1, ?_⟩⟩
    rw [eB, sB, pB]
    refine every (by rw [q2]; simp) fun i hi => ?_
    rw [q2] at hi
    obtain rfl : i = iA := by simpa using hi
    obtain ⟨g, x, w2, h2, b2, hg, z2⟩ := rA u (.pointer (some ⟨w0.heap.size, 0, none⟩)) c _ b1
    have b3 := b1.trans (b2.mono b1.size)
    have hB := (Block.new w0 t cs).later b2
    have hlt := (Block.new w0 t cs).lt
    refine ⟨oA, lA, gA, .inl ⟨_, w2, h2, b3, ?_⟩⟩
    rw [eA, sA, pA]
    refine every (by rw [q3]; simp) fun i hi => ?_
    rw [q3] at hi
    obtain rfl : i = iC := by simpa using hi
    refine ⟨oC, lC, gC, .inl ⟨_, _, rC g x _ c _ z2, b3, ?_⟩⟩
    rw [eC, sC, pC]
    exact rest _ _ _ _ (by have := b1.size; omega) (Nat.le_refl _) (by omega) z2 hB b3
end
end Go.Proofs.YtphifanacehppaaGreat.plan
/- Single operations on slices and words, run by themselves; an append onto nothing. No condition. -/
namespace Go.Proofs.YtphifanacehppaaGreat.frame
open Go Go.RowKit Go.Proofs.YtphifanacehppaaGreat.zeros
set_option linter.unusedVariables false

section
variable {o : Oper} {a : Act} {w : World}
theorem exec_index {x y : Operand} {b off len cap i : Nat} (ho : o.op = .indexAddr 24 x y) (hx : a.eval x = .slice (some ⟨b, off, none⟩) len cap) (hy : a.eval y = .int .i64 (i : Int)) (hi : i < len) :
    (execOp a.eval o).run Tryz.prog w = .ok (.value (.pointer (some ⟨b, off + i, none⟩))) w := by
  unfold execOp
  rw [ho]
  simp only [hx, hy]
  go_simp
theorem exec_word {x : Operand} {ad : Addr} {n : Nat} (ho : o.op = .load 43 x) (hx : a.eval x = .pointer (some ad)) (hc : w.cell? ad = some (.int .u32 (n : Int))) :
    (execOp a.eval o).run Tryz.prog w = .ok (.value (.int .u32 (n : Int))) w := by
  unfold execOp
  rw [ho]
  simp only [hx]
  go_simp
theorem exec_quo {x y : Operand} {t : TypeId} {n : Nat} (ho : o.op = .binOp .quo 43 x y t) (hx : a.eval x = .int .u32 (n : Int)) (hy : a.eval y = .int .u32 1073741824) (hn : n < 4294967296) :
    (execOp a.eval o).run Tryz.prog w = .ok (.value (.int .u32 ((n : Int) / 1073741824))) w := by
  unfold execOp
  rw [ho]
  simp only [hx, hy]
  go_simp
  rw [IntKind.wrap_u32']
  omega
theorem exec_rem {x y : Operand} {t : TypeId} {n : Nat} (ho : o.op = .binOp .rem 43 x y t) (hx : a.eval x = .int .u32 (n : Int)) (hy : a.eval y = .int .u32 1073741824) (hn : n < 4294967296) :
    (execOp a.eval o).run Tryz.prog w = .ok (.value (.int .u32 ((n : Int) % 1073741824))) w := by
  unfold execOp
  rw [ho]
  simp only [hx, hy]
  go_simp
  exact Int.tmod_eq_emod_of_nonneg (by omega)
theorem exec_wide {x : Operand} {n : Int} (ho : o.op = .convert 43 3 x) (hx : a.eval x = .int .u32 n) (h0 : 0 ≤ n) (hn : n < 4294967296) :
    (execOp a.eval o).run Tryz.prog w = .ok (.value (.int .i64 n)) w := by
  unfold execOp
  rw [ho]
  simp only [hx]
  go_simp
  exact IntWalk.i64_in _ (by omega)
theorem exec_add2 {x y : Operand} {t : TypeId} {n : Nat} (ho : o.op = .binOp .add 3 x y t) (hx : a.eval x = .int .i64 2) (hy : a.eval y = .int .i64 (n : Int)) (hn : n ≤ 56) :
    (execOp a.eval o).run Tryz.prog w = .ok (.value (.int .i64 (2 + (n : Int)))) w := by
  unfold execOp
  rw [ho]
  simp only [hx, hy]
  go_simp
  exact IntWalk.i64_in _ (by omega)
theorem exec_cut {x y z : Operand} {b off len cap n : Nat} (ho : o.op = .slice 24 x (some y) (some z) none) (hx : a.eval x = .slice (some ⟨b, off, none⟩) len cap) (hy : a.eval y = .int .i64 2) (hz : a.eval z = .int .i64 (2 + (n : Int))) (hn : 2 + n ≤ cap) (hp : 0 < n) :
    (execOp a.eval o).run Tryz.prog w = .ok (.value (.slice (some ⟨b, off + 2, none⟩) n (cap - 2))) w := by
  unfold execOp
  rw [ho]
  simp only [hx, Option.map_some, hy, hz]
  go_simp
  rw [if_pos (by omega), if_pos (by omega), if_neg (by omega), show (2 + (n : Int)).toNat - 2 = n by omega]
theorem exec_new {t : TypeId} (ho : o.op = .alloc 118) :
    (execOp a.eval o).run Tryz.prog w = .ok (.value (.pointer (some ⟨w.heap.size, 0, none⟩))) (w.alloc (.cells #[.int .i64 0, .int .i64 0, .slice none 0 0] 118)) := by
  unfold execOp
  rw [ho]
  go_simp
theorem exec_append {x y : Operand} {ad : Addr} {n c : Nat} {L : List Nat} (ho : o.op = .call { callee := .builtin .append, args := #[x, y], argTypes := #[24, 24] }) (hx : a.eval x = .slice none 0 0) (hy : a.eval y = .slice (some ad) n c)
    (hr : Reads .u32 w (some ad) n L) (hn : 0 < n) (hs : n ≤ 1048576) :
    ∃ g cap w', (execOp a.eval o).run Tryz.prog w = .ok (.value (.slice (some ⟨g, 0, none⟩) n cap)) w' ∧ Below w.heap.size w w' ∧ w.heap.size ≤ g ∧ Row w' 43 .u32 g cap L := by
  obtain ⟨i0, hi, hz0, hz1, hz2⟩ := info_parts Tryzinfo34
  obtain ⟨v, w', h1, h2, h3, _, _⟩ := run_append_own_at w w.heap.size 24 o.type 43 i0 (.int .u32 0) 1 4 Tryz.underlying24 hi hz0 hz1 hz2 rfl (by decide) (.slice none 0 0) 0 [] (World.ownsRow_nil _ _ _ _) ad n c (L.map fun x : Nat => Value.int .u32 (x : Int)) (by simp [hr.1]) (cells_of hr) (ints_one _ _) (by unfold maxLen; omega) (by omega) (Nat.le_refl _)
  rw [Nat.zero_add, List.nil_append] at h2
  obtain ⟨g, cap, rfl, hg, hrow⟩ := Row.own h2 hn
  refine ⟨g, cap, w', ?_, (Below.refl _ _).grown h3 (Nat.le_refl _) (fun k hk => by cases hk), hg, hrow⟩
  unfold execOp
  simp [ho, resolve, invoke, builtin, hx, hy, h1, Result.andThen]
theorem exec_row {x y : Operand} {ad : Addr} {n c : Nat} {L : List Nat} (ho : o.op = .call { callee := .builtin .append, args := #[x, y], argTypes := #[24, 24] }) (hx : a.eval x = .slice none 0 0) (hy : a.eval y = .slice (some ad) n c)
    (hr : Reads .u32 w (some ad) n L) (hn : 0 < n) (hs : n ≤ 1048576) :
    ∃ g u w', (execOp a.eval o).run Tryz.prog w = .ok (.value u) w' ∧ Below w.heap.size w w' ∧ w.heap.size ≤ g ∧ ∃ c, u = .slice (some ⟨g, 0, none⟩) n c ∧ Row w' 43 .u32 g c L := by
  obtain ⟨g, cap, w', h1, h2, h3, h4⟩ := exec_append ho hx hy hr hn hs
  exact ⟨g, _, w', h1, h2, h3, cap, rfl, h4⟩
theorem exec_add3 {x y : Operand} {t : TypeId} {n : Nat} (ho : o.op = .binOp .add 3 x y t) (hx : a.eval x = .int .i64 (n : Int)) (hy : a.eval y = .int .i64 3) (hn : n ≤ 56) :
    (execOp a.eval o).run Tryz.prog w = .ok (.value (.int .i64 ((n : Int) + 3))) w := by
  unfold execOp
  rw [ho]
  simp only [hx, hy]
  go_simp
  exact IntWalk.i64_in _ (by omega)
theorem exec_pre {x z : Operand} {b off len cap n : Nat} (ho : o.op = .slice 24 x none (some z) none) (hx : a.eval x = .slice (some ⟨b, off, none⟩) len cap) (hz : a.eval z = .int .i64 ((n : Int) + 3)) (hn : n + 3 ≤ cap) :
    (execOp a.eval o).run Tryz.prog w = .ok (.value (.slice (some ⟨b, off, none⟩) (n + 3) cap)) w := by
  unfold execOp
  rw [ho]
  simp only [hx, Option.map_some, Option.map_none, hz]
  go_simp
  rw [if_pos (by omega), show ((n : Int) + 3).toNat = n + 3 by omega]
end
end Go.Proofs.YtphifanacehppaaGreat.frame
/- Contract of the reference's add of layer 11. No condition. -/
namespace Go.Proofs.YtphifanacehppaaGreat.journal
open Go Go.RowKit Go.Proofs.YtphifanacehppaaGreat.flash Go.Proofs.YtphifanacehppaaGreat.geom
set_option linter.unusedVariables false

section
variable {o : Oper} {a : Act} {w : World}
theorem exec_loads {x : Operand} {ad : Addr} {p : Option Addr} {n c : Nat} (ho : o.op = .load 46 x) (hx : a.eval x = .pointer (some ad)) (hc : w.cell? ad = some (.slice p n c)) : (execOp a.eval o).run Tryz.prog w = .ok (.value (.slice p n c)) w := by
  unfold execOp
  rw [ho]
  simp only [hx]
  go_simp
theorem exec_load1 {x : Operand} {ad : Addr} {p : Option Addr} {n c : Nat} (ho : o.op = .load 24 x) (hx : a.eval x = .pointer (some ad)) (hc : w.cell? ad = some (.slice p n c)) : (execOp a.eval o).run Tryz.prog w = .ok (.value (.slice p n c)) w := by
  unfold execOp
  rw [ho]
  simp only [hx]
  go_simp
theorem exec_put1 {x y : Operand} {ad : Addr} {v : Value} {p : Option Addr} {n c : Nat} (ho : o.op = .store 46 x y) (hx : a.eval x = .pointer (some ad)) (hy : a.eval y = .slice p n c) (hc : w.cell? ad = some v) (hf : w.frozen? ad = false) : (execOp a.eval o).run Tryz.prog w = .ok .skip (w.setCell ad (.slice p n c)) := by
  unfold execOp
  rw [ho]
  simp only [hx, hy]
  go_simp
theorem exec_join {x y : Operand} {base : Nat} {v : Value} {n : Nat} {xs news : List Value} {ap : Option Addr} {m c : Nat} (ho : o.op = .call { callee := .builtin .append, args := #[x, y], argTypes := #[46, 46] }) (hx : a.eval x = v) (hy : a.eval y = .slice ap m c)
    (hown : w.ownsRow base 24 1 v n xs) (hl : news.length = m) (hnews : m = 0 ∨ ∃ ad, ap = some ad ∧ ∀ j u, news[j]? = some u → w.cell? (ad.add j) = some u) (h1 : ∀ u ∈ news, u.oneCell' = true) (hn : n + m ≤ 1048576) (hbase : base ≤ w.heap.size) :
    ∃ v' w', (execOp a.eval o).run Tryz.prog w = .ok (.value v') w' ∧ w'.ownsRow base 24 1 v' (n + m) (xs ++ news) ∧ w.grownBy w' v.ownBlock := by
  obtain ⟨j0, hj, hy0, hy1, hy2⟩ := info_parts slice_info
  by_cases hm : m = 0
  · subst hm
    obtain rfl : news = [] := List.eq_nil_of_length_eq_zero hl
    obtain ⟨bp, cp, rfl, hcp⟩ := ownsRow_slice hown
    have hsrc : Src Tryz.prog j0.size 46 (.slice ap 0 c) 0 [] w := by
      cases ap with
      | none => exact Src.ofNil w Tryz.underlying46 c
      | some ad => exact Src.ofSlice w Tryz.underlying46 ad 0 c [] (by simp) (by simp) (by simp)
    have hrun := run_append_nothing w 46 46 o.type 24 j0 Tryz.underlying46 hj bp n cp hcp _ hsrc
    refine ⟨_, w, ?_, by simpa using hown, grown_refl _ _⟩
    unfold execOp
    simp [ho, resolve, invoke, builtin, hx, hy, hrun, Result.andThen]
  · rcases hnews with h0 | ⟨ad, rfl, hc⟩
    · exact absurd h0 hm
    · obtain ⟨v', w', h2, h3, h4, _, _⟩ := run_append_own_at w base 46 o.type 24 j0 (.slice none 0 0) 1 24 Tryz.underlying46 hj hy0 hy1 hy2 rfl (by decide) v n xs hown ad m c news (by omega) hc h1 (by unfold maxLen; omega) (by omega) hbase
      refine ⟨v', w', ?_, h3, h4⟩
      unfold execOp
      simp [ho, resolve, invoke, builtin, hx, hy, h2, Result.andThen]
theorem exec_joined {x y : Operand} {n : Nat} {news : List Value} {ap : Option Addr} {c B : Nat} (ho : o.op = .call { callee := .builtin .append, args := #[x, y], argTypes := #[46, 46] }) (hx : a.eval x = .slice none 0 0) (hy : a.eval y = .slice ap n c)
    (hl : news.length = n) (hnews : n = 0 ∨ ∃ ad, ap = some ad ∧ ∀ j u, news[j]? = some u → w.cell? (ad.add j) = some u) (h1 : ∀ u ∈ news, u.oneCell' = true) (hn : n ≤ 1048576) (hB : B ≤ w.heap.size) :
    ∃ v' w', (execOp a.eval o).run Tryz.prog w = .ok (.value v') w' ∧ Below w.heap.size w w' ∧ w'.ownsRow B 24 1 v' n news := by
  obtain ⟨v', w', k1, k2, k3⟩ := exec_join (base := B) ho hx hy (World.ownsRow_nil _ _ _ _) hl hnews h1 (by omega) hB
  rw [Nat.zero_add, List.nil_append] at k2
  exact ⟨v', w', k1, (Below.refl _ _).grown k3 (Nat.le_refl _) (fun k hk => by cases hk), k2⟩
end
/-- what add leaves -/
def Added (X : Nat → Prop) (j g : Nat) (c0 c1 c3 : Value) (R : Part) (w w' : World) : Prop :=
  ∃ wv cv, Block w' j 48 [c0, c1, .int .i64 (R.tail : Int), c3, .int .i64 (R.seq : Int), wv, cv] ∧ LoadAt (fun y => (X y ∨ y = g ∨ w.heap.size ≤ y) ∧ y < w'.heap.size) w' wv R.whole ∧ LoadsAt (fun y => (X y ∨ y = g ∨ w.heap.size ≤ y) ∧ y < w'.heap.size) w' cv R.changes ∧ Only (fun y => y = j) w w'
theorem reads_cells {w : World} {a : Option Addr} {Ls : List (List Nat)} {vs : List Value} {e : TypeId} {c : Nat} (h : w.ownsRow 0 e 1 (.slice a Ls.length c) Ls.length vs) : Ls.length = 0 ∨ ∃ ad, a = some ad ∧ ∀ j u, vs[j]? = some u → w.cell? (ad.add j) = some u := by
  by_cases hz : Ls.length = 0
  · exact .inl hz
  · obtain ⟨q, cap, he, _⟩ := ownsRow_form h (by omega)
    cases he
    refine .inr ⟨_, rfl, fun j u hu => ?_⟩
    rcases (Vals.own h).2 with hv | ⟨b, off, hb, _, hv⟩
    · omega
    · cases hb
      have := hv j _ hu
      rw [Addr.add_lit]
      exact this
set_option maxHeartbeats 3200000 in
theorem refAdd_any {X : Nat → Prop} {j g c n k s : Nat} {c0 c1 c3 wv cv : Value} {L : List Nat} {w : World} (p : Part)
    (hB : Block w j 48 [c0, c1, .int .i64 (p.tail : Int), c3, .int .i64 (p.seq : Int), wv, cv]) (hw : LoadAt X w wv p.whole) (hc : LoadsAt X w cv p.changes) (hX : ¬ X j) (hrow : Row w 43 .u32 g c L) (hgj : g ≠ j) (hn : L.length + 3 = n) (ht : p.tail + n ≤ 8192) (hlen : p.changes.length ≤ 8192) :
    Calls Tryz.prog 65 #[.pointer (some ⟨j, 0, none⟩), .agg #[.int .i64 (k : Int), .int .i64 (s : Int), .slice (some ⟨g, 0, none⟩) L.length c], .int .i64 (n : Int)] w fun e w' => e = .returned (.tuple #[]) ∧ Added X j g c0 c1 c3 (p.add k s L) w w' := by
  have hlt := hB.lt
  have hglt := hrow.lt
  have hb1 : Below w.heap.size w (w.alloc (.cells #[.int .i64 (k : Int), .int .i64 (s : Int), .slice (some ⟨g, 0, none⟩) L.length c] 118)) := (Below.refl _ _).alloc (Nat.le_refl _) _
  have hF : Block (w.alloc (.cells #[.int .i64 (k : Int), .int .i64 (s : Int), .slice (some ⟨g, 0, none⟩) L.length c] 118)) w.heap.size 118 [.int .i64 (k : Int), .int .i64 (s : Int), .slice (some ⟨g, 0, none⟩) L.length c] := Block.new w 118 [.int .i64 (k : Int), .int .i64 (s : Int), .slice (some ⟨g, 0, none⟩) L.length c]
  have hB1 := hB.later hb1
  have i1 : (p.tail : Int) + (n : Int) ≤ 8192 := by omega
  have k2 : w.cell? ⟨j, 2, none⟩ = some (.int .i64 (p.tail : Int)) := hB.cell 2
  have k4 : w.cell? ⟨j, 4, none⟩ = some (.int .i64 (p.seq : Int)) := hB.cell 4
  obtain ⟨wa, wc, rfl, _⟩ := hw.reads
  obtain ⟨ca, cc, rfl, hcc⟩ := hc.slice
  have k5 : w.cell? ⟨j, 5, none⟩ = some (.slice wa p.whole.length wc) := hB.cell 5
  have k6 : w.cell? ⟨j, 6, none⟩ = some (.slice ca p.changes.length cc) := hB.cell 6
  have f2 := hB.frozen 2
  have f4 := hB.frozen 4
  have f5 := hB.frozen 5
  have f6 := hB.frozen 6
  have hne : w.heap.size ≠ j := by omega
  have hne2 : j ≠ w.heap.size := by omega
  have HF := hid hF
  have HB1 := hid hB1
  have HB := hid hB
  have HW := hid hw
  have HC := hid hc
  have HX := hid hX
  have HROW := hid hrow
  have HN := hid hn
  have HBL := hid hb1
  have HLT := hid hlt
  have HGLT := hid hglt
  have HGJ := hid hgj
  have HLEN := hid hlen
  have d0 := hF.cell 0
  have d1 := hF.cell 1
  have d2 := hF.cell 2
  obtain ⟨R, hR⟩ : ∃ R, Hid (p.add k s L = R) := ⟨_, rfl⟩
  rw [hR.out]
  have hR2 := hR.out
  unfold Part.add at hR2
  rw [hn] at hR2
  by_cases hk1 : k = 1
  · rw [if_pos hk1] at hR2
    have HR := hid hR2
    have hkb : ((k : Int) == 1) = true := by simp; omega
    clear hB hB1 hF hw hc hX hrow hn hb1 hlen hR2 hk1 hglt hgj ht
    go_enter Tryz.func65, Tryz.ntmps65
    go_wp2
    refine ret0 rfl rfl ⟨rfl, ?_⟩
    have hO : Only (fun y => y = j) w (((((w.setCell ⟨j, 4, none⟩ (.int .i64 (s : Int))).setCell ⟨j, 2, none⟩ (.int .i64 ((p.tail : Int) + (n : Int)))).setCell ⟨j, 5, none⟩ (.slice (some ⟨g, 0, none⟩) L.length c)).setCell ⟨j, 6, none⟩ (.slice none 0 0)).alloc
      (.cells #[.int .i64 (k : Int), .int .i64 (s : Int), .slice (some ⟨g, 0, none⟩) L.length c] 118)) :=
      (((((Only.refl (fun y => y = j) w).setCell (g := j) (.inl rfl) 4 _).setCell (g := j) (.inl rfl) 2 _).setCell (g := j) (.inl rfl) 5 _).setCell (g := j) (.inl rfl) 6 _).alloc _
    rw [← HR.out]
    refine ⟨.slice (some ⟨g, 0, none⟩) L.length c, .slice none 0 0, ((((HB.out.setCell 4 (.int .i64 (s : Int))).setCell 2 (.int .i64 ((p.tail : Int) + (n : Int)))).setCell 5 (.slice (some ⟨g, 0, none⟩) L.length c)).setCell 6 (.slice none 0 0)).alloc _, ?_, .nil, hO⟩
    have hr := HROW.out.only hO HGJ.out
    exact LoadAt.row hr ⟨.inr (.inl rfl), hr.lt⟩
  · rw [if_neg hk1] at hR2
    have HR := hid hR2
    have hkb : ((k : Int) == 1) = false := by simp; omega
    clear hB hB1 hF hw hc hX hrow hn hb1 hlen hR2 hk1 hglt hgj ht
    go_enter Tryz.func65, Tryz.ntmps65
    go_wp2
    obtain ⟨W, hW⟩ : ∃ x, Hid (((w.setCell ⟨j, 4, none⟩ (.int .i64 (s : Int))).setCell ⟨j, 2, none⟩ (.int .i64 ((p.tail : Int) + (n : Int)))).alloc (.cells #[.int .i64 (k : Int), .int .i64 (s : Int), .slice (some ⟨g, 0, none⟩) L.length c] 118) = x) := ⟨_, rfl⟩
    rw [hW.out]
    have hO : Only (fun y => y = j) w W := by
      rw [← hW.out]
      exact (((Only.refl (fun y => y = j) w).setCell (g := j) (.inl rfl) 4 _).setCell (g := j) (.inl rfl) 2 _).alloc _
    have hBJ : Block W j 48 [c0, c1, .int .i64 ((p.tail : Int) + (n : Int)), c3, .int .i64 (s : Int), .slice wa p.whole.length wc, .slice ca p.changes.length cc] := by
      rw [← hW.out]
      exact ((HB.out.setCell 4 (.int .i64 (s : Int))).setCell 2 (.int .i64 ((p.tail : Int) + (n : Int)))).alloc _
    have hBF : Block W w.heap.size 118 [.int .i64 (k : Int), .int .i64 (s : Int), .slice (some ⟨g, 0, none⟩) L.length c] := by
      rw [← hW.out]
      have := Block.new ((w.setCell ⟨j, 4, none⟩ (.int .i64 (s : Int))).setCell ⟨j, 2, none⟩ (.int .i64 ((p.tail : Int) + (n : Int)))) 118 [.int .i64 (k : Int), .int .i64 (s : Int), .slice (some ⟨g, 0, none⟩) L.length c]
      simpa using this
    obtain ⟨vs, hv1, hv2, hv3⟩ := HC.out
    have hv1' : W.ownsRow 0 24 1 (.slice ca p.changes.length cc) p.changes.length vs := ownsRow_same hv1 fun y hy => hO.block y (World.ownsRow.lt hv1 y hy).2 (fun e => HX.out (e ▸ hv2 y hy))
    have hcells : ∀ w', Below W.heap.size W w' → p.changes.length = 0 ∨ ∃ ad, ca = some ad ∧ ∀ i u, vs[i]? = some u → w'.cell? (ad.add i) = some u := fun w' hb => reads_cells (ownsRow_same hv1' fun y hy => hb.block y (World.ownsRow.lt hv1' y hy).2)
    have hvl : vs.length = p.changes.length := by have := hv1.1; omega
    have hv1o : ∀ u ∈ vs, u.oneCell' = true := fun u hu => by
      obtain ⟨i, hi, rfl⟩ := List.mem_iff_getElem.1 hu
      obtain ⟨x, hx, hl⟩ := hv3 i (by omega)
      rw [List.getElem?_eq_getElem hi] at hx
      cases hx
      exact hl.one
    have HO := hid hO
    have HBJ := hid hBJ
    have HBF := hid hBF
    have HV3 := hid hv3
    have HV2 := hid hv2
    have HV1 := hid hv1
    have HCELL := hid hcells
    have HVL := hid hvl
    have HV1O := hid hv1o
    have HVB : Hid (∀ b, (Value.slice ca p.changes.length cc).ownBlock = some b → b < W.heap.size) := hid fun b hb => (World.ownsRow.lt hv1' b hb).2
    clear hO hBJ hBF hv1 hv2 hv3 hv1' hcells hvl hv1o
    refine plan.regionT (by kernel_rfl) ?_
    refine plan.free 0 _ (.pointer (some ⟨j, 0, none⟩)) rfl (by kernel_rfl) (by kernel_rfl) (by kernel_rfl) (by kernel_rfl) (fun w' => (by kernel_rfl)) ?_
    refine plan.free 1 _ (.pointer (some ⟨j, 0, none⟩)) rfl (by kernel_rfl) (by kernel_rfl) (by kernel_rfl) (by kernel_rfl) (fun w' => (by kernel_rfl)) ?_
    refine plan.free 2 _ (.pointer (some ⟨j, 0, none⟩)) rfl (by kernel_rfl) (by kernel_rfl) (by kernel_rfl) (by kernel_rfl) (fun w' => (by kernel_rfl)) ?_
    refine plan.free 3 _ (.pointer (some ⟨j, 6, none⟩)) rfl (by kernel_rfl) (by kernel_rfl) (by kernel_rfl) (by kernel_rfl) (fun w' => (by kernel_rfl)) ?_
    refine plan.free 6 _ (.pointer (some ⟨w.heap.size, 2, none⟩)) rfl (by kernel_rfl) (by kernel_rfl) (by kernel_rfl) (by kernel_rfl) (fun w' => (by kernel_rfl)) ?_
    refine plan.to4 35 36 38 39 4 (fun p q r s => #[true, true, true, true, p, q, true, r, s, false, false, false, false]) (by kernel_rfl) (by kernel_rfl) (by kernel_rfl) ?_
    refine plan.cross _ _ 4 7 5 8 35 36 38 39 4 (by decide) (by decide) (by decide) (by decide) (by decide) (by decide) _ _ _ _ (fun p q r s => #[true, true, true, true, p, q, true, r, s, false, false, false, false])
      rfl rfl rfl rfl rfl rfl rfl rfl rfl rfl rfl rfl (fun _ _ _ => rfl) (fun _ _ _ => rfl) (fun _ _ _ => rfl) (fun _ _ _ => rfl) (by kernel_rfl) (by kernel_rfl) (by kernel_rfl) (by kernel_rfl) (by kernel_rfl) (by kernel_rfl) (by kernel_rfl) (by kernel_rfl)
      (.slice ca p.changes.length cc) (.slice (some ⟨g, 0, none⟩) L.length c)
      (fun v w' => w'.ownsRow W.heap.size 24 1 v p.changes.length vs) (fun v w' => ∃ q, v = .slice (some ⟨q, 0, none⟩) 1 1 ∧ Block w' q 24 [.slice (some ⟨g, 0, none⟩) L.length c])
      (fun x w1 w2 h k => ownsRow_same h fun y hy => k.block y (World.ownsRow.lt h y hy).2) (fun x w1 w2 h k => h.imp fun q h => ⟨h.1, h.2.later k⟩)
      ?rA ?rB ?yA ?yB ?rest undef undef undef undef
    case rA =>
      intro u v x y w' hb'
      replace hb' : Below W.heap.size W w' := (below_drewN (Below.refl _ _) 1).trans hb'
      exact exec_loads (ad := ⟨j, 6, none⟩) rfl (by kernel_rfl) ((HBJ.out.later hb').cell 6)
    case rB =>
      intro u v x y w' hb'
      replace hb' : Below W.heap.size W w' := (below_drewN (Below.refl _ _) 1).trans hb'
      exact exec_load1 (ad := ⟨w.heap.size, 2, none⟩) rfl (by kernel_rfl) ((HBF.out.later hb').cell 2)
    case yA =>
      intro v x y w' hb'
      replace hb' : Below W.heap.size W w' := (below_drewN (Below.refl _ _) 1).trans hb'
      exact exec_joined (ap := ca) (c := cc) rfl (by kernel_rfl) (by kernel_rfl) HVL.out (HCELL.out w' hb') HV1O.out (by have := HLEN.out; omega) hb'.size
    case yB =>
      intro u v y w' hb'
      exact ⟨_, w'.alloc (.cells #[.slice (some ⟨g, 0, none⟩) L.length c] 24), by kernel_rfl, (Below.refl _ _).alloc (Nat.le_refl _) _, _, rfl, Block.new w' 24 [.slice (some ⟨g, 0, none⟩) L.length c]⟩
    case rest =>
      rintro v y w' hown ⟨q, rfl, hq⟩ hb'
      replace hb' : Below W.heap.size W w' := (below_drewN (Below.refl _ _) 1).trans hb'
      refine plan.oneE 9 _ (fun v' w9 => w9.ownsRow W.heap.size 24 1 v' (p.changes.length + 1) (vs ++ [.slice (some ⟨g, 0, none⟩) L.length c]) ∧ w'.grownBy w9 v.ownBlock) rfl rfl (by kernel_rfl)
        (exec_join (m := 1) (c := 1) (ap := some ⟨q, 0, none⟩) rfl (by kernel_rfl) (by kernel_rfl) hown rfl (.inr ⟨⟨q, 0, none⟩, rfl, World.news_of_block (cs := #[.slice (some ⟨g, 0, none⟩) L.length c]) (t := 24) (fr := (0, 0)) hq⟩) (by simp [Value.oneCell']) (by have := HLEN.out; omega) hb'.size) ?_
      rintro v' w9 ⟨h2, h3⟩
      have hvb : ∀ y, v.ownBlock = some y → W.heap.size ≤ y := fun y hy => (World.ownsRow.lt hown y hy).1
      have hb9 : Below W.heap.size W w9 := Below.grown hb' h3 hb'.size hvb
      obtain ⟨va, vc, rfl, _⟩ := ownsRow_slice h2
      have hB9 := HBJ.out.later hb9
      refine plan.oneT (w1 := w9) 10 _ (.pointer (some ⟨j, 0, none⟩)) rfl rfl (by kernel_rfl) (by kernel_rfl) ?_
      refine plan.oneT (w1 := w9) 11 _ (.pointer (some ⟨j, 6, none⟩)) rfl rfl (by kernel_rfl) (by kernel_rfl) ?_
      refine plan.lastT (w1 := w9.setCell ⟨j, 6, none⟩ (.slice va (p.changes.length + 1) vc)) 12 _ rfl rfl rfl (by kernel_rfl) (by kernel_rfl) (exec_put1 (ad := ⟨j, 6, none⟩) rfl (by kernel_rfl) (by kernel_rfl) (hB9.cell 6) (hB9.frozen 6)) ?_
      refine ret0 rfl rfl ⟨rfl, ?_⟩
      rw [← HR.out]
      have hO12 : Only (fun y => y = j) w (w9.setCell ⟨j, 6, none⟩ (.slice va (p.changes.length + 1) vc)) := (HO.out.later hb9).setCell (g := j) (.inl rfl) 6 _
      have hjW : j < W.heap.size := HBJ.out.lt
      have hwW := HO.out.size
      have hsz : (w9.setCell ⟨j, 6, none⟩ (.slice va (p.changes.length + 1) vc)).heap.size = w9.heap.size := by simp
      have wide : ∀ {u : Value} {M : List Nat}, LoadAt X w u M → LoadAt (fun y => (X y ∨ y = g ∨ w.heap.size ≤ y) ∧ y < (w9.setCell ⟨j, 6, none⟩ (.slice va (p.changes.length + 1) vc)).heap.size) (w9.setCell ⟨j, 6, none⟩ (.slice va (p.changes.length + 1) vc)) u M := fun hl =>
        (hl.stays (.only hO12 fun y hy e => HX.out (e ▸ hy))).wide fun y hy hlt => ⟨.inl hy, hlt⟩
      have hlN : (vs ++ [Value.slice (some ⟨g, 0, none⟩) L.length c]).length = p.changes.length + 1 := by rw [List.length_append, HVL.out]; rfl
      have hown6 : (w9.setCell ⟨j, 6, none⟩ (.slice va (p.changes.length + 1) vc)).ownsRow W.heap.size 24 1 (.slice va (p.changes.length + 1) vc) (p.changes.length + 1) (vs ++ [.slice (some ⟨g, 0, none⟩) L.length c]) :=
        ownsRow_same h2 fun y hy => Below.heap_setCell w9 ⟨j, 6, none⟩ _ y (by have := (World.ownsRow.lt h2 y hy).1; show y ≠ j; omega)
      refine ⟨_, _, hB9.setCell 6 _, wide HW.out, ⟨vs ++ [.slice (some ⟨g, 0, none⟩) L.length c], ?_, fun y hy => ?_, fun i hi => ?_⟩, hO12⟩
      · rw [List.length_append, List.length_singleton]
        refine ⟨hown6.1, hown6.2.imp id ?_⟩
        rintro ⟨q2, cap, cur, e1, e2, e3⟩
        exact ⟨q2, cap, cur, e1, Nat.zero_le _, e3⟩
      · have := World.ownsRow.lt hown6 y hy
        exact ⟨.inr (.inr (by omega)), this.2⟩
      · rw [List.length_append, List.length_singleton] at hi
        by_cases hi2 : i < p.changes.length
        · obtain ⟨u, hu, hl⟩ := HV3.out i hi2
          refine ⟨u, by rw [List.getElem?_append_left (by rw [HVL.out]; exact hi2)]; exact hu, ?_⟩
          rw [List.getD_eq_getElem?_getD, List.getElem?_append_left hi2, ← List.getD_eq_getElem?_getD]
          exact wide hl
        · obtain rfl : i = p.changes.length := by omega
          refine ⟨.slice (some ⟨g, 0, none⟩) L.length c, by rw [List.getElem?_append_right (by rw [HVL.out]; exact Nat.le_refl _), HVL.out, Nat.sub_self]; rfl, ?_⟩
          rw [List.getD_eq_getElem?_getD, List.getElem?_append_right (Nat.le_refl _), Nat.sub_self]
          have hr := HROW.out.only hO12 HGJ.out
          exact LoadAt.row hr ⟨.inr (.inl rfl), hr.lt⟩
end Go.Proofs.YtphifanacehppaaGreat.journal
/- Contracts of the reference's Twin and Told of layer 2. -/
namespace Go.Proofs.YtphifanacehppaaGreat.zeros
open Go.RowKit
set_option linter.unusedVariables false

theorem refTwin_any (n : Nat) (hn : n < 65536) (w : World) :
    Calls Tryz.prog 84 #[.int .i64 n] w (Quiet (.int .u32 (twinN n)) w) := by
  have HT : Hid (twinN n = (65535 - n) * 65536 + n) := rfl
  generalize twinN n = t at *
  go_enter Tryz.func84, Tryz.ntmps84
  go_wp2
  go_ret
  refine ⟨ret_int ?_, 0, rfl⟩
  rw [HT.out]
  omega
theorem refTold_any (x : Nat) (hx : x < 4294967296) (w : World) :
    Calls Tryz.prog 106 #[.int .u32 x] w (Quiet (toldV x) w) := by
  have c := fun w' => refTwin_any (x % 65536) (by omega) w'
  simp only [Int.natCast_emod, Int.cast_ofNat_Int] at c
  have ht : twinN (x % 65536) < 4294967296 := twinN_lt _ (by omega)
  unfold toldV toldN
  by_cases h : twinN (x % 65536) = x
  · rw [if_pos h]
    rw [h] at c
    have hq : ((x : Int) != x) = false := by simp
    clear h ht
    go_enter Tryz.func106, Tryz.ntmps106
    go_wp2_with (go_at_call 84; (with_reducible refine (c _).mono ?_); rintro e w' ⟨rfl, m2, rfl⟩)
    go_ret2
    exact ⟨by simp, _, rfl⟩
  · rw [if_neg h]
    generalize twinN (x % 65536) = t at *
    have hq : ((t : Int) != x) = true := by rw [bne_iff_ne]; omega
    clear h ht
    go_enter Tryz.func106, Tryz.ntmps106
    go_wp2_with (go_at_call 84; (with_reducible refine (c _).mono ?_); rintro e w' ⟨rfl, m2, rfl⟩)
    go_ret2
    exact ⟨rfl, _, rfl⟩
end Go.Proofs.YtphifanacehppaaGreat.zeros
/- Contract of the reference's Same of layer 1 at two slices that read alike. -/
namespace Go.Proofs.YtphifanacehppaaGreat.word
open Go.RowKit
set_option linter.unusedVariables false

set_option maxHeartbeats 1600000 in
theorem same_any (a b : Option Addr) (len ca cb : Nat) (xs : List Nat) (w : World) (ha : Reads .u32 w a len xs) (hb : Reads .u32 w b len xs) (hl : len * 4 ≤ 140737488355328) :
    Calls Tryz.prog 18 #[.slice a len ca, .slice b len cb] w (Quiet (.bool true) w) := by
  have hq : ((len : Int) != len) = false := by simp
  go_enter Tryz.func18, Tryz.ntmps18
  go_wp2
  go_loopw [5] (fun i wr => ∃ k : Nat, k ≤ len ∧ i = .int .i64 k ∧ ∃ m, wr = w.drewN m) (fun i _ => len - (intOf i).toNat)
  case atStart => exact ⟨0, Nat.zero_le _, rfl, 0, rfl⟩
  case round =>
    obtain ⟨k, hk, rfl, m, rfl⟩ := hrel
    by_cases hlt : k < len
    · obtain ⟨b1, o1, rfl, _, hc1⟩ := ha.at hlt
      obtain ⟨b2, o2, rfl, _, hc2⟩ := hb.at hlt
      have c1 := hc1 k hlt
      have c2 := hc2 k hlt
      have i1 : (k : Int) < len := by omega
      clear hc1 hc2
      generalize xs.getD k 0 = x1 at *
      have hn : ((x1 : Int) != x1) = false := by simp
      have c1' : (w.drewN m).cell? ⟨b1, o1 + k, none⟩ = some (.int .u32 (x1 : Int)) := c1
      have c2' : (w.drewN m).cell? ⟨b2, o2 + k, none⟩ = some (.int .u32 (x1 : Int)) := c2
      go_wp2
      go_quiet (fail)
      go_wp2
      exact ⟨⟨k + 1, by omega, by go_num, ⟨_, rfl⟩⟩, by simp [intOf]; omega⟩
    · go_wp2
      go_ret
      exact ⟨rfl, _, rfl⟩
end Go.Proofs.YtphifanacehppaaGreat.word
