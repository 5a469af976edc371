/- Contracts and lemmas that the claims of this seat share: Four, Drift, RegionS, Stay, FieldPush, SchemaRight, FormRow, SchemaAt, SchemaForm, CloneOwn, FieldSpan, FieldSpanFrom. Each says its own conditions. -/
import Derived.Test.YtaciegkblklokaaGreatCmE
import Derived.Test.YtaciegkblklokaaGreatCmB
import Derived.Test.YtaciegkblklokaaGreatCmD
import Derived.Maps.AppendAt
import Derived.Conc.WalkWords
import Derived.Test.YtaciegkblklokaaGreatCmC
import Derived.Deep.RegionHeld3
import Derived.Handy
set_option linter.unusedVariables false
namespace Go.Proofs.YtaciegkblklokaaGreat.plan
open Go Go.RowKit
theorem put_same (a : Act) (d : Nat) (u v : Value) : (a.put (some d) u).put (some d) v = a.put (some d) v := by
 simp [Act.put]
theorem put_comm (a : Act) (d e : Nat) (u v : Value) (h : d ≠ e) : (a.put (some d) u).put (some e) v = (a.put (some e) v).put (some d) u := by
 simp only [Act.put, Act.mk.injEq, and_true]
 exact Array.setIfInBounds_comm u v h
section
variable {P : Program} {md : Region.Mode} {Q : Exit → Act → World → Prop} {l : List Oper}
theorem every {S : World → Prop} {f : Nat} {listed : Array Bool} {a : Act} {w : World} (hne : Region.ready md l.toArray listed ≠ [])
  (h : ∀ i ∈ Region.ready md l.toArray listed, ∃ o, l[i]? = some o ∧ o.guard = none ∧
   ((∃ v w1, (execOp a.eval o).run P w = .ok (.value v) w1 ∧ S w1 ∧ wpAnyH P md l.toArray (NoPanic Q) S f (listed.setIfInBounds i true) (a.put o.dst v) w1) ∨
    (∃ F args, (execOp a.eval o).run P w = .ok (.enter F args) w ∧ Calls P F args w fun e w' => ∃ v, e = .returned v ∧ S w' ∧ wpAnyH P md l.toArray (NoPanic Q) S f (listed.setIfInBounds i true) (a.put o.dst v) w'))) :
  wpAnyH P md l.toArray (NoPanic Q) S (f + 1) listed a w := by
 refine wpAnyH_all rfl hne fun i hi => ?_
 obtain ⟨o, ho, hg, h⟩ := h i hi
 have hi' : l.toArray[i]? = some o := by simpa using ho
 have hw : Region.wanted o (yielded l.toArray a.tmps) = true := by unfold Region.wanted; rw [hg]
 unfold wpOp
 rcases h with ⟨v, w1, hv, hb, hR⟩ | ⟨F, args, hv, hc⟩
 ·simp only [hi', hw, if_true, Oper.wp, hv, Oper.upon]
  exact .inl ⟨hb, hR⟩
 ·simp only [hi', hw, if_true, Oper.wp, hv, Oper.upon]
  refine .inl (hc.mono ?_)
  rintro e w' ⟨v, rfl, hb, hR⟩
  exact ⟨hb, hR⟩
theorem store {f : Nat} {listed : Array Bool} {a : Act} {w0 w : World} (B i : Nat) (o : Oper) (ty : TypeId) (x y : Operand) (g : Nat) (t : TypeId) (cs : List Value) (cells : Array Value) (hi : l[i]? = some o) (hg : o.guard = none) (ho : o.op = .store ty x y) (hd : o.dst = none)
  (hr : Region.ready md l.toArray listed = [i]) (hx : a.eval x = .pointer (some ⟨g, 0, none⟩)) (hy : a.eval y = .agg cells) (hb : Block w g t cs) (hl : cs.length = cells.size) (hs : (P.info? ty).map (·.size) = some cells.size) (h1 : cells.all (·.oneCell') = true)
  (h0 : Below B w0 w) (hB : B ≤ g)
  (hS : ∀ w', Below B w0 w' → Block w' g t cells.toList → (∀ g' t' cs', g' ≠ g → Block w g' t' cs' → Block w' g' t' cs') → wpAnyH P md l.toArray (NoPanic Q) (Below B w0) f (listed.setIfInBounds i true) a w') :
  wpAnyH P md l.toArray (NoPanic Q) (Below B w0) (f + 1) listed a w := by
 refine wpAnyH_all hr (by simp) fun j hj => ?_
 obtain rfl : j = i := by simpa using hj
 have hi' : l.toArray[j]? = some o := by simpa using hi
 have hw : Region.wanted o (yielded l.toArray a.tmps) = true := by unfold Region.wanted; rw [hg]
 have hrun : (execOp a.eval o).run P w = .ok .skip (w.setCells g 0 cells.toList) := by
  unfold execOp
  simp [ho, hx, hy, run_storeAt_mid w g 0 ty cells (hb.there 0 cells.size (by omega)) hs h1]
 have hbl : Below B w0 (w.setCells g 0 cells.toList) := below_setCells h0 hB _ _
 unfold wpOp
 simp only [hi', hw, if_true, Oper.wp, hrun, Oper.upon]
 refine .inl ⟨hbl, ?_⟩
 rw [hd]
 refine hS _ hbl ?_ fun g' t' cs' hne h' => h'.aparts g 0 _ hne
 have := hb.setCells (vs := cells.toList) (o := 0)
 rwa [put_all _ _ (by simpa using hl)] at this
def at4 (a0 : Act) (d2 d5 d6 d7 : Nat) (v2 v5 p6 p7 : Value) : Act := (((a0.put (some d2) v2).put (some d5) v5).put (some d6) p6).put (some d7) p7
structure Inv4 (w0 : World) (t : TypeId) (Z : List Value) (V2 V5 : Value) (b2 b5 b6 b7 : Bool) (v2 v5 p6 p7 : Value) (w : World) : Prop where
 below : Below w0.heap.size w0 w
 c2 : b2 = true → v2 = V2
 c5 : b5 = true → v5 = V5
 a6 : b6 = true → ∃ g, p6 = .pointer (some ⟨g, 0, none⟩) ∧ w0.heap.size ≤ g ∧ Block w g t Z
 a7 : b7 = true → ∃ g, p7 = .pointer (some ⟨g, 0, none⟩) ∧ w0.heap.size ≤ g ∧ Block w g t Z
 ne : b6 = true → b7 = true → p6 ≠ p7
theorem Inv4.later {w0 w w' : World} {t : TypeId} {Z : List Value} {V2 V5 : Value} {b2 b5 b6 b7 : Bool} {v2 v5 p6 p7 : Value} (h : Inv4 w0 t Z V2 V5 b2 b5 b6 b7 v2 v5 p6 p7 w) (hb : Below w.heap.size w w') :
  Inv4 w0 t Z V2 V5 b2 b5 b6 b7 v2 v5 p6 p7 w' :=
 ⟨h.below.trans (hb.mono h.below.size), h.c2, h.c5, fun e => (h.a6 e).imp fun g ⟨h1, h2, h3⟩ => ⟨h1, h2, h3.later hb⟩, fun e => (h.a7 e).imp fun g ⟨h1, h2, h3⟩ => ⟨h1, h2, h3.later hb⟩, h.ne⟩
theorem four (a0 : Act) (w0 : World) (t : TypeId) (Z : List Value) (V2 V5 : Value) (d2 d5 d6 d7 : Nat) (o2 o5 o6 o7 : Oper) (F : FuncId) (x2 x5 : Array Value)
  (n25 : d2 ≠ d5) (n26 : d2 ≠ d6) (n27 : d2 ≠ d7) (n56 : d5 ≠ d6) (n57 : d5 ≠ d7) (n67 : d6 ≠ d7)
  (l2 : l[2]? = some o2) (l5 : l[5]? = some o5) (l6 : l[6]? = some o6) (l7 : l[7]? = some o7)
  (g2 : o2.guard = none) (g5 : o5.guard = none) (g6 : o6.guard = none) (g7 : o7.guard = none)
  (s2 : o2.dst = some d2) (s5 : o5.dst = some d5) (s6 : o6.dst = some d6) (s7 : o7.dst = some d7)
  (hready : ∀ b2 b5 b6 b7, (b5 = true → b2 = true) → (b2 && b5 && b6 && b7) = false →
   Region.ready md l.toArray #[true, true, b2, true, true, b5, b6, b7, false, false] = (if b2 = true then (if b5 = true then [] else [5]) else [2]) ++ ((if b6 = true then [] else [6]) ++ (if b7 = true then [] else [7])))
  (r2 : ∀ v2 v5 p6 p7 w, (execOp (at4 a0 d2 d5 d6 d7 v2 v5 p6 p7).eval o2).run P w = .ok (.enter F x2) w)
  (r5 : ∀ v2 v5 p6 p7 w, (execOp (at4 a0 d2 d5 d6 d7 v2 v5 p6 p7).eval o5).run P w = .ok (.enter F x5) w)
  (r6 : ∀ v2 v5 p6 p7 w, (execOp (at4 a0 d2 d5 d6 d7 v2 v5 p6 p7).eval o6).run P w = .ok (.value (.pointer (some ⟨w.heap.size, 0, none⟩))) (w.alloc (.cells Z.toArray t)))
  (r7 : ∀ v2 v5 p6 p7 w, (execOp (at4 a0 d2 d5 d6 d7 v2 v5 p6 p7).eval o7).run P w = .ok (.value (.pointer (some ⟨w.heap.size, 0, none⟩))) (w.alloc (.cells Z.toArray t)))
  (k2 : ∀ w, Calls P F x2 w fun e w' => e = .returned V2 ∧ Below w.heap.size w w') (k5 : ∀ w, Calls P F x5 w fun e w' => e = .returned V5 ∧ Below w.heap.size w w')
  (rest : ∀ g g' w', w0.heap.size ≤ g → w0.heap.size ≤ g' → g ≠ g' → Block w' g t Z → Block w' g' t Z → Below w0.heap.size w0 w' →
   wpAnyH P md l.toArray (NoPanic Q) (Below w0.heap.size w0) 2 #[true, true, true, true, true, true, true, true, false, false] (at4 a0 d2 d5 d6 d7 V2 V5 (.pointer (some ⟨g, 0, none⟩)) (.pointer (some ⟨g', 0, none⟩))) w') :
  ∀ (n : Nat) (b2 b5 b6 b7 : Bool) (v2 v5 p6 p7 : Value) (w : World), (b5 = true → b2 = true) → n = (if b2 = true then 0 else 1) + (if b5 = true then 0 else 1) + (if b6 = true then 0 else 1) + (if b7 = true then 0 else 1) →
   Inv4 w0 t Z V2 V5 b2 b5 b6 b7 v2 v5 p6 p7 w →
   wpAnyH P md l.toArray (NoPanic Q) (Below w0.heap.size w0) (n + 2) #[true, true, b2, true, true, b5, b6, b7, false, false] (at4 a0 d2 d5 d6 d7 v2 v5 p6 p7) w := by
 have e2 : ∀ v2 v5 p6 p7 v, (at4 a0 d2 d5 d6 d7 v2 v5 p6 p7).put (some d2) v = at4 a0 d2 d5 d6 d7 v v5 p6 p7 := by
  intro v2 v5 p6 p7 v
  unfold at4
  rw [put_comm _ d7 d2 _ _ n27.symm, put_comm _ d6 d2 _ _ n26.symm, put_comm _ d5 d2 _ _ n25.symm, put_same]
 have e5 : ∀ v2 v5 p6 p7 v, (at4 a0 d2 d5 d6 d7 v2 v5 p6 p7).put (some d5) v = at4 a0 d2 d5 d6 d7 v2 v p6 p7 := by
  intro v2 v5 p6 p7 v
  unfold at4
  rw [put_comm _ d7 d5 _ _ n57.symm, put_comm _ d6 d5 _ _ n56.symm, put_same]
 have e6 : ∀ v2 v5 p6 p7 v, (at4 a0 d2 d5 d6 d7 v2 v5 p6 p7).put (some d6) v = at4 a0 d2 d5 d6 d7 v2 v5 v p7 := by
  intro v2 v5 p6 p7 v
  unfold at4
  rw [put_comm _ d7 d6 _ _ n67.symm, put_same]
 have e7 : ∀ v2 v5 p6 p7 v, (at4 a0 d2 d5 d6 d7 v2 v5 p6 p7).put (some d7) v = at4 a0 d2 d5 d6 d7 v2 v5 p6 v := by
  intro v2 v5 p6 p7 v
  unfold at4
  rw [put_same]
 have hal : ∀ w : World, Below w.heap.size w (w.alloc (.cells Z.toArray t)) := fun w => (Below.refl _ w).alloc (Nat.le_refl _) _
 intro n
 induction n with
 | zero =>
  intro b2 b5 b6 b7 v2 v5 p6 p7 w h25 hn inv
  cases b2 <;> cases b5 <;> cases b6 <;> cases b7 <;> simp at hn
  obtain rfl := inv.c2 rfl
  obtain rfl := inv.c5 rfl
  obtain ⟨g, rfl, hg, hB⟩ := inv.a6 rfl
  obtain ⟨g', rfl, hg', hB'⟩ := inv.a7 rfl
  exact rest g g' w hg hg' (by rintro rfl; exact inv.ne rfl rfl rfl) hB hB' inv.below
 | succ n ih =>
  intro b2 b5 b6 b7 v2 v5 p6 p7 w h25 hn inv
  have hall : (b2 && b5 && b6 && b7) = false := by
   cases b2 <;> cases b5 <;> cases b6 <;> cases b7 <;> simp at hn ⊢
  have hr := hready b2 b5 b6 b7 h25 hall
  refine every ?_ ?_
  ·rw [hr]
   cases b2 <;> cases b5 <;> cases b6 <;> cases b7 <;> simp at hall ⊢
  ·rw [hr]
   intro i hi
   simp only [List.mem_append] at hi
   rcases hi with hi | hi | hi
   ·cases b2 with
    | false =>
     obtain rfl : i = 2 := by simpa using hi
     obtain rfl : b5 = false := by cases b5 <;> simp at h25 ⊢
     refine ⟨o2, l2, g2, .inr ⟨F, x2, r2 _ _ _ _ _, (k2 w).mono ?_⟩⟩
     rintro e w' ⟨rfl, hb⟩
     refine ⟨V2, rfl, (inv.later hb).below, ?_⟩
     rw [s2, e2]
     have i' := inv.later hb
     exact ih true false b6 b7 V2 v5 p6 p7 w' (by simp) (by simp at hn ⊢; omega) ⟨i'.below, fun _ => rfl, i'.c5, i'.a6, i'.a7, i'.ne⟩
    | true =>
     cases b5 with
     | true => simp at hi
     | false =>
      obtain rfl : i = 5 := by simpa using hi
      refine ⟨o5, l5, g5, .inr ⟨F, x5, r5 _ _ _ _ _, (k5 w).mono ?_⟩⟩
      rintro e w' ⟨rfl, hb⟩
      refine ⟨V5, rfl, (inv.later hb).below, ?_⟩
      rw [s5, e5]
      have i' := inv.later hb
      exact ih true true b6 b7 v2 V5 p6 p7 w' (by simp) (by simp at hn ⊢; omega) ⟨i'.below, i'.c2, fun _ => rfl, i'.a6, i'.a7, i'.ne⟩
   ·cases b6 with
    | true => simp at hi
    | false =>
     obtain rfl : i = 6 := by simpa using hi
     refine ⟨o6, l6, g6, .inl ⟨_, _, r6 _ _ _ _ _, (inv.later (hal w)).below, ?_⟩⟩
     rw [s6, e6]
     have i' := inv.later (hal w)
     refine ih b2 b5 true b7 v2 v5 _ p7 _ h25 (by simp at hn ⊢; omega) ⟨i'.below, i'.c2, i'.c5, fun _ => ⟨_, rfl, inv.below.size, Block.new w t Z⟩, i'.a7, fun _ e7 => ?_⟩
     obtain ⟨g, rfl, _, hB⟩ := inv.a7 e7
     have := hB.lt
     simp only [ne_eq, Value.pointer.injEq, Option.some.injEq, Addr.mk.injEq, and_true]
     omega
   ·cases b7 with
    | true => simp at hi
    | false =>
     obtain rfl : i = 7 := by simpa using hi
     refine ⟨o7, l7, g7, .inl ⟨_, _, r7 _ _ _ _ _, (inv.later (hal w)).below, ?_⟩⟩
     rw [s7, e7]
     have i' := inv.later (hal w)
     refine ih b2 b5 b6 true v2 v5 p6 _ _ h25 (by simp at hn ⊢; omega) ⟨i'.below, i'.c2, i'.c5, i'.a6, fun _ => ⟨_, rfl, inv.below.size, Block.new w t Z⟩, fun e6 _ => ?_⟩
     obtain ⟨g, rfl, _, hB⟩ := inv.a6 e6
     have := hB.lt
     simp only [ne_eq, Value.pointer.injEq, Option.some.injEq, Addr.mk.injEq, and_true]
     omega
end
end Go.Proofs.YtaciegkblklokaaGreat.plan
namespace Go.Proofs.YtaciegkblklokaaGreat.plan
open Go Go.RowKit
section
variable {P : Program} {md : Region.Mode} {Q : Exit → Act → World → Prop} {l : List Oper}
theorem oneS {S : World → Prop} {f : Nat} {listed : Array Bool} {a : Act} {w w1 : World} (i : Nat) (o : Oper) (v : Value) (hi : l[i]? = some o) (hg : o.guard = none) (hS : S w1) (h : wpAnyH P md l.toArray (NoPanic Q) S f (listed.setIfInBounds i true) (a.put o.dst v) w1) (hr : Region.ready md l.toArray listed = [i] := by kernel_rfl) (hv : (execOp a.eval o).run P w = .ok (.value v) w1 := by kernel_rfl) : wpAnyH P md l.toArray (NoPanic Q) S (f + 1) listed a w := by
 refine every (by rw [hr]; simp) fun j hj => ?_
 rw [hr] at hj
 obtain rfl : j = i := by simpa using hj
 exact ⟨o, hi, hg, .inl ⟨v, w1, hv, hS, h⟩⟩
theorem doneS {S : World → Prop} {listed : Array Bool} {a : Act} {w : World} (h : Q .normal a w) (hr : Region.ready md l.toArray listed = [] := by kernel_rfl) : wpAnyH P md l.toArray (NoPanic Q) S 0 listed a w := ⟨hr, NoPanic.normal h⟩
end
end Go.Proofs.YtaciegkblklokaaGreat.plan
namespace Go.Proofs.YtaciegkblklokaaGreat.plan
open Go Go.RowKit
section
variable {P : Program} {md : Region.Mode} {Q : Exit → Act → World → Prop} {l : List Oper}
theorem firstS {S : World → Prop} {f : Nat} {listed : Array Bool} {a : Act} {w : World} (i : Nat) (o : Oper) (v : Value) (hi : l[i]? = some o) (hv : ∀ w', S w' → (execOp a.eval o).run P w' = .ok (.value v) w') (hS : S w)
  (h : wpAnyH P md l.toArray (NoPanic Q) S f (listed.setIfInBounds i true) (a.put o.dst v) w) (hs : Region.noSelect l.toArray = true := by kernel_rfl) (hf : Region.free md l.toArray listed i = true := by kernel_rfl) (hr : (Region.ready md l.toArray listed).contains i = true := by kernel_rfl) (hw : Region.wanted o (yielded l.toArray a.tmps) = true := by kernel_rfl) : wpAnyH P md l.toArray (NoPanic Q) S (f + 1) listed a w :=
 wpAnyH_take (by simpa using hi) hs hf hr (fun c a' w' h => h) (.inl ⟨hw, hv⟩) hS h
theorem callS {S : World → Prop} {f : Nat} {listed : Array Bool} {a : Act} {w : World} (i : Nat) (o : Oper) (F : FuncId) (args : Array Value) (hi : l[i]? = some o)
  (h : Calls P F args w fun e w' => ∃ v, e = .returned v ∧ S w' ∧ wpAnyH P md l.toArray (NoPanic Q) S f (listed.setIfInBounds i true) (a.put o.dst v) w') (hr : Region.ready md l.toArray listed = [i] := by kernel_rfl) (hw : Region.wanted o (yielded l.toArray a.tmps) = true := by kernel_rfl) (hv : (execOp a.eval o).run P w = .ok (.enter F args) w := by kernel_rfl) : wpAnyH P md l.toArray (NoPanic Q) S (f + 1) listed a w := by
 refine wpAnyH_all hr (by simp) fun j hj => ?_
 obtain rfl : j = i := by simpa using hj
 have hi' : l.toArray[j]? = some o := by simpa using hi
 unfold wpOp
 simp only [hi', hw, if_true, Oper.wp, hv, Oper.upon]
 refine .inl (h.mono ?_)
 rintro e w' ⟨v, rfl, hS, hR⟩
 exact ⟨hS, hR⟩
theorem regionS {S : World → Prop} {id : Nat} {a : Act} {w : World} (h : wpAnyH P .any l.toArray (NoPanic Q) S l.length (Array.replicate l.length false) a w.drew) (hmx : P.follows .mixedOrders = true := by kernel_rfl) : (Code.region id l.toArray true).wp P Q a w := by
 refine wp_region_noPanic (wp_region_held (S := S) hmx ?_)
 have e : l.toArray.size = l.length := by simp
 rw [e]
 exact h
end
end Go.Proofs.YtaciegkblklokaaGreat.plan
namespace Go.Proofs.YtaciegkblklokaaGreat.schema
open Go.RowKit
def StayT (e : TypeId) (w w' : World) : Prop := ∀ (k : Nat) (cs : Array Value) (fr : Nat × Nat), w.heap[k]? = some (Obj.cells cs e fr) → w'.heap[k]? = some (Obj.cells cs e fr)
theorem StayT.trans {e : TypeId} {a b c : World} (h : StayT e a b) (k : StayT e b c) : StayT e a c := fun i cs fr hi => k i cs fr (h i cs fr hi)
theorem stay_grown (e : TypeId) {B e2 sz n : Nat} {u : Value} {xs : List Value} {w w' : World} (ho : w.ownsRow B e2 sz u n xs) (hg : w.grownBy w' u.ownBlock) (ht : e2 ≠ e) : StayT e w w' := by
 intro k cs fr hk
 refine (hg.block k (Array.getElem?_eq_some_iff.1 hk).1 ?_).trans hk
 intro he
 rcases ho.2 with ⟨hv, _⟩ | ⟨g, cap, cur, hv, _, hh, _⟩
 ·rw [hv] at he; simp [Value.ownBlock] at he
 ·rw [hv] at he
  simp [Value.ownBlock] at he
  subst he
  rw [hh] at hk
  exact ht (Obj.cells.inj (Option.some.inj hk)).2.1
theorem stay_store (e : TypeId) {g : Nat} {t : TypeId} {cs : List Value} {w : World} (hB : Block w g t cs) (ht : t ≠ e) (o : Nat) (v : Value) : StayT e w (w.setCell ⟨g, o, none⟩ v) := by
 intro k cs' fr hk
 refine (Below.heap_setCell w ⟨g, o, none⟩ v k ?_).trans hk
 rintro rfl
 unfold Block at hB
 rw [hB] at hk
 exact ht (Obj.cells.inj (Option.some.inj hk)).2.1
theorem StayT.block {w w' : World} {k : Nat} {e : TypeId} {cs : List Value} (h : StayT e w w') (hB : Block w k e cs) : Block w' k e cs := h k _ _ hB
theorem StayT.row {w w' : World} {B e sz n : Nat} {v : Value} {xs : List Value} (h : StayT e w w') (ho : w.ownsRow B e sz v n xs) : w'.ownsRow B e sz v n xs := by
 refine ⟨ho.1, ?_⟩
 rcases ho.2 with h0 | ⟨g, cap, cur, hv, h1, hg, h2⟩
 ·exact .inl h0
 ·exact .inr ⟨g, cap, cur, hv, h1, h g _ _ hg, h2⟩
theorem own_cap {w : World} {base n sz : Nat} {a : Option Addr} {cap : Nat} {xs : List Value} {e : TypeId} (h : w.ownsRow base e sz (.slice a n cap) n xs) : n ≤ cap ∧ cap ≤ maxLen := by
 rcases h.2 with ⟨hv, h0⟩ | ⟨b, cap', cur, hv, _, hg, h1, h2, _⟩
 ·cases hv; exact ⟨by omega, by unfold maxLen; omega⟩
 ·cases hv; exact ⟨h1, h2⟩
theorem exec_cell_slice' {o : Oper} {a : Act} {w : World} {ty : TypeId} {x : Operand} {ad : Addr} {q : Option Addr} {n c : Nat} (ho : o.op = .load ty x) (hc : w.cell? ad = some (.slice q n c)) (hu : ∀ w', (isAgg ty).run Tryz.prog w' = .ok false w') (hx : a.eval x = .pointer (some ad) := by kernel_rfl) :
  (execOp a.eval o).run Tryz.prog w = .ok (.value (.slice q n c)) w := by
 unfold execOp
 rw [ho]
 simp only [hx]
 go_simp
end Go.Proofs.YtaciegkblklokaaGreat.schema
namespace Go.Proofs.YtaciegkblklokaaGreat.plan
open Go Go.RowKit
theorem lastS {P : Program} {md : Region.Mode} {Q : Exit → Act → World → Prop} {l : List Oper} {S : World → Prop} {listed : Array Bool} {a : Act} {w w1 : World} (i : Nat) (o : Oper) (hi : l[i]? = some o) (hg : o.guard = none) (hd : o.dst = none)
  (hv : (execOp a.eval o).run P w = .ok .skip w1) (hS : S w1) (h : Q .normal a w1) (hr : Region.ready md l.toArray listed = [i] := by kernel_rfl) (hr2 : Region.ready md l.toArray (listed.setIfInBounds i true) = [] := by kernel_rfl) : wpAnyH P md l.toArray (NoPanic Q) S 1 listed a w := by
 refine wpAnyH_all hr (by simp) fun j hj => ?_
 obtain rfl : j = i := by simpa using hj
 have hi' : l.toArray[j]? = some o := by simpa using hi
 have hw : Region.wanted o (yielded l.toArray a.tmps) = true := by unfold Region.wanted; rw [hg]
 unfold wpOp
 have e : a.put o.dst undef = a := by rw [hd]; rfl
 simp only [hi', hw, if_true, Oper.wp, hv, Oper.upon]
 exact .inl ⟨hS, hr2, NoPanic.normal (by rw [e]; exact h)⟩
end Go.Proofs.YtaciegkblklokaaGreat.plan
namespace Go.Proofs.YtaciegkblklokaaGreat.schema
open Go.RowKit
theorem exec_put_fd {o : Oper} {a : Act} {w : World} {x y : Operand} {ad : Addr} {v : Value} {p : Option Addr} {n c : Nat} (ho : o.op = .store 30 x y) (hc : w.cell? ad = some v) (hf : w.frozen? ad = false) (hx : a.eval x = .pointer (some ad) := by kernel_rfl) (hy : a.eval y = .slice p n c := by kernel_rfl) : (execOp a.eval o).run Tryz.prog w = .ok .skip (w.setCell ad (.slice p n c)) := by
 unfold execOp
 rw [ho]
 simp only [hx, hy]
 go_simp
end Go.Proofs.YtaciegkblklokaaGreat.schema
namespace Go.Proofs.YtaciegkblklokaaGreat.schema
open Go.RowKit
open Go.Proofs.YtaciegkblklokaaGreat.field (Gives newB gives_from)
theorem boxS (i : Int) (a : Option Addr) (L : List Fm) (cap : Nat) (w w' : World) (hb : Below (w.alloc (.cells (zS i a L.length cap) 24)).heap.size (w.alloc (.cells (zS i a L.length cap) 24)) w') : w'.cell? ⟨w.heap.size, 0, none⟩ = some (.int .i64 i) ∧ w'.cell? ⟨w.heap.size, 1, none⟩ = some (.slice a L.length cap) ∧ Below w.heap.size w w' := by
 have hB := (Block.new w 24 (zS i a L.length cap)).later hb
 exact ⟨hB.cell 0, hB.cell 1, below_out hb⟩
structure Fm.Ok (w : World) (p : Fm) : Prop where
 rf : field.Fds w p.f p.fL
 cf : p.fL.length ≤ p.fCap
 df : p.fCap ≤ maxLen
theorem Fm.Ok.below {w w' : World} {p : Fm} (h : p.Ok w) (hb : Below w.heap.size w w') : p.Ok w' := ⟨h.rf.below hb, h.cf, h.df⟩
theorem Fm.Good.ok {w : World} {p : Fm} (h : p.Good w) : p.Ok w := ⟨h.rf, h.cf, h.df⟩
def FmL (w : World) (a : Option Addr) (F : List Fm) : Prop := Fms w a F ∧ ∀ p ∈ F, p.Ok w
theorem FmL.below {w w' : World} {a : Option Addr} {F : List Fm} (h : FmL w a F) (hb : Below w.heap.size w w') : FmL w' a F := ⟨h.1.below hb, fun p hp => (h.2 p hp).below hb⟩
theorem form_at {w w' : World} {a : Option Addr} {F : List Fm} (h : FmL w a F) (hb : Below w.heap.size w w') {k : Nat} (hk : k < F.length) :
  ∃ b off p, a = some ⟨b, off, none⟩ ∧ b < w'.heap.size ∧ F[k]? = some p ∧ w'.cell? ⟨b, off + k * 2, none⟩ = some (.int .i64 p.id) ∧ w'.cell? ⟨b, off + k * 2 + 1, none⟩ = some (.slice p.f p.fL.length p.fCap) ∧ field.Fds w' p.f p.fL ∧ p.fL.length ≤ maxLen := by
 obtain ⟨b, off, p, h1, h2, h3, h4, h5⟩ := (h.below hb).1.at hk
 have hg := (h.below hb).2 p (List.mem_of_getElem? h3)
 exact ⟨b, off, p, h1, h2, h3, h4, h5, hg.rf, Nat.le_trans hg.cf hg.df⟩
def lastOf (F : List Form) (k : Nat) : Int := if k = 0 then -1 else ((F[k - 1]?).map (·.1)).getD 0
theorem lastOf_succ {F : List Form} {k : Nat} {x : Form} (h : F[k]? = some x) : lastOf F (k + 1) = x.1 := by simp [lastOf, h]
theorem last_iff {F : List Form} {k : Nat} {x : Form} (hk : FineS (F.take k)) (hx : F[k]? = some x) (hf : Fine x) : (∀ p ∈ F.take k, p.1 < x.1) ↔ ¬ (x.1 ≤ lastOf F k) := by
 cases k with
 | zero => simp [lastOf]; have := hf.1.1; omega
 | succ k =>
  have hl : k + 1 < F.length := (List.getElem?_eq_some_iff.1 hx).1
  have hy : F[k]? = some F[k] := List.getElem?_eq_getElem (by omega)
  rw [rise hy hk, lastOf_succ hy]; omega
theorem right_any (v : Int) (a : Option Addr) (cap : Nat) (F : List Fm) (w : World) (h : FmL w a F) (hF : F.length ≤ maxLen) :
  Calls Tryz.prog 35 #[zS v a F.length cap] w (Gives (.bool (decide (Right v (forms F)))) w) := by
 have HX := hid (boxS v a F cap w)
 have HF := hid (h.below (newB w (.cells (zS v a F.length cap) 24)))
 have hml : (F.length : Int) ≤ 9223372036854775807 := by unfold maxLen at hF; omega
 obtain ⟨r, hr⟩ : ∃ r : Bool, Hid (decide (Right v (forms F)) = r) := ⟨_, rfl⟩
 rw [hr.out]
 unfold Gives
 have cA := fun t h => within_from v 1 65535 (w.alloc (.cells (zS v a F.length cap) 24)) t h
 have HL := hid (forms_length F)
 clear h hF
 by_cases h1 : 1 ≤ v ∧ v ≤ 65535
 ·replace cA := cA true (decide_eq_true h1)
  by_cases h2 : F.length ≤ 8
  ·have hd : decide ((F.length : Int) > 8) = false := decide_eq_false (by omega)
   have HRI : Hid (Right v (forms F) ↔ FineS (forms F)) := hid ⟨fun h => h.2.2, fun h => ⟨h1, by rw [forms_length]; exact h2, h⟩⟩
   clear h1
   go_enter Tryz.func35, Tryz.ntmps35
   go_wp2_with (go_at_call 56; ((with_reducible refine (cA _ (by first | exact Below.refl _ _ | assumption)).mono ?_); rintro e w1 ⟨rfl, hb1⟩; obtain ⟨z0, z1, hbo⟩ := HX.out _ hb1))
   have HF1 := hid (HF.out.below hb1)
   have HO := hid hbo
   clear HF HX cA hb1 z0 z1 hbo hd
   go_loopw [3, 19] (fun l n wr => ∃ k : Nat, k ≤ F.length ∧ l = .int .i64 (lastOf (forms F) k) ∧ n = .int .i64 (k : Int) ∧ Hid (FineS ((forms F).take k)) ∧ Hid (Below w1.heap.size w1 wr)) (fun _ n _ => F.length - (intOf n).toNat)
   case atStart => exact ⟨0, Nat.zero_le _, rfl, rfl, hid FineS.nil, hid (Below.refl _ _)⟩
   case round =>
    obtain ⟨k, hk, rfl, rfl, HOK, HB⟩ := hrel
    by_cases hlt : k < F.length
    ·obtain ⟨b, off, p, rfl, hbl, hp, c0, c1, hfd, hfl⟩ := form_at HF1.out HB.out hlt
     have i1 : (k : Int) < F.length := by omega
     have HP := hid (forms_at hp)
     have HSUC := hid (fineS_succ (forms_at hp))
     have HNO := hid (fineS_no (forms_at hp))
     have HLI := hid (fun hf => last_iff HOK.out (forms_at hp) hf)
     have HLS := hid (lastOf_succ (forms_at hp))
     obtain ⟨i, q, qc, L⟩ := p
     simp only [Fm.p] at HP HSUC HNO HLI HLS c0 c1 hfd hfl
     have cF := fine_any i q qc L (wr.alloc (.cells (zS i q L.length qc) 58)) (hfd.below (newB _ _)) hfl
     have HX2 := hid (boxM i q L qc wr)
     clear hp hfd
     generalize hla : lastOf (forms F) k = la at *
     clear hla
     by_cases hf : Fine (i, L)
     ·rw [decide_eq_true hf] at cF
      have HFI := hid hf
      clear hf
      by_cases hl : i ≤ la
      ·obtain rfl : false = r := by rw [← hr.out]; exact (decide_eq_false (fun h => HNO.out (fun h2 => (HLI.out HFI.out).1 h2.2 hl) (HRI.out.1 h))).symm
       go_wp2_with (go_at_call 57; ((with_reducible refine cF.mono ?_); rintro e w2 ⟨rfl, hb2⟩; obtain ⟨z0, z1, hbo⟩ := HX2.out _ hb2))
       go_ret
       exact ⟨rfl, HO.out.trans ((HB.out.trans (hbo.mono HB.out.size)).mono HO.out.size)⟩
      ·have hd2 : decide (i ≤ la) = false := decide_eq_false hl
       have HNL := hid hl
       clear hl
       go_wp2_with (go_at_call 57; ((with_reducible refine cF.mono ?_); rintro e w2 ⟨rfl, hb2⟩; obtain ⟨z0, z1, hbo⟩ := HX2.out _ hb2))
       exact ⟨⟨k + 1, by omega, by rw [HLS.out], by go_num, hid (HSUC.out.2 ⟨HOK.out, HFI.out, (HLI.out HFI.out).2 HNL.out⟩), hid (HB.out.trans (hbo.mono HB.out.size))⟩, by simp [intOf]; omega⟩
     ·rw [decide_eq_false hf] at cF
      obtain rfl : false = r := by rw [← hr.out]; exact (decide_eq_false (fun h => HNO.out (fun h2 => hf h2.1) (HRI.out.1 h))).symm
      clear hf
      go_wp2_with (go_at_call 57; ((with_reducible refine cF.mono ?_); rintro e w2 ⟨rfl, hb2⟩; obtain ⟨z0, z1, hbo⟩ := HX2.out _ hb2))
      go_ret
      exact ⟨rfl, HO.out.trans ((HB.out.trans (hbo.mono HB.out.size)).mono HO.out.size)⟩
    ·obtain rfl : k = F.length := by omega
     obtain rfl : true = r := by rw [← hr.out]; have := HOK.out; rw [List.take_of_length_le (by rw [HL.out]; exact Nat.le_refl _)] at this; exact (decide_eq_true (HRI.out.2 this)).symm
     go_wp2
     go_ret
     exact ⟨rfl, HO.out.trans (HB.out.mono HO.out.size)⟩
  ·have hd : decide ((F.length : Int) > 8) = true := decide_eq_true (by omega)
   obtain rfl : false = r := by rw [← hr.out]; exact (decide_eq_false (fun h => h2 (by have := h.2.1; rw [forms_length] at this; exact this))).symm
   clear h2
   go_enter Tryz.func35, Tryz.ntmps35
   go_wp2_with (go_at_call 56; ((with_reducible refine (cA _ (by first | exact Below.refl _ _ | assumption)).mono ?_); rintro e w1 ⟨rfl, hb1⟩; obtain ⟨z0, z1, hbo⟩ := HX.out _ hb1))
   go_ret
   exact ⟨rfl, by assumption⟩
 ·replace cA := cA false (decide_eq_false h1)
  obtain rfl : false = r := by rw [← hr.out]; exact (decide_eq_false (fun h => h1 h.1)).symm
  go_enter Tryz.func35, Tryz.ntmps35
  go_wp2_with (go_at_call 56; ((with_reducible refine (cA _ (by first | exact Below.refl _ _ | assumption)).mono ?_); rintro e w1 ⟨rfl, hb1⟩; obtain ⟨z0, z1, hbo⟩ := HX.out _ hb1))
  go_ret
  exact ⟨rfl, by assumption⟩
end Go.Proofs.YtaciegkblklokaaGreat.schema
namespace Go.Proofs.YtaciegkblklokaaGreat.schema
open Go.RowKit Go.Proofs.YtaciegkblklokaaGreat.pen
def fmC (p : Fm) : List Value := (zS p.id p.f p.fL.length p.fCap)
def fmV : List Fm → List Value
 | [] => []
 | p :: L => fmC p ++ fmV L
theorem fmV_append : ∀ a b, fmV (a ++ b) = fmV a ++ fmV b
 | [], _ => rfl
 | p :: a, b => by rw [List.cons_append, fmV, fmV, fmV_append a b, List.append_assoc]
theorem fmV_length : ∀ L, (fmV L).length = L.length * 2
 | [] => rfl
 | p :: L => by rw [fmV]; simp only [fmC, List.length_append, List.length_cons, List.length_nil, fmV_length L]; omega
theorem fmV_at : ∀ (L : List Fm) (i : Nat) (p : Fm) (c : Nat), L[i]? = some p → c < 2 → (fmV L)[i * 2 + c]? = (fmC p)[c]?
 | [], i, p, c, h, _ => by simp at h
 | q :: L, 0, p, c, h, hc => by
  simp at h; subst h
  rw [fmV, List.getElem?_append_left (by simp [fmC]; omega)]
  simp
 | q :: L, i + 1, p, c, h, hc => by
  rw [fmV, List.getElem?_append_right (by simp [fmC]; omega)]
  rw [← fmV_at L i p c (by simpa using h) hc]
  congr 1
  simp only [fmC, List.length_cons, List.length_nil]; omega
theorem own_fms {w : World} {base n : Nat} {a : Option Addr} {cap : Nat} {L : List Fm} {e : TypeId} (h : w.ownsRow base e 2 (.slice a n cap) n (fmV L)) : Fms w a L ∧ n = L.length ∧ n ≤ cap := by
 obtain ⟨hl, hr⟩ := h
 have hn : n = L.length := by have := fmV_length L; rw [hl] at this; omega
 rcases hr with ⟨hv, h0⟩ | ⟨b, cap', cur, hv, _, hg, hcp, _, _, htake⟩
 ·cases hv
  exact ⟨.inl (List.eq_nil_of_length_eq_zero (by omega)), hn, by omega⟩
 ·cases hv
  refine ⟨.inr ⟨b, 0, rfl, (Array.getElem?_eq_some_iff.1 hg).1, fun i p hp => ?_⟩, hn, hcp⟩
  have hi : i < L.length := (List.getElem?_eq_some_iff.1 hp).1
  have key : ∀ c x, c < 2 → (fmC p)[c]? = some x → w.cell? ⟨b, 0 + (i * 2 + c), none⟩ = some x := by
   intro c x hc hx
   have h1 := fmV_at L i p c hp hc
   rw [hx, ← htake, List.getElem?_take, if_pos (by omega)] at h1
   rw [cell_of_row w b _ cur _ _ hg, Nat.zero_add, ← h1, Array.getElem?_toList]
  exact ⟨key 0 _ (by omega) rfl, key 1 _ (by omega) rfl⟩
theorem fm_info_all : (Tryz.prog.info? 58).map (fun i => (i.zero, i.size, i.bytes)) = some (some (.agg #[.int .i64 0, .slice none 0 0]), 2, 32) := by kernel_rfl
theorem fm_info_parts : ∃ i, Tryz.prog.info? 58 = some i ∧ i.zero = some (.agg #[.int .i64 0, .slice none 0 0]) ∧ i.size = 2 ∧ i.bytes = 32 := by
 obtain ⟨i, hi, he⟩ := Option.map_eq_some_iff.1 fm_info_all
 simp only [Prod.mk.injEq] at he
 exact ⟨i, hi, he.1, he.2.1, he.2.2⟩
def OwnM (B : Nat) (w : World) (p : Fm) : Prop := w.ownsRow B 26 5 (.slice p.f p.fL.length p.fCap) p.fL.length (fdV p.fL)
theorem OwnM.ok {B : Nat} {w : World} {p : Fm} (h : OwnM B w p) : p.Ok w := ⟨(own_fds h).1, (own_cap h).1, (own_cap h).2⟩
theorem fd_fm : (58 : TypeId) ≠ 26 := by decide
end Go.Proofs.YtaciegkblklokaaGreat.schema
namespace Go.Proofs.YtaciegkblklokaaGreat.schema
open Go.RowKit
open Go.Proofs.YtaciegkblklokaaGreat.field (Gives newB gives_from)
theorem isField_any (p : field.Fd) (x : Int) (b : Nat) (w : World) (hc : w.cell? ⟨b, 0, none⟩ = some (.int .i64 x)) (hb : b < w.heap.size) :
  Calls Tryz.prog 75 #[zF p, .pointer (some ⟨b, 0, none⟩)] w (Gives (.bool (p.id == x)) w) := by
 have HN := hid (newB w (.cells (zF p) 26))
 obtain ⟨i, k, lo, hi, m⟩ := p
 simp only at HN ⊢
 obtain ⟨r, hr⟩ : ∃ r : Bool, Hid ((i == x) = r) := ⟨_, rfl⟩
 rw [hr.out]
 unfold Gives
 have hne : w.heap.size ≠ b := by omega
 go_enter Tryz.func75, Tryz.ntmps75
 go_wp2
 go_ret
 exact ⟨ret_bool hr.out, HN.out⟩
theorem indexField_any (a : Option Addr) (cap : Nat) (L : List field.Fd) (x : Int) (g : Nat) (w : World) (h : field.Fds w a L) (hL : L.length ≤ maxLen) (hc : w.cell? ⟨g, 0, none⟩ = some (.int .i64 x)) (hg : g < w.heap.size) :
  Calls Tryz.prog 74 #[.slice a L.length cap, .func (.func 75) #[] #[.pointer (some ⟨g, 0, none⟩)]] w (Gives (.int .i64 (firstAt (ids L) x)) w) := by
 have hml : (L.length : Int) ≤ 9223372036854775807 := by unfold maxLen at hL; omega
 have HF := hid h
 have HC := hid hc
 obtain ⟨r, hr⟩ : ∃ r : Int, Hid (firstAt (ids L) x = r) := ⟨_, rfl⟩
 rw [hr.out]
 unfold Gives
 clear h hL hc
 go_enter Tryz.func74, Tryz.ntmps74
 go_wp2
 go_loopw [8] (fun n wr => ∃ k : Nat, k ≤ L.length ∧ n = .int .i64 (k : Int) ∧ Hid (x ∉ (ids L).take k) ∧ Hid (Below w.heap.size w wr)) (fun n _ => L.length - (intOf n).toNat)
 case atStart => exact ⟨0, Nat.zero_le _, rfl, hid (by simp), hid (Below.refl _ _)⟩
 case round =>
  obtain ⟨k, hk, rfl, HNO, HB⟩ := hrel
  by_cases hlt : k < L.length
  ·obtain ⟨b, off, p, rfl, hbl, hp, c0, c1, c2, c3, c4⟩ := field_at HF.out HB.out hlt
   have i1 : (k : Int) < L.length := by omega
   have HHIT := hid (fun e => first_hit HNO.out ((ids_at hp).trans (congrArg some e)))
   have HNX := hid (fun e => not_take_succ HNO.out (ids_at hp) e)
   have cs := isField_any p x g wr (by rw [HB.out.cell (p := ⟨g, 0, none⟩) hg]; exact HC.out) (Nat.lt_of_lt_of_le hg HB.out.size)
   clear hp
   by_cases hx : p.id = x
   ·rw [show (p.id == x) = true from beq_iff_eq.2 hx] at cs
    obtain rfl : (k : Int) = r := by rw [← hr.out]; exact (HHIT.out hx).symm
    clear hx
    go_wp2_with (go_at_call 75; ((with_reducible refine cs.mono ?_); rintro e w2 ⟨rfl, hb2⟩))
    go_ret
    exact ⟨rfl, HB.out.trans (hb2.mono HB.out.size)⟩
   ·rw [show (p.id == x) = false from beq_eq_false_iff_ne.2 hx] at cs
    have HX := hid hx
    clear hx
    go_wp2_with (go_at_call 75; ((with_reducible refine cs.mono ?_); rintro e w2 ⟨rfl, hb2⟩))
    exact ⟨⟨k + 1, by omega, by go_num, hid (HNX.out HX.out), hid (HB.out.trans (hb2.mono HB.out.size))⟩, by simp [intOf]; omega⟩
  ·obtain rfl : k = L.length := by omega
   obtain rfl : -1 = r := by rw [← hr.out]; have := HNO.out; rw [List.take_of_length_le (by rw [ids_length]; exact Nat.le_refl _)] at this; exact (first_none this).symm
   go_wp2
   go_ret
   exact ⟨rfl, HB.out⟩
theorem at_any (i : Int) (a : Option Addr) (cap : Nat) (L : List field.Fd) (x : Int) (w : World) (h : field.Fds w a L) (hL : L.length ≤ maxLen) :
  Calls Tryz.prog 41 #[zS i a L.length cap, .int .i64 x] w (Gives (.int .i64 (firstAt (ids L) x)) w) := by
 have h1 := newB w (.cells (zS i a L.length cap) 58)
 have h2 := newB (w.alloc (.cells (zS i a L.length cap) 58)) (.cells #[.int .i64 x] 3)
 have cI := indexField_any a cap L x (w.heap.size + 1) ((w.alloc (.cells (zS i a L.length cap) 58)).alloc (.cells #[.int .i64 x] 3)) ((h.below h1).below h2) hL (by simp) (by simp)
 have HB := hid (h1.trans (h2.mono h1.size))
 clear h h1 h2
 generalize firstAt (ids L) x = r at *
 unfold Gives
 go_enter Tryz.func41, Tryz.ntmps41
 go_wp2_with (go_at_call 74; ((with_reducible refine cI.mono ?_); rintro e w2 ⟨rfl, hb2⟩))
 go_ret
 exact ⟨rfl, HB.out.trans (hb2.mono HB.out.size)⟩
end Go.Proofs.YtaciegkblklokaaGreat.schema
namespace Go.Proofs.YtaciegkblklokaaGreat.schema
open Go.RowKit
open Go.Proofs.YtaciegkblklokaaGreat.field (Gives newB gives_from)
def fids (F : List Fm) : List Int := F.map Fm.id
theorem fids_at {F : List Fm} {k : Nat} {p : Fm} (h : F[k]? = some p) : (fids F)[k]? = some p.id := by simp [fids, h]
theorem fids_length (F : List Fm) : (fids F).length = F.length := List.length_map _
theorem fids_forms (F : List Fm) : fids F = (forms F).map (·.1) := by simp [fids, forms, Fm.p, Function.comp_def]
theorem isForm_any (i : Int) (q : Option Addr) (L : List field.Fd) (qc : Nat) (x : Int) (b : Nat) (w : World) (hc : w.cell? ⟨b, 0, none⟩ = some (.int .i64 x)) (hb : b < w.heap.size) :
  Calls Tryz.prog 73 #[zS i q L.length qc, .pointer (some ⟨b, 0, none⟩)] w (Gives (.bool (i == x)) w) := by
 have HN := hid (newB w (.cells (zS i q L.length qc) 58))
 obtain ⟨r, hr⟩ : ∃ r : Bool, Hid ((i == x) = r) := ⟨_, rfl⟩
 rw [hr.out]
 unfold Gives
 have hne : w.heap.size ≠ b := by omega
 go_enter Tryz.func73, Tryz.ntmps73
 go_wp2
 go_ret
 exact ⟨ret_bool hr.out, HN.out⟩
theorem indexForm_any (a : Option Addr) (cap : Nat) (L : List Fm) (x : Int) (g : Nat) (w : World) (h : FmL w a L) (hL : L.length ≤ maxLen) (hc : w.cell? ⟨g, 0, none⟩ = some (.int .i64 x)) (hg : g < w.heap.size) :
  Calls Tryz.prog 72 #[.slice a L.length cap, .func (.func 73) #[] #[.pointer (some ⟨g, 0, none⟩)]] w (Gives (.int .i64 (firstAt (fids L) x)) w) := by
 have hml : (L.length : Int) ≤ 9223372036854775807 := by unfold maxLen at hL; omega
 have HF := hid h
 have HC := hid hc
 obtain ⟨r, hr⟩ : ∃ r : Int, Hid (firstAt (fids L) x = r) := ⟨_, rfl⟩
 rw [hr.out]
 unfold Gives
 clear h hL hc
 go_enter Tryz.func72, Tryz.ntmps72
 go_wp2
 go_loopw [8] (fun n wr => ∃ k : Nat, k ≤ L.length ∧ n = .int .i64 (k : Int) ∧ Hid (x ∉ (fids L).take k) ∧ Hid (Below w.heap.size w wr)) (fun n _ => L.length - (intOf n).toNat)
 case atStart => exact ⟨0, Nat.zero_le _, rfl, hid (by simp), hid (Below.refl _ _)⟩
 case round =>
  obtain ⟨k, hk, rfl, HNO, HB⟩ := hrel
  by_cases hlt : k < L.length
  ·obtain ⟨b, off, p, rfl, hbl, hp, c0, c1, _, _⟩ := form_at HF.out HB.out hlt
   have i1 : (k : Int) < L.length := by omega
   have HHIT := hid (fun e => first_hit HNO.out ((fids_at hp).trans (congrArg some e)))
   have HNX := hid (fun e => not_take_succ HNO.out (fids_at hp) e)
   have cs := isForm_any p.id p.f p.fL p.fCap x g wr (by rw [HB.out.cell (p := ⟨g, 0, none⟩) hg]; exact HC.out) (Nat.lt_of_lt_of_le hg HB.out.size)
   clear hp
   by_cases hx : p.id = x
   ·rw [show (p.id == x) = true from beq_iff_eq.2 hx] at cs
    obtain rfl : (k : Int) = r := by rw [← hr.out]; exact (HHIT.out hx).symm
    clear hx
    go_wp2_with (go_at_call 73; ((with_reducible refine cs.mono ?_); rintro e w2 ⟨rfl, hb2⟩))
    go_ret
    exact ⟨rfl, HB.out.trans (hb2.mono HB.out.size)⟩
   ·rw [show (p.id == x) = false from beq_eq_false_iff_ne.2 hx] at cs
    have HX := hid hx
    clear hx
    go_wp2_with (go_at_call 73; ((with_reducible refine cs.mono ?_); rintro e w2 ⟨rfl, hb2⟩))
    exact ⟨⟨k + 1, by omega, by go_num, hid (HNX.out HX.out), hid (HB.out.trans (hb2.mono HB.out.size))⟩, by simp [intOf]; omega⟩
  ·obtain rfl : k = L.length := by omega
   obtain rfl : -1 = r := by rw [← hr.out]; have := HNO.out; rw [List.take_of_length_le (by rw [fids_length]; exact Nat.le_refl _)] at this; exact (first_none this).symm
   go_wp2
   go_ret
   exact ⟨rfl, HB.out⟩
theorem fds_nil (W : World) (a : Option Addr) (n c : Nat) : (binOp .eql 30 (.slice a n c) (.slice none 0 0)).run Tryz.prog W = .ok (.bool a.isNone) W := by
 have h := run_equal_slice_nil (P := Tryz.prog) W 30 26 a n c Tryz.underlying30
 simp [binOp, h, Result.andThen]
theorem results_cell2 {fn : Func} {p u : Tmp} {ty : TypeId} {tmps : Array Value} {P : Program} {w : World} {b o : Nat} {cs : List Value} {d : TypeDesc} (h : fn.results = #[.cell p ty, .tmp u])
  (hp : tmps.getD p undef = .pointer (some ⟨b, o, none⟩)) (hc : w.rangeAt b o cs) (hu : P.underlying ty = some d) (hd : d.isRow = true) (hi : (P.info? ty).map (·.size) = some cs.length) :
  (results fn tmps).run P w = .ok (.tuple #[.agg cs.toArray, tmps.getD u undef]) w := by
 simp only [results, h]
 simp at hp
 simp [hp, asAddr, run_loadVar_mid w b o ty cs d hc hu hd hi]
def W3 (v : Int) (a : Option Addr) (F : List Fm) (c : Nat) (x : Int) (w : World) : World := ((w.alloc (.cells (zS v a F.length c) 24)).alloc (.cells #[.int .i64 x] 3)).alloc (.cells #[.int .i64 0, .slice none 0 0] 58)
theorem W3.all (v : Int) (a : Option Addr) (F : List Fm) (c : Nat) (x : Int) (w w' : World) (hb : Below (W3 v a F c x w).heap.size (W3 v a F c x w) w') : w'.cell? ⟨w.heap.size, 0, none⟩ = some (.int .i64 v) ∧ w'.cell? ⟨w.heap.size, 1, none⟩ = some (.slice a F.length c) ∧ w'.cell? ⟨w.heap.size + 1, 0, none⟩ = some (.int .i64 x) ∧ Block w' (w.heap.size + 2) 58 [.int .i64 0, .slice none 0 0] ∧ Below w.heap.size w w' := by
 have h1 : Below ((w.alloc (.cells (zS v a F.length c) 24)).alloc (.cells #[.int .i64 x] 3)).heap.size ((w.alloc (.cells (zS v a F.length c) 24)).alloc (.cells #[.int .i64 x] 3)) w' := below_out hb
 obtain ⟨c0, c1, h2⟩ := boxS v a F c w w' (below_out h1)
 refine ⟨c0, c1, ?_, ?_, h2⟩
 ·have hB := ((Block.new (w.alloc (.cells (zS v a F.length c) 24)) 3 [.int .i64 x])).later h1
  have := hB.cell 0
  simpa using this
 ·have hB := (Block.new ((w.alloc (.cells (zS v a F.length c) 24)).alloc (.cells #[.int .i64 x] 3)) 58 [.int .i64 0, .slice none 0 0]).later hb
  simpa using hB
theorem W3.forms (v : Int) (a : Option Addr) (F : List Fm) (c : Nat) (x : Int) (w : World) : Below w.heap.size w (W3 v a F c x w) := (W3.all v a F c x w _ (Below.refl _ _)).2.2.2.2
theorem form_no (v : Int) (a : Option Addr) (c : Nat) (F : List Fm) (x : Int) (w : World) (h : FmL w a F) (hF : F.length ≤ maxLen) (hx : x ∉ fids F) :
  Calls Tryz.prog 40 #[zS v a F.length c, .int .i64 x] w (Gives (.tuple #[.agg #[.int .i64 0, .slice none 0 0], .bool false]) w) := by
 have HX := hid (W3.all v a F c x w)
 have h0 := W3.all v a F c x w _ (Below.refl _ _)
 have hsz : (W3 v a F c x w).heap.size = w.heap.size + 3 := by simp [W3]
 have cI := indexForm_any a c F x (w.heap.size + 1) (W3 v a F c x w) (h.below (W3.forms v a F c x w)) hF h0.2.2.1 (by omega)
 rw [first_none hx] at cI
 clear h hx h0 hsz
 unfold W3 at HX cI
 unfold Gives
 go_enter Tryz.func40, Tryz.ntmps40
 go_wp2_with (go_at_call 72; ((with_reducible refine cI.mono ?_); rintro e w2 ⟨rfl, hb2⟩; obtain ⟨z0, z1, z2, hblk, hbo⟩ := HX.out _ hb2; have r0 := hblk.cell 0; have r1 := hblk.cell 1; have f0 := hblk.frozen 0; have f1 := hblk.frozen 1))
 have hB := (hblk.setCell 0 (.int .i64 0)).setCell 1 (.slice none 0 0)
 refine bodyPost_ret (results_cell2 (b := w.heap.size + 2) (o := 0) rfl rfl hB.whole Tryz.underlying58 rfl (fm_info2 _ _)) rfl ?_
 exact ⟨rfl, below_setCells (below_setCells hbo (by omega) 0 [.int .i64 0]) (by omega) 1 [.slice none 0 0]⟩
end Go.Proofs.YtaciegkblklokaaGreat.schema
namespace Go.Proofs.YtaciegkblklokaaGreat.schema
open Go.RowKit
theorem fmV_one : ∀ L, ∀ u ∈ fmV L, u.oneCell' = true
 | [], u, h => by simp [fmV] at h
 | p :: L, u, h => by
  rw [fmV, List.mem_append] at h
  rcases h with h | h
  ·simp [fmC] at h; rcases h with rfl | rfl <;> rfl
  ·exact fmV_one L u h
theorem fmV_get : ∀ (L : List Fm) (j : Nat) (u : Value), (fmV L)[j]? = some u → ∃ i p c, L[i]? = some p ∧ j = i * 2 + c ∧ c < 2 ∧ (fmC p)[c]? = some u
 | [], j, u, h => by simp [fmV] at h
 | p :: L, j, u, h => by
  rw [fmV] at h
  by_cases hj : j < 2
  ·rw [List.getElem?_append_left (by simp [fmC]; omega)] at h
   exact ⟨0, p, j, rfl, by omega, hj, h⟩
  ·rw [List.getElem?_append_right (by simp [fmC]; omega)] at h
   obtain ⟨i, q, c, h1, h2, h3, h4⟩ := fmV_get L _ u h
   simp only [fmC, List.length_cons, List.length_nil] at h2
   exact ⟨i + 1, q, c, by simpa using h1, by omega, h3, h4⟩
theorem fms_news {w : World} {a : Option Addr} {L : List Fm} (h : Fms w a L) : L.length = 0 ∨ ∃ ad, a = some ad ∧ ∀ j u, (fmV L)[j]? = some u → w.cell? (ad.add j) = some u := by
 rcases h with h | ⟨b, off, ha, hlt, hc⟩
 ·exact .inl (by rw [h]; rfl)
 ·refine .inr ⟨_, ha, fun j u hj => ?_⟩
  obtain ⟨i, p, c, h1, rfl, h3, h4⟩ := fmV_get L j u hj
  obtain ⟨c0, c1⟩ := hc i p h1
  rw [Addr.add_lit]
  match c, h3, h4 with
  | 0, _, h4 => rw [show (some u) = some (.int .i64 p.id) from h4.symm.trans rfl]; exact c0
  | 1, _, h4 => rw [show (some u) = some (.slice p.f p.fL.length p.fCap) from h4.symm.trans rfl, ← Nat.add_assoc]; exact c1
theorem fms_nil (W : World) (a : Option Addr) (n c : Nat) : (binOp .eql 22 (.slice a n c) (.slice none 0 0)).run Tryz.prog W = .ok (.bool a.isNone) W := by
 have h := run_equal_slice_nil (P := Tryz.prog) W 22 58 a n c Tryz.underlying22
 simp [binOp, h, Result.andThen]
def OwnsF (L : List field.Fd) (w : World) (e : Ending) (w' : World) : Prop := ∃ v, e = .returned v ∧ w'.ownsRow w.heap.size 26 5 v L.length (fdV L) ∧ Below w.heap.size w w'
theorem cloneF_any (a : Option Addr) (cap : Nat) (L : List field.Fd) (w : World) (h : field.Fds w a L) (hL : L.length ≤ 1000000) :
  Calls Tryz.prog 69 #[.slice a L.length cap] w (OwnsF L w) := by
 obtain ⟨i0, hi, hz0, hz1, hz2⟩ := fd_info_parts
 cases a with
 | none =>
  have en := fds_nil w none L.length cap
  simp only [Option.isNone_none] at en
  have hl : L = [] := by
   rcases h with h | ⟨b, off, h, _⟩
   ·exact h
   ·cases h
  have HR : Hid (OwnsF L w (.returned (.slice none 0 0)) w) := hid ⟨_, rfl, by rw [hl]; exact World.ownsRow_nil _ _ _ _, Below.refl _ _⟩
  clear h hl hL
  generalize OwnsF L w = R at *
  generalize L.length = n at *
  go_enter Tryz.func69, Tryz.ntmps69
  go_wp2
  exact HR.out
 | some ad =>
  have en := fds_nil w (some ad) L.length cap
  simp only [Option.isNone_some] at en
  have hb : Below w.heap.size w (w.alloc (.cells #[] 26)) := (Below.refl _ _).alloc (Nat.le_refl _) _
  have HB := hid hb
  have HN := hid (fds_news (h.below hb))
  have HU := hid (fdV_length L)
  have HN2 : Hid (0 + L.length ≤ maxLen) := by show _ ≤ _; unfold maxLen; omega
  have HN3 : Hid ((0 + L.length) * 40 ≤ 140737488355328) := by show _ ≤ _; omega
  have HO := hid (World.ownsRow_made (base := w.heap.size) (e := 26) (size := 5) w #[] 0 (Nat.le_refl _) (Nat.zero_le _) rfl)
  have H1 := hid (fdV_one L)
  clear h hb hL
  unfold OwnsF
  generalize hX : fdV L = X at *
  clear hX
  generalize hn : L.length = n at *
  clear hn
  go_enter Tryz.func69, Tryz.ntmps69
  go_wp2_with (at_builtin; refine wpList_append_fromN rfl _ _ 30 rfl w.heap.size 26 i0 _ 5 40 Tryz.underlying30 hi hz0 hz1 hz2 (by simp [Value.cells]) (by omega) (.slice (some ⟨w.heap.size, 0, none⟩) 0 0) 0 [] rfl HO.out (some ad) n cap X rfl HU.out HN.out H1.out HN2.out HN3.out HB.out.size ?_)
  intro v' w1 ho hg
  have hbl : Below w.heap.size w w1 := HB.out.grown hg HB.out.size (fun k hk => by cases hk; exact Nat.le_refl _)
  have ho' : w1.ownsRow w.heap.size 26 5 v' n X := by simpa using ho
  have HO2 := hid ho'
  have HB2 := hid hbl
  clear ho ho' hbl hg
  go_wp2
  go_ret
  exact ⟨_, rfl, HO2.out, HB2.out⟩
def OwnsM (L : List Fm) (w : World) (e : Ending) (w' : World) : Prop := ∃ v, e = .returned v ∧ w'.ownsRow w.heap.size 58 2 v L.length (fmV L) ∧ Below w.heap.size w w'
theorem cloneM_any (a : Option Addr) (cap : Nat) (L : List Fm) (w : World) (h : Fms w a L) (hL : L.length ≤ 1000000) :
  Calls Tryz.prog 88 #[.slice a L.length cap] w (OwnsM L w) := by
 obtain ⟨i0, hi, hz0, hz1, hz2⟩ := fm_info_parts
 cases a with
 | none =>
  have en := fms_nil w none L.length cap
  simp only [Option.isNone_none] at en
  have hl : L = [] := by
   rcases h with h | ⟨b, off, h, _⟩
   ·exact h
   ·cases h
  have HR : Hid (OwnsM L w (.returned (.slice none 0 0)) w) := hid ⟨_, rfl, by rw [hl]; exact World.ownsRow_nil _ _ _ _, Below.refl _ _⟩
  clear h hl hL
  generalize OwnsM L w = R at *
  generalize L.length = n at *
  go_enter Tryz.func88, Tryz.ntmps88
  go_wp2
  exact HR.out
 | some ad =>
  have en := fms_nil w (some ad) L.length cap
  simp only [Option.isNone_some] at en
  have hb : Below w.heap.size w (w.alloc (.cells #[] 58)) := (Below.refl _ _).alloc (Nat.le_refl _) _
  have HB := hid hb
  have HN := hid (fms_news (h.below hb))
  have HU := hid (fmV_length L)
  have HN2 : Hid (0 + L.length ≤ maxLen) := by show _ ≤ _; unfold maxLen; omega
  have HN3 : Hid ((0 + L.length) * 32 ≤ 140737488355328) := by show _ ≤ _; omega
  have HO := hid (World.ownsRow_made (base := w.heap.size) (e := 58) (size := 2) w #[] 0 (Nat.le_refl _) (Nat.zero_le _) rfl)
  have H1 := hid (fmV_one L)
  clear h hb hL
  unfold OwnsM
  generalize hX : fmV L = X at *
  clear hX
  generalize hn : L.length = n at *
  clear hn
  go_enter Tryz.func88, Tryz.ntmps88
  go_wp2_with (at_builtin; refine wpList_append_fromN rfl _ _ 22 rfl w.heap.size 58 i0 _ 2 32 Tryz.underlying22 hi hz0 hz1 hz2 (by simp [Value.cells]) (by omega) (.slice (some ⟨w.heap.size, 0, none⟩) 0 0) 0 [] rfl HO.out (some ad) n cap X rfl HU.out HN.out H1.out HN2.out HN3.out HB.out.size ?_)
  intro v' w1 ho hg
  have hbl : Below w.heap.size w w1 := HB.out.grown hg HB.out.size (fun k hk => by cases hk; exact Nat.le_refl _)
  have ho' : w1.ownsRow w.heap.size 58 2 v' n X := by simpa using ho
  have HO2 := hid ho'
  have HB2 := hid hbl
  clear ho ho' hbl hg
  go_wp2
  go_ret
  exact ⟨_, rfl, HO2.out, HB2.out⟩
end Go.Proofs.YtaciegkblklokaaGreat.schema
namespace Go.Proofs.YtaciegkblklokaaGreat.field
open Go.RowKit
theorem results_tmp4 {fn : Func} {t u v x : Tmp} (h : fn.results = #[.tmp t, .tmp u, .tmp v, .tmp x]) (tmps : Array Value) (P : Program) (w : World) :
  (results fn tmps).run P w = .ok (.tuple #[tmps.getD t undef, tmps.getD u undef, tmps.getD v undef, tmps.getD x undef]) w := by
 simp [results, h]
def SpanNo (w : World) (e : Ending) (w' : World) : Prop := (∃ a b c : Int, e = .returned (.tuple #[.int .i64 a, .int .i64 b, .int .i64 c, .bool false])) ∧ Below w.heap.size w w'
def SpanYes (a b c : Int) (w : World) (e : Ending) (w' : World) : Prop := e = .returned (.tuple #[.int .i64 a, .int .i64 b, .int .i64 c, .bool true]) ∧ Below w.heap.size w w'
theorem span_yes (f : Fd) (h : f.Right) (w : World) : Calls Tryz.prog 54 #[zF f] w (SpanYes f.lo f.great f.long w) := by
 have HB := hid (belowF f w)
 obtain ⟨i, k, lo, hi, m⟩ := f
 obtain ⟨⟨h1, h2⟩, h⟩ := h
 simp only at h h1 h2 HB ⊢
 have g1 : i ≥ 0 := h1
 unfold SpanYes
 rcases h with ⟨rfl, h3, h4, h5, rfl⟩ | ⟨rfl, ⟨rfl, rfl⟩, rfl⟩ | ⟨rfl, ⟨rfl, rfl⟩, h3, h4⟩ | ⟨rfl, ⟨rfl, rfl⟩, h3, h4⟩
 ·have g4 : lo ≥ -1099511627776 := h4
  rw [show Fd.great ⟨i, 1, lo, hi, 0⟩ = hi from rfl, show Fd.long ⟨i, 1, lo, hi, 0⟩ = 0 from rfl]
  go_enter Tryz.func54, Tryz.ntmps54
  go_wp2
  go_quiet (fail)
  go_wp2
  refine bodyPost_ret (results_tmp4 rfl _ _ _) rfl ?_
  exact ⟨rfl, HB.out _ (below_drewN (Below.refl _ _) _)⟩
 ·rw [show Fd.great ⟨i, 2, 0, 0, 0⟩ = 1 from rfl, show Fd.long ⟨i, 2, 0, 0, 0⟩ = 0 from rfl]
  go_enter Tryz.func54, Tryz.ntmps54
  go_wp2
  go_quiet (fail)
  go_wp2
  refine bodyPost_ret (results_tmp4 rfl _ _ _) rfl ?_
  exact ⟨rfl, HB.out _ (below_drewN (Below.refl _ _) _)⟩
 ·rw [show Fd.great ⟨i, 3, 0, 0, m⟩ = m - 1 from rfl, show Fd.long ⟨i, 3, 0, 0, m⟩ = 0 from rfl]
  have g3 : m ≥ 1 := h3
  go_enter Tryz.func54, Tryz.ntmps54
  go_wp2
  go_quiet (fail)
  go_wp2
  refine bodyPost_ret (results_tmp4 rfl _ _ _) rfl ?_
  exact ⟨rfl, HB.out _ (below_drewN (Below.refl _ _) _)⟩
 ·rw [show Fd.great ⟨i, 4, 0, 0, m⟩ = 0 from rfl, show Fd.long ⟨i, 4, 0, 0, m⟩ = m from rfl]
  have g3 : m ≥ 0 := h3
  go_enter Tryz.func54, Tryz.ntmps54
  go_wp2
  go_quiet (fail)
  go_wp2
  refine bodyPost_ret (results_tmp4 rfl _ _ _) rfl ?_
  exact ⟨rfl, HB.out _ (below_drewN (Below.refl _ _) _)⟩
set_option maxHeartbeats 4000000 in
theorem span_no (f : Fd) (h : ¬ f.Right) (w : World) : Calls Tryz.prog 54 #[zF f] w (SpanNo w) := by
 have HB := hid (belowF f w)
 obtain ⟨i, k, lo, hi, m⟩ := f
 replace h := Fd.wrong h
 simp only at h HB ⊢
 unfold SpanNo
 by_cases a0 : (0 ≤ i ∧ i ≤ 255)
 ·have h : _ := Or.resolve_left h (by omega)
  obtain ⟨⟨h1, h2⟩, h⟩ := h
  have g1 : i ≥ 0 := h1
  clear a0
  rcases h with ⟨rfl, h⟩ | ⟨rfl, h⟩ | ⟨rfl, h⟩ | ⟨rfl, h⟩ | ⟨n1, n2, n3, n4⟩
  ·by_cases c1 : lo ≥ -1099511627776
   ·by_cases c2 : hi ≤ 1099511627776
    ·by_cases c3 : lo ≤ hi
     ·have hd : (m == 0) = false := by rw [beq_eq_false_iff_ne]; omega
      clear h
      go_enter Tryz.func54, Tryz.ntmps54
      go_wp2
      go_quiet (fail)
      go_wp2
      refine bodyPost_ret (results_tmp4 rfl _ _ _) rfl ?_
      exact ⟨⟨_, _, _, rfl⟩, HB.out _ (below_drewN (Below.refl _ _) _)⟩
     ·have hd : decide (lo ≤ hi) = false := decide_eq_false c3
      clear h c3
      go_enter Tryz.func54, Tryz.ntmps54
      go_wp2
      go_quiet (fail)
      go_wp2
      refine bodyPost_ret (results_tmp4 rfl _ _ _) rfl ?_
      exact ⟨⟨_, _, _, rfl⟩, HB.out _ (below_drewN (Below.refl _ _) _)⟩
    ·have hd : decide (hi ≤ 1099511627776) = false := decide_eq_false c2
     clear h c2
     go_enter Tryz.func54, Tryz.ntmps54
     go_wp2
     go_quiet (fail)
     go_wp2
     refine bodyPost_ret (results_tmp4 rfl _ _ _) rfl ?_
     exact ⟨⟨_, _, _, rfl⟩, HB.out _ (below_drewN (Below.refl _ _) _)⟩
   ·have hd : decide (lo ≥ -1099511627776) = false := decide_eq_false c1
    clear h c1
    go_enter Tryz.func54, Tryz.ntmps54
    go_wp2
    go_quiet (fail)
    go_wp2
    refine bodyPost_ret (results_tmp4 rfl _ _ _) rfl ?_
    exact ⟨⟨_, _, _, rfl⟩, HB.out _ (below_drewN (Below.refl _ _) _)⟩
  ·by_cases c1 : lo = 0
   ·by_cases c2 : hi = 0
    ·subst c1 c2
     have hd : (m == 0) = false := by rw [beq_eq_false_iff_ne]; omega
     clear h
     go_enter Tryz.func54, Tryz.ntmps54
     go_wp2
     go_quiet (fail)
     go_wp2
     refine bodyPost_ret (results_tmp4 rfl _ _ _) rfl ?_
     exact ⟨⟨_, _, _, rfl⟩, HB.out _ (below_drewN (Below.refl _ _) _)⟩
    ·subst c1
     have hd : (hi == 0) = false := by rw [beq_eq_false_iff_ne]; omega
     clear h c2
     go_enter Tryz.func54, Tryz.ntmps54
     go_wp2
     go_quiet (fail)
     go_wp2
     refine bodyPost_ret (results_tmp4 rfl _ _ _) rfl ?_
     exact ⟨⟨_, _, _, rfl⟩, HB.out _ (below_drewN (Below.refl _ _) _)⟩
   ·have hd : (lo == 0) = false := by rw [beq_eq_false_iff_ne]; omega
    clear h c1
    go_enter Tryz.func54, Tryz.ntmps54
    go_wp2
    go_quiet (fail)
    go_wp2
    refine bodyPost_ret (results_tmp4 rfl _ _ _) rfl ?_
    exact ⟨⟨_, _, _, rfl⟩, HB.out _ (below_drewN (Below.refl _ _) _)⟩
  ·by_cases c1 : lo = 0
   ·by_cases c2 : hi = 0
    ·subst c1 c2
     by_cases c3 : m ≥ 1
     ·have hd : decide (m ≤ 1000) = false := decide_eq_false (by omega)
      clear h
      go_enter Tryz.func54, Tryz.ntmps54
      go_wp2
      go_quiet (fail)
      go_wp2
      refine bodyPost_ret (results_tmp4 rfl _ _ _) rfl ?_
      exact ⟨⟨_, _, _, rfl⟩, HB.out _ (below_drewN (Below.refl _ _) _)⟩
     ·have hd : decide (m ≥ 1) = false := decide_eq_false c3
      clear h c3
      go_enter Tryz.func54, Tryz.ntmps54
      go_wp2
      go_quiet (fail)
      go_wp2
      refine bodyPost_ret (results_tmp4 rfl _ _ _) rfl ?_
      exact ⟨⟨_, _, _, rfl⟩, HB.out _ (below_drewN (Below.refl _ _) _)⟩
    ·subst c1
     have hd : (hi == 0) = false := by rw [beq_eq_false_iff_ne]; omega
     clear h c2
     go_enter Tryz.func54, Tryz.ntmps54
     go_wp2
     go_quiet (fail)
     go_wp2
     refine bodyPost_ret (results_tmp4 rfl _ _ _) rfl ?_
     exact ⟨⟨_, _, _, rfl⟩, HB.out _ (below_drewN (Below.refl _ _) _)⟩
   ·have hd : (lo == 0) = false := by rw [beq_eq_false_iff_ne]; omega
    clear h c1
    go_enter Tryz.func54, Tryz.ntmps54
    go_wp2
    go_quiet (fail)
    go_wp2
    refine bodyPost_ret (results_tmp4 rfl _ _ _) rfl ?_
    exact ⟨⟨_, _, _, rfl⟩, HB.out _ (below_drewN (Below.refl _ _) _)⟩
  ·by_cases c1 : lo = 0
   ·by_cases c2 : hi = 0
    ·subst c1 c2
     by_cases c3 : m ≥ 0
     ·have hd : decide (m ≤ 32) = false := decide_eq_false (by omega)
      clear h
      go_enter Tryz.func54, Tryz.ntmps54
      go_wp2
      go_quiet (fail)
      go_wp2
      refine bodyPost_ret (results_tmp4 rfl _ _ _) rfl ?_
      exact ⟨⟨_, _, _, rfl⟩, HB.out _ (below_drewN (Below.refl _ _) _)⟩
     ·have hd : decide (m ≥ 0) = false := decide_eq_false c3
      clear h c3
      go_enter Tryz.func54, Tryz.ntmps54
      go_wp2
      go_quiet (fail)
      go_wp2
      refine bodyPost_ret (results_tmp4 rfl _ _ _) rfl ?_
      exact ⟨⟨_, _, _, rfl⟩, HB.out _ (below_drewN (Below.refl _ _) _)⟩
    ·subst c1
     have hd : (hi == 0) = false := by rw [beq_eq_false_iff_ne]; omega
     clear h c2
     go_enter Tryz.func54, Tryz.ntmps54
     go_wp2
     go_quiet (fail)
     go_wp2
     refine bodyPost_ret (results_tmp4 rfl _ _ _) rfl ?_
     exact ⟨⟨_, _, _, rfl⟩, HB.out _ (below_drewN (Below.refl _ _) _)⟩
   ·have hd : (lo == 0) = false := by rw [beq_eq_false_iff_ne]; omega
    clear h c1
    go_enter Tryz.func54, Tryz.ntmps54
    go_wp2
    go_quiet (fail)
    go_wp2
    refine bodyPost_ret (results_tmp4 rfl _ _ _) rfl ?_
    exact ⟨⟨_, _, _, rfl⟩, HB.out _ (below_drewN (Below.refl _ _) _)⟩
  ·have e1 : (k == 1) = false := by rw [beq_eq_false_iff_ne]; exact n1
   have e2 : (k == 2) = false := by rw [beq_eq_false_iff_ne]; exact n2
   have e3 : (k == 3) = false := by rw [beq_eq_false_iff_ne]; exact n3
   have e4 : (k == 4) = false := by rw [beq_eq_false_iff_ne]; exact n4
   clear n1 n2 n3 n4
   go_enter Tryz.func54, Tryz.ntmps54
   go_wp2
   go_wp2
   refine bodyPost_ret (results_tmp4 rfl _ _ _) rfl ?_
   exact ⟨⟨_, _, _, rfl⟩, HB.out _ (Below.refl _ _)⟩
 ·clear h
  by_cases a1 : i ≥ 0
  ·have hd : decide (i ≤ 255) = false := decide_eq_false (by omega)
   clear a0
   by_cases k1 : k = 1
   ·subst k1
    go_enter Tryz.func54, Tryz.ntmps54
    go_wp2
    go_quiet (fail)
    go_wp2
    refine bodyPost_ret (results_tmp4 rfl _ _ _) rfl ?_
    exact ⟨⟨_, _, _, rfl⟩, HB.out _ (below_drewN (Below.refl _ _) _)⟩
   ·by_cases k2 : k = 2
    ·subst k2
     go_enter Tryz.func54, Tryz.ntmps54
     go_wp2
     go_quiet (fail)
     go_wp2
     refine bodyPost_ret (results_tmp4 rfl _ _ _) rfl ?_
     exact ⟨⟨_, _, _, rfl⟩, HB.out _ (below_drewN (Below.refl _ _) _)⟩
    ·by_cases k3 : k = 3
     ·subst k3
      go_enter Tryz.func54, Tryz.ntmps54
      go_wp2
      go_quiet (fail)
      go_wp2
      refine bodyPost_ret (results_tmp4 rfl _ _ _) rfl ?_
      exact ⟨⟨_, _, _, rfl⟩, HB.out _ (below_drewN (Below.refl _ _) _)⟩
     ·by_cases k4 : k = 4
      ·subst k4
       go_enter Tryz.func54, Tryz.ntmps54
       go_wp2
       go_quiet (fail)
       go_wp2
       refine bodyPost_ret (results_tmp4 rfl _ _ _) rfl ?_
       exact ⟨⟨_, _, _, rfl⟩, HB.out _ (below_drewN (Below.refl _ _) _)⟩
      ·have e1 : (k == 1) = false := by rw [beq_eq_false_iff_ne]; exact k1
       have e2 : (k == 2) = false := by rw [beq_eq_false_iff_ne]; exact k2
       have e3 : (k == 3) = false := by rw [beq_eq_false_iff_ne]; exact k3
       have e4 : (k == 4) = false := by rw [beq_eq_false_iff_ne]; exact k4
       clear k1 k2 k3 k4
       go_enter Tryz.func54, Tryz.ntmps54
       go_wp2
       go_wp2
       refine bodyPost_ret (results_tmp4 rfl _ _ _) rfl ?_
       exact ⟨⟨_, _, _, rfl⟩, HB.out _ (Below.refl _ _)⟩
  ·have hd : decide (i ≥ 0) = false := decide_eq_false a1
   clear a0 a1
   by_cases k1 : k = 1
   ·subst k1
    go_enter Tryz.func54, Tryz.ntmps54
    go_wp2
    go_quiet (fail)
    go_wp2
    refine bodyPost_ret (results_tmp4 rfl _ _ _) rfl ?_
    exact ⟨⟨_, _, _, rfl⟩, HB.out _ (below_drewN (Below.refl _ _) _)⟩
   ·by_cases k2 : k = 2
    ·subst k2
     go_enter Tryz.func54, Tryz.ntmps54
     go_wp2
     go_quiet (fail)
     go_wp2
     refine bodyPost_ret (results_tmp4 rfl _ _ _) rfl ?_
     exact ⟨⟨_, _, _, rfl⟩, HB.out _ (below_drewN (Below.refl _ _) _)⟩
    ·by_cases k3 : k = 3
     ·subst k3
      go_enter Tryz.func54, Tryz.ntmps54
      go_wp2
      go_quiet (fail)
      go_wp2
      refine bodyPost_ret (results_tmp4 rfl _ _ _) rfl ?_
      exact ⟨⟨_, _, _, rfl⟩, HB.out _ (below_drewN (Below.refl _ _) _)⟩
     ·by_cases k4 : k = 4
      ·subst k4
       go_enter Tryz.func54, Tryz.ntmps54
       go_wp2
       go_quiet (fail)
       go_wp2
       refine bodyPost_ret (results_tmp4 rfl _ _ _) rfl ?_
       exact ⟨⟨_, _, _, rfl⟩, HB.out _ (below_drewN (Below.refl _ _) _)⟩
      ·have e1 : (k == 1) = false := by rw [beq_eq_false_iff_ne]; exact k1
       have e2 : (k == 2) = false := by rw [beq_eq_false_iff_ne]; exact k2
       have e3 : (k == 3) = false := by rw [beq_eq_false_iff_ne]; exact k3
       have e4 : (k == 4) = false := by rw [beq_eq_false_iff_ne]; exact k4
       clear k1 k2 k3 k4
       go_enter Tryz.func54, Tryz.ntmps54
       go_wp2
       go_wp2
       refine bodyPost_ret (results_tmp4 rfl _ _ _) rfl ?_
       exact ⟨⟨_, _, _, rfl⟩, HB.out _ (Below.refl _ _)⟩
end Go.Proofs.YtaciegkblklokaaGreat.field
namespace Go.Proofs.YtaciegkblklokaaGreat.field
open Go.RowKit
theorem span_from (f : Fd) (h : f.Right) {w0 w : World} (hb : Below w0.heap.size w0 w) : Calls Tryz.prog 54 #[zF f] w fun e w' => e = .returned (.tuple #[.int .i64 f.lo, .int .i64 f.great, .int .i64 f.long, .bool true]) ∧ Below w0.heap.size w0 w' :=
 (span_yes f h w).mono fun _ _ ⟨he, hw⟩ => ⟨he, hb.trans (hw.mono hb.size)⟩
theorem span_from_no (f : Fd) (h : ¬ f.Right) {w0 w : World} (hb : Below w0.heap.size w0 w) : Calls Tryz.prog 54 #[zF f] w fun e w' => (∃ a b c : Int, e = .returned (.tuple #[.int .i64 a, .int .i64 b, .int .i64 c, .bool false])) ∧ Below w0.heap.size w0 w' :=
 (span_no f h w).mono fun _ _ ⟨he, hw⟩ => ⟨he, hb.trans (hw.mono hb.size)⟩
end Go.Proofs.YtaciegkblklokaaGreat.field
