/- Contracts and lemmas that the claims of this seat share: Drift, RegionS, LateS, Append, Stay, RecordRow, FieldSpan, FieldSpanFrom, FieldRefRight. Each says its own conditions. -/
import Derived.Test.YtegeeobfamjjpaaCmD
import Derived.Test.YtegeeobfamjjpaaCmC
import Derived.Test.YtegeeobfamjjpaaCmA
import Derived.Deep.Upon
import Derived.Maps.AppendAt
import Derived.Test.YtegeeobfamjjpaaCmB
import Derived.Conc.WalkWords
/- A region whose order is open: a row that is made (1), the row turned (2), a call that reads it (C), one behind the other, and a new variable (B) that may come up at any time. Whatever the order, behind the four the state is the same but for where the variable lies. No condition. -/
namespace Go.Proofs.Ytegeeobfamjjpaa.plan
open Go Go.RowKit
set_option linter.unusedVariables false

section
variable {P : Program} {md : Region.Mode} {Q : Exit → Act → World → Prop} {l : List Oper}

/-- an operation that looks at no memory is taken first -/
theorem freeS {S : World → Prop} {f : Nat} {listed : Array Bool} {a : Act} {w : World} (i : Nat) (o : Oper) (v : Value) (hi : l[i]? = some o) (hs : Region.noSelect l.toArray = true) (hf : Region.free md l.toArray listed i = true)
    (hr : (Region.ready md l.toArray listed).contains i = true) (hw : Region.wanted o (yielded l.toArray a.tmps) = true) (hv : ∀ w', (execOp a.eval o).run P w' = .ok (.value v) w') (hS : S w)
    (h : wpAnyH P md l.toArray (NoPanic Q) S f (listed.setIfInBounds i true) (a.put o.dst v) w) : wpAnyH P md l.toArray (NoPanic Q) S (f + 1) listed a w :=
  wpAnyH_take (by simpa using hi) hs hf hr (fun c a' w' h => h) (.inl ⟨hw, fun w' _ => hv w'⟩) hS h
/-- the only operation that may come up yields a value -/
theorem oneS {S : World → Prop} {f : Nat} {listed : Array Bool} {a : Act} {w w1 : World} (i : Nat) (o : Oper) (v : Value) (hi : l[i]? = some o) (hg : o.guard = none) (hr : Region.ready md l.toArray listed = [i])
    (hv : (execOp a.eval o).run P w = .ok (.value v) w1) (hS : S w1) (h : wpAnyH P md l.toArray (NoPanic Q) S f (listed.setIfInBounds i true) (a.put o.dst v) w1) : wpAnyH P md l.toArray (NoPanic Q) S (f + 1) listed a w := by
  refine every (by rw [hr]; simp) fun j hj => ?_
  rw [hr] at hj
  obtain rfl : j = i := by simpa using hj
  exact ⟨o, hi, hg, .inl ⟨v, w1, hv, hS, h⟩⟩
theorem doneS {S : World → Prop} {listed : Array Bool} {a : Act} {w : World} (hr : Region.ready md l.toArray listed = []) (h : Q .normal a w) : wpAnyH P md l.toArray (NoPanic Q) S 0 listed a w := ⟨hr, NoPanic.normal h⟩

theorem toS {S : World → Prop} {n : Nat} {listed : Array Bool} {a : Act} {w : World} (dA eA dB eB f : Nat) (L : Bool → Bool → Bool → Bool → Array Bool) (hf : n = f + 4) (hl : listed = L false false false false) (ha : at4 a dA eA dB eB undef undef undef undef = a)
    (h : wpAnyH P md l.toArray (NoPanic Q) S (f + 4) (L false false false false) (at4 a dA eA dB eB undef undef undef undef) w) : wpAnyH P md l.toArray (NoPanic Q) S n listed a w := by
  subst hf hl
  rw [ha] at h
  exact h
theorem drift (a0 : Act) (w0 : World) (i1 i2 iC iB d1 d2 dC dB f : Nat) (n1 : d1 ≠ d2) (n2 : d1 ≠ dC) (n3 : d1 ≠ dB) (n4 : d2 ≠ dC) (n5 : d2 ≠ dB) (n6 : dC ≠ dB) (o1 o2 oC oB : Oper) (L : Bool → Bool → Bool → Bool → Array Bool)
    (l1 : l[i1]? = some o1) (l2 : l[i2]? = some o2) (lC : l[iC]? = some oC) (lB : l[iB]? = some oB) (g1 : o1.guard = none) (g2 : o2.guard = none) (gC : oC.guard = none) (gB : oB.guard = none)
    (s1 : o1.dst = some d1) (s2 : o2.dst = some d2) (sC : oC.dst = some dC) (sB : oB.dst = some dB)
    (e1 : ∀ q r s, (L false q r s).setIfInBounds i1 true = L true q r s) (e2 : ∀ p r s, (L p false r s).setIfInBounds i2 true = L p true r s) (eC : ∀ p q s, (L p q false s).setIfInBounds iC true = L p q true s) (eB : ∀ p q r, (L p q r false).setIfInBounds iB true = L p q r true)
    (q0 : Region.ready md l.toArray (L false false false false) = [i1, iB]) (k0 : Region.ready md l.toArray (L false false false true) = [i1])
    (q1 : Region.ready md l.toArray (L true false false false) = [i2, iB]) (k1 : Region.ready md l.toArray (L true false false true) = [i2])
    (q2 : Region.ready md l.toArray (L true true false false) = [iC, iB]) (k2 : Region.ready md l.toArray (L true true false true) = [iC])
    (R1 R2 RC : Value → World → Prop) (N : Value → Nat → Prop) (t : TypeId) (cs : List Value)
    (r1 : ∀ u v x y w, Below w0.heap.size w0 w → ∃ z w', (execOp (at4 a0 d1 d2 dC dB u v x y).eval o1).run P w = .ok (.value z) w' ∧ Below w.heap.size w w' ∧ R1 z w' ∧ ∀ g, g < w.heap.size → N z g)
    (rB : ∀ u v x y w, (execOp (at4 a0 d1 d2 dC dB u v x y).eval oB).run P w = .ok (.value (.pointer (some ⟨w.heap.size, 0, none⟩))) (w.alloc (.cells cs.toArray t)))
    (t1 : ∀ z w, R1 z w → R1 z (w.alloc (.cells cs.toArray t)) ∧ N z w.heap.size)
    (r2 : ∀ z v x y w, Below w0.heap.size w0 w → R1 z w → ∃ z2 w', (execOp (at4 a0 d1 d2 dC dB z v x y).eval o2).run P w = .ok (.value z2) w' ∧ Below w0.heap.size w0 w' ∧ R2 z2 w' ∧ ∀ g, N z g → Block w g t cs → Block w' g t cs)
    (t2 : ∀ z w, R2 z w → R2 z (w.alloc (.cells cs.toArray t)))
    (rC : ∀ z z2 x y w, Below w0.heap.size w0 w → R2 z2 w → ∃ F args, (execOp (at4 a0 d1 d2 dC dB z z2 x y).eval oC).run P w = .ok (.enter F args) w ∧ Calls P F args w fun e w' => ∃ v, e = .returned v ∧ Below w.heap.size w w' ∧ RC v w')
    (rest : ∀ z z2 v g w', RC v w' → Block w' g t cs → w0.heap.size ≤ g → Below w0.heap.size w0 w' → wpAnyH P md l.toArray (NoPanic Q) (Below w0.heap.size w0) f (L true true true true) (at4 a0 d1 d2 dC dB z z2 v (.pointer (some ⟨g, 0, none⟩))) w')
    (late : ∀ z z2 v y w', RC v w' → Below w0.heap.size w0 w' → wpAnyH P md l.toArray (NoPanic Q) (Below w0.heap.size w0) (f + 1) (L true true true false) (at4 a0 d1 d2 dC dB z z2 v y) w')
    (u v x y : Value) :
    wpAnyH P md l.toArray (NoPanic Q) (Below w0.heap.size w0) (f + 4) (L false false false false) (at4 a0 d1 d2 dC dB u v x y) w0 := by
  have p1 : ∀ u v x y z, (at4 a0 d1 d2 dC dB u v x y).put (some d1) z = at4 a0 d1 d2 dC dB z v x y := by
    intro u v x y z
    unfold at4
    rw [put_comm _ dB d1 _ _ n3.symm, put_comm _ dC d1 _ _ n2.symm, put_comm _ d2 d1 _ _ n1.symm, put_same]
  have p2 : ∀ u v x y z, (at4 a0 d1 d2 dC dB u v x y).put (some d2) z = at4 a0 d1 d2 dC dB u z x y := by
    intro u v x y z
    unfold at4
    rw [put_comm _ dB d2 _ _ n5.symm, put_comm _ dC d2 _ _ n4.symm, put_same]
  have pC : ∀ u v x y z, (at4 a0 d1 d2 dC dB u v x y).put (some dC) z = at4 a0 d1 d2 dC dB u v z y := by
    intro u v x y z
    unfold at4
    rw [put_comm _ dB dC _ _ n6.symm, put_same]
  have pB : ∀ u v x y z, (at4 a0 d1 d2 dC dB u v x y).put (some dB) z = at4 a0 d1 d2 dC dB u v x z := by
    intro u v x y z
    unfold at4
    rw [put_same]
  have st : ∀ {w w' : World}, Below w0.heap.size w0 w → Below w.heap.size w w' → Below w0.heap.size w0 w' := fun h k => h.trans (k.mono h.size)
  have al : ∀ (w : World), Below w.heap.size w (w.alloc (.cells cs.toArray t)) := fun w => (Below.refl _ _).alloc (Nat.le_refl _) _
  -- backwards through the states
  have c3 : ∀ z z2 x g w, R2 z2 w → Block w g t cs → w0.heap.size ≤ g → Below w0.heap.size w0 w → wpAnyH P md l.toArray (NoPanic Q) (Below w0.heap.size w0) (f + 1) (L true true false true) (at4 a0 d1 d2 dC dB z z2 x (.pointer (some ⟨g, 0, none⟩))) w := fun z z2 x g w h2 hB hg hb => by
    refine every (by rw [k2]; simp) fun i hi => ?_
    rw [k2] at hi
    obtain rfl : i = iC := by simpa using hi
    obtain ⟨F, args, hv, hc⟩ := rC z z2 x (.pointer (some ⟨g, 0, none⟩)) w hb h2
    refine ⟨oC, lC, gC, .inr ⟨F, args, hv, hc.mono ?_⟩⟩
    rintro e w' ⟨v, rfl, hb', hR⟩
    refine ⟨v, rfl, st hb hb', ?_⟩
    rw [eC, sC, pC]
    exact rest _ _ _ _ _ hR (hB.later hb') hg (st hb hb')
  have c2 : ∀ z z2 x y w, R2 z2 w → Below w0.heap.size w0 w → wpAnyH P md l.toArray (NoPanic Q) (Below w0.heap.size w0) (f + 2) (L true true false false) (at4 a0 d1 d2 dC dB z z2 x y) w := fun z z2 x y w h2 hb => by
    refine every (by rw [q2]; simp) fun i hi => ?_
    rw [q2] at hi
    rcases List.mem_cons.1 hi with rfl | hi
    · obtain ⟨F, args, hv, hc⟩ := rC z z2 x y w hb h2
      refine ⟨oC, lC, gC, .inr ⟨F, args, hv, hc.mono ?_⟩⟩
      rintro e w' ⟨v, rfl, hb', hR⟩
      refine ⟨v, rfl, st hb hb', ?_⟩
      rw [eC, sC, pC]
      exact late _ _ _ _ _ hR (st hb hb')
    · obtain rfl : i = iB := by simpa using hi
      refine ⟨oB, lB, gB, .inl ⟨_, _, rB z z2 x y w, st hb (al w), ?_⟩⟩
      rw [eB, sB, pB]
      exact c3 _ _ _ _ _ (t2 _ _ h2) (Block.new w t cs) hb.size (st hb (al w))
  have b3 : ∀ z v x g w, R1 z w → N z g → Block w g t cs → w0.heap.size ≤ g → Below w0.heap.size w0 w → wpAnyH P md l.toArray (NoPanic Q) (Below w0.heap.size w0) (f + 2) (L true false false true) (at4 a0 d1 d2 dC dB z v x (.pointer (some ⟨g, 0, none⟩))) w := fun z v x g w h1 hN hB hg hb => by
    obtain ⟨z2, w', hv, hb', h2, hk⟩ := r2 z v x (.pointer (some ⟨g, 0, none⟩)) w hb h1
    refine oneS i2 o2 z2 l2 g2 k1 hv hb' ?_
    rw [e2, s2, p2]
    exact c3 _ _ _ _ _ h2 (hk g hN hB) hg hb'
  have b2 : ∀ z v x y w, R1 z w → Below w0.heap.size w0 w → wpAnyH P md l.toArray (NoPanic Q) (Below w0.heap.size w0) (f + 3) (L true false false false) (at4 a0 d1 d2 dC dB z v x y) w := fun z v x y w h1 hb => by
    refine every (by rw [q1]; simp) fun i hi => ?_
    rw [q1] at hi
    rcases List.mem_cons.1 hi with rfl | hi
    · obtain ⟨z2, w', hv, hb', h2, hk⟩ := r2 z v x y w hb h1
      refine ⟨o2, l2, g2, .inl ⟨z2, w', hv, hb', ?_⟩⟩
      rw [e2, s2, p2]
      exact c2 _ _ _ _ _ h2 hb'
    · obtain rfl : i = iB := by simpa using hi
      refine ⟨oB, lB, gB, .inl ⟨_, _, rB z v x y w, st hb (al w), ?_⟩⟩
      rw [eB, sB, pB]
      exact b3 _ _ _ _ _ (t1 _ _ h1).1 (t1 _ _ h1).2 (Block.new w t cs) hb.size (st hb (al w))
  refine every (by rw [q0]; simp) fun i hi => ?_
  rw [q0] at hi
  rcases List.mem_cons.1 hi with rfl | hi
  · obtain ⟨z, w', hv, hb', h1, hk⟩ := r1 u v x y w0 (Below.refl _ _)
    refine ⟨o1, l1, g1, .inl ⟨z, w', hv, hb', ?_⟩⟩
    rw [e1, s1, p1]
    exact b2 _ _ _ _ _ h1 hb'
  · obtain rfl : i = iB := by simpa using hi
    refine ⟨oB, lB, gB, .inl ⟨_, _, rB u v x y w0, al w0, ?_⟩⟩
    rw [eB, sB, pB]
    obtain ⟨z, w', hv, hb', h1, hk⟩ := r1 u v x (.pointer (some ⟨w0.heap.size, 0, none⟩)) (w0.alloc (.cells cs.toArray t)) (al w0)
    refine oneS i1 o1 z l1 g1 k0 hv (st (al w0) hb') ?_
    rw [e1, s1, p1]
    exact b3 _ _ _ _ _ h1 (hk _ (by simp)) ((Block.new w0 t cs).later hb') (Nat.le_refl _) (st (al w0) hb')
end
end Go.Proofs.Ytegeeobfamjjpaa.plan
/- A region whose order is open, walked under a condition S on the world that every operation keeps. No condition. -/
namespace Go.Proofs.Ytegeeobfamjjpaa.plan
open Go Go.RowKit
set_option linter.unusedVariables false
section
variable {P : Program} {md : Region.Mode} {Q : Exit → Act → World → Prop} {l : List Oper}
/-- an operation that yields its value in every world that meets S is taken first -/
theorem firstS {S : World → Prop} {f : Nat} {listed : Array Bool} {a : Act} {w : World} (i : Nat) (o : Oper) (v : Value) (hi : l[i]? = some o) (hs : Region.noSelect l.toArray = true) (hf : Region.free md l.toArray listed i = true)
    (hr : (Region.ready md l.toArray listed).contains i = true) (hw : Region.wanted o (yielded l.toArray a.tmps) = true) (hv : ∀ w', S w' → (execOp a.eval o).run P w' = .ok (.value v) w') (hS : S w)
    (h : wpAnyH P md l.toArray (NoPanic Q) S f (listed.setIfInBounds i true) (a.put o.dst v) w) : wpAnyH P md l.toArray (NoPanic Q) S (f + 1) listed a w :=
  wpAnyH_take (by simpa using hi) hs hf hr (fun c a' w' h => h) (.inl ⟨hw, hv⟩) hS h
/-- a call, the only operation that may come up -/
theorem callS {S : World → Prop} {f : Nat} {listed : Array Bool} {a : Act} {w : World} (i : Nat) (o : Oper) (F : FuncId) (args : Array Value) (hi : l[i]? = some o) (hr : Region.ready md l.toArray listed = [i])
    (hw : Region.wanted o (yielded l.toArray a.tmps) = true) (hv : (execOp a.eval o).run P w = .ok (.enter F args) w)
    (h : Calls P F args w fun e w' => ∃ v, e = .returned v ∧ S w' ∧ wpAnyH P md l.toArray (NoPanic Q) S f (listed.setIfInBounds i true) (a.put o.dst v) w') : wpAnyH P md l.toArray (NoPanic Q) S (f + 1) listed a w := by
  refine wpAnyH_all hr (by simp) fun j hj => ?_
  obtain rfl : j = i := by simpa using hj
  have hi' : l.toArray[j]? = some o := by simpa using hi
  unfold wpOp
  simp only [hi', hw, if_true, Oper.wp, hv, Oper.upon]
  refine .inl (h.mono ?_)
  rintro e w' ⟨v, rfl, hS, hR⟩
  exact ⟨hS, hR⟩
theorem regionS {S : World → Prop} {id : Nat} {a : Act} {w : World} (hmx : P.follows .mixedOrders = true) (h : wpAnyH P .any l.toArray (NoPanic Q) S l.length (Array.replicate l.length false) a w.drew) : (Code.region id l.toArray true).wp P Q a w := by
  refine wp_region_noPanic (wp_region_held (S := S) hmx ?_)
  have e : l.toArray.size = l.length := by simp
  rw [e]
  exact h
end
end Go.Proofs.Ytegeeobfamjjpaa.plan
/- The region of XLate under a condition S on the world that every operation keeps: what lies ahead of the call may look at what S holds. No condition. -/
namespace Go.Proofs.Ytegeeobfamjjpaa.plan
open Go Go.RowKit
set_option linter.unusedVariables false
section
variable {P : Program} {md : Region.Mode} {Q : Exit → Act → World → Prop} {l : List Oper}
/-- one of two operations that may come up -/
theorem twoS {S : World → Prop} {f : Nat} {listed : Array Bool} {a : Act} {w : World} (i j : Nat) (hne : Region.ready md l.toArray listed ≠ []) (hr : ∀ k ∈ Region.ready md l.toArray listed, k = i ∨ k = j)
    (hi : ∃ o, l[i]? = some o ∧ o.guard = none ∧ ((∃ v w1, (execOp a.eval o).run P w = .ok (.value v) w1 ∧ S w1 ∧ wpAnyH P md l.toArray (NoPanic Q) S f (listed.setIfInBounds i true) (a.put o.dst v) w1) ∨ (∃ F args, (execOp a.eval o).run P w = .ok (.enter F args) w ∧ Calls P F args w fun e w' => ∃ v, e = .returned v ∧ S w' ∧ wpAnyH P md l.toArray (NoPanic Q) S f (listed.setIfInBounds i true) (a.put o.dst v) w')))
    (hj : ∃ o, l[j]? = some o ∧ o.guard = none ∧ ((∃ v w1, (execOp a.eval o).run P w = .ok (.value v) w1 ∧ S w1 ∧ wpAnyH P md l.toArray (NoPanic Q) S f (listed.setIfInBounds j true) (a.put o.dst v) w1) ∨ (∃ F args, (execOp a.eval o).run P w = .ok (.enter F args) w ∧ Calls P F args w fun e w' => ∃ v, e = .returned v ∧ S w' ∧ wpAnyH P md l.toArray (NoPanic Q) S f (listed.setIfInBounds j true) (a.put o.dst v) w'))) :
    wpAnyH P md l.toArray (NoPanic Q) S (f + 1) listed a w := by
  refine every hne fun k hk => ?_
  rcases hr k hk with rfl | rfl
  · exact hi
  · exact hj
theorem lateS {S : World → Prop} {f : Nat} {a : Act} {w0 : World} (i1 i3 i4 d1 d3 d4 : Nat) (n13 : d1 ≠ d3) (n14 : d1 ≠ d4) (o1 o3 o4 : Oper) (L : Bool → Bool → Bool → Array Bool)
    (l1 : l[i1]? = some o1) (l3 : l[i3]? = some o3) (l4 : l[i4]? = some o4) (g1 : o1.guard = none) (g3 : o3.guard = none) (g4 : o4.guard = none) (e1 : o1.dst = some d1) (e3 : o3.dst = some d3) (e4 : o4.dst = some d4)
    (s1 : ∀ y z, (L false y z).setIfInBounds i1 true = L true y z) (s3 : ∀ x, (L x false false).setIfInBounds i3 true = L x true false) (s4 : ∀ x, (L x true false).setIfInBounds i4 true = L x true true)
    (r0 : Region.ready md l.toArray (L false false false) = [i1, i3]) (r1 : Region.ready md l.toArray (L true false false) = [i3]) (r01 : Region.ready md l.toArray (L false true false) = [i1, i4]) (r11 : Region.ready md l.toArray (L true true false) = [i4]) (r02 : Region.ready md l.toArray (L false true true) = [i1])
    (u : Value) (F : FuncId) (args : Array Value) (M : Value → World → Prop) (G : Value → World → Value) (NW : Value → World → World)
    (hl0 : (execOp a.eval o1).run P w0 = .ok (.value u) w0) (hl1 : ∀ v w', M v w' → (execOp (a.put (some d3) v).eval o1).run P w' = .ok (.value u) w') (hl2 : ∀ v w', M v w' → (execOp ((a.put (some d3) v).put (some d4) (G v w')).eval o1).run P (NW v w') = .ok (.value u) (NW v w'))
    (hc0 : (execOp a.eval o3).run P w0 = .ok (.enter F args) w0) (hc1 : (execOp (a.put (some d1) u).eval o3).run P w0 = .ok (.enter F args) w0) (hC : Calls P F args w0 fun e w' => ∃ v, e = .returned v ∧ M v w')
    (hb0 : ∀ v w', M v w' → (execOp (a.put (some d3) v).eval o4).run P w' = .ok (.value (G v w')) (NW v w')) (hb1 : ∀ v w', M v w' → (execOp ((a.put (some d1) u).put (some d3) v).eval o4).run P w' = .ok (.value (G v w')) (NW v w'))
    (hS0 : S w0) (hSM : ∀ v w', M v w' → S w') (hSN : ∀ v w', M v w' → S (NW v w'))
    (h : ∀ v w', M v w' → wpAnyH P md l.toArray (NoPanic Q) S f (L true true true) (((a.put (some d1) u).put (some d3) v).put (some d4) (G v w')) (NW v w')) :
    wpAnyH P md l.toArray (NoPanic Q) S (f + 3) (L false false false) a w0 := by
  -- behind load and call
  have k11 : ∀ v w', M v w' → wpAnyH P md l.toArray (NoPanic Q) S (f + 1) (L true true false) ((a.put (some d1) u).put (some d3) v) w' := fun v w' hM => by
    refine oneS i4 o4 (G v w') l4 g4 r11 (hb1 v w' hM) (hSN v w' hM) ?_
    rw [e4, s4]; exact h v w' hM
  have k10 : wpAnyH P md l.toArray (NoPanic Q) S (f + 2) (L true false false) (a.put (some d1) u) w0 := by
    refine twoS i3 i3 (by rw [r1]; simp) (by rw [r1]; simp) ?_ ?_ <;>
    · refine ⟨o3, l3, g3, .inr ⟨F, args, hc1, hC.mono ?_⟩⟩
      rintro e w' ⟨v, rfl, hM⟩
      refine ⟨v, rfl, hSM v w' hM, ?_⟩
      rw [e3, s3]; exact k11 v w' hM
  have k02 : ∀ v w', M v w' → wpAnyH P md l.toArray (NoPanic Q) S (f + 1) (L false true true) ((a.put (some d3) v).put (some d4) (G v w')) (NW v w') := fun v w' hM => by
    refine oneS i1 o1 u l1 g1 r02 (hl2 v w' hM) (hSN v w' hM) ?_
    rw [e1, s1, put_comm _ d4 d1 _ _ (Ne.symm n14), put_comm _ d3 d1 _ _ (Ne.symm n13)]; exact h v w' hM
  have k01 : ∀ v w', M v w' → wpAnyH P md l.toArray (NoPanic Q) S (f + 2) (L false true false) (a.put (some d3) v) w' := fun v w' hM => by
    refine twoS i1 i4 (by rw [r01]; simp) (by rw [r01]; simp) ?_ ?_
    · refine ⟨o1, l1, g1, .inl ⟨u, w', hl1 v w' hM, hSM v w' hM, ?_⟩⟩
      rw [e1, s1, put_comm _ d3 d1 _ _ (Ne.symm n13)]; exact k11 v w' hM
    · refine ⟨o4, l4, g4, .inl ⟨_, _, hb0 v w' hM, hSN v w' hM, ?_⟩⟩
      rw [e4, s4]; exact k02 v w' hM
  refine twoS i1 i3 (by rw [r0]; simp) (by rw [r0]; simp) ?_ ?_
  · refine ⟨o1, l1, g1, .inl ⟨u, w0, hl0, hS0, ?_⟩⟩
    rw [e1, s1]; exact k10
  · refine ⟨o3, l3, g3, .inr ⟨F, args, hc0, hC.mono ?_⟩⟩
    rintro e w' ⟨v, rfl, hM⟩
    refine ⟨v, rfl, hSM v w' hM, ?_⟩
    rw [e3, s3]; exact k01 v w' hM
theorem oneES {S : World → Prop} {f : Nat} {listed : Array Bool} {a : Act} {w : World} (i : Nat) (o : Oper) (Pr : Value → World → Prop) (hi : l[i]? = some o) (hg : o.guard = none) (hr : Region.ready md l.toArray listed = [i])
    (hv : ∃ v w1, (execOp a.eval o).run P w = .ok (.value v) w1 ∧ Pr v w1) (hS : ∀ v w1, Pr v w1 → S w1) (h : ∀ v w1, Pr v w1 → wpAnyH P md l.toArray (NoPanic Q) S f (listed.setIfInBounds i true) (a.put o.dst v) w1) : wpAnyH P md l.toArray (NoPanic Q) S (f + 1) listed a w := by
  obtain ⟨v, w1, h1, h2⟩ := hv
  exact oneS i o v hi hg hr h1 (hS v w1 h2) (h v w1 h2)
theorem toLS {S : World → Prop} {n : Nat} {listed : Array Bool} {a : Act} {w : World} (f : Nat) (L : Bool → Bool → Bool → Array Bool) (hf : n = f + 3) (hl : listed = L false false false)
    (h : wpAnyH P md l.toArray (NoPanic Q) S (f + 3) (L false false false) a w) : wpAnyH P md l.toArray (NoPanic Q) S n listed a w := by
  subst hf hl
  exact h
end
end Go.Proofs.Ytegeeobfamjjpaa.plan
/- append onto a row of the call's own, from whatever slice. No condition. -/
namespace Go.Proofs.Ytegeeobfamjjpaa
open Go.RowKit
set_option linter.unusedVariables false

theorem ownsRow_heap {w w' : World} {base e size n : Nat} {v : Value} {xs : List Value} (h : w.ownsRow base e size v n xs) (hh : ∀ g, v.ownBlock = some g → w'.heap[g]? = w.heap[g]?) : w'.ownsRow base e size v n xs := by
  refine ⟨h.1, ?_⟩
  rcases h.2 with h0 | ⟨g, cap, cur, hv, h1, hg, h2, h3, h4, h5⟩
  · exact .inl h0
  · exact .inr ⟨g, cap, cur, hv, h1, (hh g (by rw [hv]; rfl)).trans hg, h2, h3, h4, h5⟩
theorem grown_refl (w : World) (row : Option Nat) : w.grownBy w row := ⟨rfl, rfl, rfl, Nat.le_refl _, fun _ _ _ => rfl⟩
theorem wpList_append_from {P : Program} {w : World} {ops : Array Oper} {rest : List Oper} {o : Oper} {a : Act} {Q : Exit → Act → World → Prop} (hgd : o.guard = none) (s x : Operand) (t : TypeId)
    (ho : o.op = .call { callee := .builtin .append, args := #[s, x], argTypes := #[t, t] })
    (base : Nat) (e : TypeId) (i : TypeInfo) (z : Value) (bytes : Nat) (ht : P.underlying t = some (.slice e)) (hi : P.info? e = some i) (hz : i.zero = some z)
    (hsize : i.size = 1) (hby : i.bytes = bytes) (hzs : z.cells.size = 1)
    (v : Value) (n : Nat) (xs : List Value) (hs : a.eval s = v) (hown : w.ownsRow base e 1 v n xs)
    (ap : Option Addr) (m c : Nat) (news : List Value) (hx : a.eval x = .slice ap m c) (hl : news.length = m)
    (hnews : m = 0 ∨ ∃ ad, ap = some ad ∧ ∀ j u, news[j]? = some u → w.cell? (ad.add j) = some u) (h1 : ∀ u ∈ news, u.oneCell' = true)
    (h63 : n + m ≤ maxLen) (hbytes : (n + m) * bytes ≤ 140737488355328) (hbase : base ≤ w.heap.size)
    (h : ∀ v' w', w'.ownsRow base e 1 v' (n + m) (xs ++ news) → w.grownBy w' v.ownBlock → wpList P ops Q rest (a.put o.dst v') w') : wpList P ops Q (o :: rest) a w := by
  by_cases hm : m = 0
  · subst hm
    obtain rfl : news = [] := List.eq_nil_of_length_eq_zero hl
    obtain ⟨bp, cp, rfl, hcp⟩ := ownsRow_slice hown
    have hsrc : Src P i.size t (.slice ap 0 c) 0 [] w := by
      cases ap with
      | none => exact Src.ofNil w ht c
      | some ad => exact Src.ofSlice w ht ad 0 c [] (by simp) (by simp) (by simp)
    have hrun := run_append_nothing w t t o.type e i ht hi bp n cp hcp _ hsrc
    refine wpList_plain hgd fun K hK => ?_
    unfold Oper.wp
    simp [execOp, ho, resolve, invoke, builtin, hs, hx, hrun, Result.andThen]
    exact hK _ _ (h _ w (by simpa using hown) (grown_refl _ _))
  · rcases hnews with h0 | ⟨ad, rfl, hc⟩
    · exact absurd h0 hm
    · exact wpList_append_own w hgd s x t ho base e i z 1 bytes ht hi hz hsize hby hzs (by decide) v n xs hs hown ad m c news hx (by omega) hc h1 h63 hbytes hbase (fun v' w' h2 h3 _ => h v' w' h2 h3)
end Go.Proofs.Ytegeeobfamjjpaa
/- What stays where other blocks turn: blocks of a type that none of the turned ones has. No condition. -/
namespace Go.Proofs.Ytegeeobfamjjpaa.schema
open Go.RowKit
set_option linter.unusedVariables false

/-- every block of type e stays -/
def StayT (e : TypeId) (w w' : World) : Prop := ∀ (k : Nat) (cs : Array Value) (fr : Nat × Nat), w.heap[k]? = some (Obj.cells cs e fr) → w'.heap[k]? = some (Obj.cells cs e fr)
theorem StayT.trans {e : TypeId} {a b c : World} (h : StayT e a b) (k : StayT e b c) : StayT e a c := fun i cs fr hi => k i cs fr (h i cs fr hi)
theorem stay_below (e : TypeId) {w w' : World} (hb : Below w.heap.size w w') : StayT e w w' := fun k cs fr hk => (hb.block k (Array.getElem?_eq_some_iff.1 hk).1).trans hk
theorem stay_but (e : TypeId) {b : Nat} {t : TypeId} {cs : List Value} {w w' : World} (hb : But w.heap.size b w w') (hB : Block w b t cs) (ht : t ≠ e) : StayT e w w' := by
  intro k cs' fr hk
  refine (hb.2.2.2.2 k (Array.getElem?_eq_some_iff.1 hk).1 ?_).trans hk
  rintro rfl
  unfold Block at hB
  rw [hB] at hk
  exact ht (Obj.cells.inj (Option.some.inj hk)).2.1
theorem stay_grown (e : TypeId) {B e2 sz n : Nat} {u : Value} {xs : List Value} {w w' : World} (ho : w.ownsRow B e2 sz u n xs) (hg : w.grownBy w' u.ownBlock) (ht : e2 ≠ e) : StayT e w w' := by
  intro k cs fr hk
  refine (hg.block k (Array.getElem?_eq_some_iff.1 hk).1 ?_).trans hk
  intro he
  rcases ho.2 with ⟨hv, _⟩ | ⟨g, cap, cur, hv, _, hh, _⟩
  · rw [hv] at he; simp [Value.ownBlock] at he
  · rw [hv] at he
    simp [Value.ownBlock] at he
    subst he
    rw [hh] at hk
    exact ht (Obj.cells.inj (Option.some.inj hk)).2.1
theorem stay_store (e : TypeId) {g : Nat} {t : TypeId} {cs : List Value} {w : World} (hB : Block w g t cs) (ht : t ≠ e) (o : Nat) (v : Value) : StayT e w (w.setCell ⟨g, o, none⟩ v) := by
  intro k cs' fr hk
  refine (Below.heap_setCell w ⟨g, o, none⟩ v k ?_).trans hk
  rintro rfl
  unfold Block at hB
  rw [hB] at hk
  exact ht (Obj.cells.inj (Option.some.inj hk)).2.1
theorem StayT.block {w w' : World} {k : Nat} {e : TypeId} {cs : List Value} (h : StayT e w w') (hB : Block w k e cs) : Block w' k e cs := h k _ _ hB
theorem StayT.row {w w' : World} {B e sz n : Nat} {v : Value} {xs : List Value} (h : StayT e w w') (ho : w.ownsRow B e sz v n xs) : w'.ownsRow B e sz v n xs := by
  refine ⟨ho.1, ?_⟩
  rcases ho.2 with h0 | ⟨g, cap, cur, hv, h1, hg, h2⟩
  · exact .inl h0
  · exact .inr ⟨g, cap, cur, hv, h1, h g _ _ hg, h2⟩
/-- one append of one element onto a row of the call's own, run by itself -/
theorem exec_push {o : Oper} {act : Act} {w : World} {x y : Operand} {u : Value} {B n g sz bytes : Nat} {t e : TypeId} {i : TypeInfo} {z : Value} {xs news : List Value}
    (ht : Try.prog.underlying t = some (.slice e)) (hi : Try.prog.info? e = some i) (hz : i.zero = some z) (hsz : i.size = sz) (hby : i.bytes = bytes) (hzs : z.cells.size = sz) (h0 : 0 < sz)
    (ho : o.op = .call { callee := .builtin .append, args := #[x, y], argTypes := #[t, t] }) (hx : act.eval x = u) (hy : act.eval y = .slice (some ⟨g, 0, none⟩) 1 1)
    (hown : w.ownsRow B e sz u n xs) (hl : news.length = sz) (hc : ∀ j v, news[j]? = some v → w.cell? ⟨g, j, none⟩ = some v) (h1 : ∀ v ∈ news, v.oneCell' = true) (hbytes : (n + 1) * bytes ≤ 140737488355328) (hn : n + 1 ≤ 1000000) (hB : B ≤ w.heap.size) :
    ∃ q w', (execOp act.eval o).run Try.prog w = .ok (.value q) w' ∧ w'.ownsRow B e sz q (n + 1) (xs ++ news) ∧ w.grownBy w' u.ownBlock := by
  obtain ⟨q, w', h2, h3, h4, _, _⟩ := run_append_own_at w B t o.type e i z sz bytes ht hi hz hsz hby hzs h0 u n xs hown ⟨g, 0, none⟩ 1 1 news (by omega)
    (fun j v hj => by rw [Addr.add_lit, Nat.zero_add]; exact hc j v hj) h1 (by unfold maxLen; omega) hbytes hB
  refine ⟨q, w', ?_, h3, h4⟩
  unfold execOp
  simp [ho, resolve, invoke, builtin, hx, hy, h2, Result.andThen]
theorem own_cap {w : World} {base n sz : Nat} {a : Option Addr} {cap : Nat} {xs : List Value} {e : TypeId} (h : w.ownsRow base e sz (.slice a n cap) n xs) : n ≤ cap ∧ cap ≤ maxLen := by
  rcases h.2 with ⟨hv, h0⟩ | ⟨b, cap', cur, hv, _, hg, h1, h2, _⟩
  · cases hv; exact ⟨by omega, by unfold maxLen; omega⟩
  · cases hv; exact ⟨h1, h2⟩
theorem exec_cell_slice' {o : Oper} {a : Act} {w : World} {ty : TypeId} {x : Operand} {ad : Addr} {q : Option Addr} {n c : Nat} (ho : o.op = .load ty x) (hx : a.eval x = .pointer (some ad)) (hc : w.cell? ad = some (.slice q n c)) (hu : ∀ w', (isAgg ty).run Try.prog w' = .ok false w') :
    (execOp a.eval o).run Try.prog w = .ok (.value (.slice q n c)) w := by
  unfold execOp
  rw [ho]
  simp only [hx]
  go_simp
end Go.Proofs.Ytegeeobfamjjpaa.schema
namespace Go.Proofs.Ytegeeobfamjjpaa.plan
open Go Go.RowKit
/-- the only operation that may come up is a store, the last -/
theorem lastS {P : Program} {md : Region.Mode} {Q : Exit → Act → World → Prop} {l : List Oper} {S : World → Prop} {listed : Array Bool} {a : Act} {w w1 : World} (i : Nat) (o : Oper) (hi : l[i]? = some o) (hg : o.guard = none) (hd : o.dst = none) (hr : Region.ready md l.toArray listed = [i]) (hr2 : Region.ready md l.toArray (listed.setIfInBounds i true) = [])
    (hv : (execOp a.eval o).run P w = .ok .skip w1) (hS : S w1) (h : Q .normal a w1) : wpAnyH P md l.toArray (NoPanic Q) S 1 listed a w := by
  refine wpAnyH_all hr (by simp) fun j hj => ?_
  obtain rfl : j = i := by simpa using hj
  have hi' : l.toArray[j]? = some o := by simpa using hi
  have hw : Region.wanted o (yielded l.toArray a.tmps) = true := by unfold Region.wanted; rw [hg]
  unfold wpOp
  have e : a.put o.dst undef = a := by rw [hd]; rfl
  simp only [hi', hw, if_true, Oper.wp, hv, Oper.upon]
  exact .inl ⟨hS, hr2, NoPanic.normal (by rw [e]; exact h)⟩
theorem toL {P : Program} {md : Region.Mode} {Q : Exit → Act → World → Prop} {l : List Oper} {n : Nat} {listed : Array Bool} {a : Act} {w : World} (f : Nat) (L : Bool → Bool → Bool → Array Bool) (hf : n = f + 3) (hl : listed = L false false false)
    (h : wpAnyH P md l.toArray (NoPanic Q) (fun _ => True) (f + 3) (L false false false) a w) : wpAnyH P md l.toArray (NoPanic Q) (fun _ => True) n listed a w := by
  subst hf hl
  exact h
end Go.Proofs.Ytegeeobfamjjpaa.plan
/- Rows of values that a call has made, and a record's variable in which they are gathered. No condition. -/
namespace Go.Proofs.Ytegeeobfamjjpaa.record
open Go.RowKit
open Go.Proofs.Ytegeeobfamjjpaa.field (Va)
open Go.Proofs.Ytegeeobfamjjpaa.schema (exec_push own_low)
set_option linter.unusedVariables false

/-- the cells of values -/
def vaC (p : Va) : List Value := [.int .i64 p.n, .string p.s]
def vaV : List Va → List Value
  | [] => []
  | p :: L => vaC p ++ vaV L
theorem vaV_append : ∀ a b, vaV (a ++ b) = vaV a ++ vaV b
  | [], _ => rfl
  | p :: a, b => by rw [List.cons_append, vaV, vaV, vaV_append a b, List.append_assoc]
theorem vaV_length : ∀ L, (vaV L).length = L.length * 2
  | [] => rfl
  | p :: L => by rw [vaV]; simp only [vaC, List.length_append, List.length_cons, List.length_nil, vaV_length L]; omega
theorem vaC_one (p : Va) : ∀ u ∈ vaC p, u.oneCell' = true := by intro u hu; simp [vaC] at hu; rcases hu with rfl | rfl <;> rfl
theorem vaV_at : ∀ (L : List Va) (i : Nat) (p : Va) (c : Nat), L[i]? = some p → c < 2 → (vaV L)[i * 2 + c]? = (vaC p)[c]?
  | [], i, p, c, h, _ => by simp at h
  | q :: L, 0, p, c, h, hc => by
    simp at h; subst h
    rw [vaV, List.getElem?_append_left (by simp [vaC]; omega)]
    simp
  | q :: L, i + 1, p, c, h, hc => by
    rw [vaV, List.getElem?_append_right (by simp [vaC]; omega)]
    rw [← vaV_at L i p c (by simpa using h) hc]
    congr 1
    simp only [vaC, List.length_cons, List.length_nil]; omega
/-- a row of the call's own reads as values -/
theorem own_vas {w : World} {base n : Nat} {a : Option Addr} {cap : Nat} {L : List Va} {e : TypeId} (h : w.ownsRow base e 2 (.slice a n cap) n (vaV L)) : field.Vas w a L ∧ n = L.length ∧ n ≤ cap := by
  obtain ⟨hl, hr⟩ := h
  have hn : n = L.length := by have := vaV_length L; rw [hl] at this; omega
  rcases hr with ⟨hv, h0⟩ | ⟨b, cap', cur, hv, _, hg, hcp, _, _, htake⟩
  · cases hv
    exact ⟨.inl (List.eq_nil_of_length_eq_zero (by omega)), hn, by omega⟩
  · cases hv
    refine ⟨.inr ⟨b, 0, rfl, (Array.getElem?_eq_some_iff.1 hg).1, fun i p hp => ?_⟩, hn, hcp⟩
    have hi : i < L.length := (List.getElem?_eq_some_iff.1 hp).1
    have key : ∀ c x, c < 2 → (vaC p)[c]? = some x → w.cell? ⟨b, 0 + (i * 2 + c), none⟩ = some x := by
      intro c x hc hx
      have h1 := vaV_at L i p c hp hc
      rw [hx, ← htake, List.getElem?_take, if_pos (by omega)] at h1
      rw [cell_of_row w b _ cur _ _ hg, Nat.zero_add, ← h1, Array.getElem?_toList]
    exact ⟨key 0 _ (by omega) rfl, key 1 _ (by omega) rfl⟩
theorem va_info : (Try.prog.info? 48).map (fun i => (i.zero, i.size, i.bytes)) = some (some (.agg #[.int .i64 0, .string ⟨#[]⟩]), 2, 24) := by kernel_rfl
theorem va_info_parts : ∃ i, Try.prog.info? 48 = some i ∧ i.zero = some (.agg #[.int .i64 0, .string ⟨#[]⟩]) ∧ i.size = 2 ∧ i.bytes = 24 := by
  obtain ⟨i, hi, he⟩ := Option.map_eq_some_iff.1 va_info
  simp only [Prod.mk.injEq] at he
  exact ⟨i, hi, he.1, he.2.1, he.2.2⟩
theorem exec_push_va {o : Oper} {a : Act} {w : World} {x y : Operand} {u : Value} {B n g : Nat} {L : List Va} {p : Va}
    (ho : o.op = .call { callee := .builtin .append, args := #[x, y], argTypes := #[25, 25] }) (hx : a.eval x = u) (hy : a.eval y = .slice (some ⟨g, 0, none⟩) 1 1)
    (hown : w.ownsRow B 48 2 u n (vaV L)) (hb : Block w g 48 (vaC p)) (hn : n ≤ 1000) (hB : B ≤ w.heap.size) :
    ∃ q w', (execOp a.eval o).run Try.prog w = .ok (.value q) w' ∧ w'.ownsRow B 48 2 q (n + 1) (vaV (L ++ [p])) ∧ w.grownBy w' u.ownBlock := by
  obtain ⟨i0, hi, hz0, hz1, hz2⟩ := va_info_parts
  obtain ⟨q, w', h1, h2, h3⟩ := exec_push (sz := 2) (bytes := 24) Try.underlying25 hi hz0 hz1 hz2 (by simp [Value.cells]) (by omega) ho hx hy hown (news := vaC p) rfl (fun j v hj => (hb.cell j).trans hj) (vaC_one p) (by omega) (by omega) hB
  exact ⟨q, w', h1, by rw [vaV_append]; simpa [vaV] using h2, h3⟩
/-- the same, beside a variable of another type -/
theorem exec_push_vaX {o : Oper} {a : Act} {w : World} {x y : Operand} {u : Value} {B n g : Nat} {L : List Va} {p : Va} {X : Nat} {e : TypeId} {cs : List Value}
    (ho : o.op = .call { callee := .builtin .append, args := #[x, y], argTypes := #[25, 25] }) (hx : a.eval x = u) (hy : a.eval y = .slice (some ⟨g, 0, none⟩) 1 1)
    (hown : w.ownsRow B 48 2 u n (vaV L)) (hb : Block w g 48 (vaC p)) (hn : n ≤ 1000) (hB : B ≤ w.heap.size) (hX : Block w X e cs) (he : 48 ≠ e) :
    ∃ q w', (execOp a.eval o).run Try.prog w = .ok (.value q) w' ∧ (w'.ownsRow B 48 2 q (n + 1) (vaV (L ++ [p])) ∧ w.grownBy w' u.ownBlock) ∧ Block w' X e cs := by
  obtain ⟨q, w', h1, h2, h3⟩ := exec_push_va ho hx hy hown hb hn hB
  exact ⟨q, w', h1, ⟨h2, h3⟩, (schema.stay_grown e hown h3 he).block hX⟩
/-- the same, and what lay ahead of the row stays -/
theorem exec_push_vaL {o : Oper} {a : Act} {w w0 : World} {x y : Operand} {u : Value} {B n g : Nat} {L : List Va} {p : Va}
    (ho : o.op = .call { callee := .builtin .append, args := #[x, y], argTypes := #[25, 25] }) (hx : a.eval x = u) (hy : a.eval y = .slice (some ⟨g, 0, none⟩) 1 1)
    (hown : w.ownsRow B 48 2 u n (vaV L)) (hb : Block w g 48 (vaC p)) (hn : n ≤ 1000) (hB : B ≤ w.heap.size) (hl : Below w0.heap.size w0 w) (he : w0.heap.size ≤ B) :
    ∃ q w', (execOp a.eval o).run Try.prog w = .ok (.value q) w' ∧ (w'.ownsRow B 48 2 q (n + 1) (vaV (L ++ [p])) ∧ w.grownBy w' u.ownBlock) ∧ Below w0.heap.size w0 w' := by
  obtain ⟨q, w', h1, h2, h3⟩ := exec_push_va ho hx hy hown hb hn hB
  exact ⟨q, w', h1, ⟨h2, h3⟩, hl.grown h3 (by have := hl.size; omega) (fun k hk => by have := World.ownsRow.lt hown k hk; omega)⟩
theorem exec_put_va {o : Oper} {a : Act} {w : World} {x y : Operand} {ad : Addr} {v : Value} {p : Option Addr} {n c : Nat} (ho : o.op = .store 25 x y) (hx : a.eval x = .pointer (some ad)) (hy : a.eval y = .slice p n c) (hc : w.cell? ad = some v) (hf : w.frozen? ad = false) : (execOp a.eval o).run Try.prog w = .ok .skip (w.setCell ad (.slice p n c)) := by
  unfold execOp
  rw [ho]
  simp only [hx, hy]
  go_simp
theorem rc_info (v0 v1 : Value) : (Try.prog.info? 27).map (·.size) = some [v0, v1].length := by kernel_rfl
theorem info_rc : Hid ((Try.prog.info? 27).map (·.size) = some 2) := by show _ = _; kernel_rfl
/-- a record that has just been boxed stays -/
theorem boxR (i : Int) (a : Option Addr) (V : List Va) (cap : Nat) (w w' : World) (hb : Below (w.alloc (.cells #[.int .i64 i, .slice a V.length cap] 27)).heap.size (w.alloc (.cells #[.int .i64 i, .slice a V.length cap] 27)) w') : w'.cell? ⟨w.heap.size, 0, none⟩ = some (.int .i64 i) ∧ w'.cell? ⟨w.heap.size, 1, none⟩ = some (.slice a V.length cap) ∧ Below w.heap.size w w' := by
  have hB := (Block.new w 27 [.int .i64 i, .slice a V.length cap]).later hb
  exact ⟨hB.cell 0, hB.cell 1, schema.below_out hb⟩
/-- the values' cells in a later world -/
theorem val_at {w w' : World} {a : Option Addr} {V : List Va} (h : field.Vas w a V) (hb : Below w.heap.size w w') {k : Nat} (hk : k < V.length) :
    ∃ b off p, a = some ⟨b, off, none⟩ ∧ b < w'.heap.size ∧ V[k]? = some p ∧ w'.cell? ⟨b, off + k * 2, none⟩ = some (.int .i64 p.n) ∧ w'.cell? ⟨b, off + k * 2 + 1, none⟩ = some (.string p.s) := by
  obtain ⟨b, off, p, h1, h2, h3, h4, h5⟩ := (h.below hb).at hk
  exact ⟨b, off, p, h1, h2, h3, h4, h5⟩
/-- the call answers the record of these values -/
def RecAs (j : Int) (V : List Va) (w : World) (e : Ending) (w' : World) : Prop := ∃ x c, e = .returned (.agg #[.int .i64 j, .slice x V.length c]) ∧ field.Vas w' x V ∧ Below w.heap.size w w'

/-- the record's variable at F holds i and the row u of the values V, which lies behind F; what lay before F is as in w0 -/
structure RS (i : Int) (w0 : World) (F : Nat) (V : List Va) (n : Nat) (u : Value) (wr : World) : Prop where
  f : Block wr F 27 [.int .i64 i, u]
  row : wr.ownsRow (F + 1) 48 2 u n (vaV V)
  low : Below w0.heap.size w0 wr
  at' : w0.heap.size = F
variable {i : Int} {F n : Nat} {w0 : World} {V : List Va} {u : Value}
theorem RS.later {w w' : World} (h : RS i w0 F V n u w) (hb : Below w.heap.size w w') : RS i w0 F V n u w' :=
  ⟨h.f.later hb, ownsRow_later h.row hb, h.low.trans (hb.mono h.low.size), h.at'⟩
/-- behind an append: the variable still holds the old row -/
theorem RS.held {w w' : World} (h : RS i w0 F V n u w) (hg : w.grownBy w' u.ownBlock) : Block w' F 27 [.int .i64 i, u] :=
  (hg.block F h.f.lt (by intro he; have := World.ownsRow.lt h.row F he.symm; omega)).trans h.f
theorem RS.push {w w' : World} {p : Va} {z : Value} (h : RS i w0 F V n u w) (hg : w.grownBy w' u.ownBlock) (ho : w'.ownsRow (F + 1) 48 2 z (n + 1) (vaV (V ++ [p]))) :
    RS i w0 F (V ++ [p]) (n + 1) z (w'.setCell ⟨F, 1, none⟩ z) := by
  have hF := h.held hg
  refine ⟨hF.setCell 1 z, ownsRow_heap ho (fun g hg => ?_), ?_, h.at'⟩
  · have := World.ownsRow.lt ho g hg
    exact Below.heap_setCell w' ⟨F, 1, none⟩ z g (by show g ≠ F; omega)
  · have hl := h.low.grown hg (by have := h.low.size; omega) (fun k hk => by have := World.ownsRow.lt h.row k hk; have := h.at'; omega)
    exact below_setCells hl (Nat.le_of_eq h.at') 1 [z]
/-- at the start -/
theorem RS.start (w1 : World) (i : Int) : RS i w1 w1.heap.size [] 0 (.slice none 0 0) (w1.alloc (.cells #[.int .i64 i, .slice none 0 0] 27)) :=
  ⟨Block.new w1 27 [.int .i64 i, .slice none 0 0], World.ownsRow_nil _ _ _ _, field.newB _ _, rfl⟩
theorem RS.len {w : World} (h : RS i w0 F V n u w) : n = V.length := by have h1 := h.row.1; rw [vaV_length] at h1; omega
end Go.Proofs.Ytegeeobfamjjpaa.record
/- Contract of the reference's Span of layer 12 (field). No condition. -/
namespace Go.Proofs.Ytegeeobfamjjpaa.field
open Go.RowKit
set_option linter.unusedVariables false

theorem results_tmp4 {fn : Func} {t u v x : Tmp} (h : fn.results = #[.tmp t, .tmp u, .tmp v, .tmp x]) (tmps : Array Value) (P : Program) (w : World) :
    (results fn tmps).run P w = .ok (.tuple #[tmps.getD t undef, tmps.getD u undef, tmps.getD v undef, tmps.getD x undef]) w := by
  simp [results, h]
/-- a triple of numbers and a no -/
def SpanNo (w : World) (e : Ending) (w' : World) : Prop := (∃ a b c : Int, e = .returned (.tuple #[.int .i64 a, .int .i64 b, .int .i64 c, .bool false])) ∧ Below w.heap.size w w'
def SpanYes (a b c : Int) (w : World) (e : Ending) (w' : World) : Prop := e = .returned (.tuple #[.int .i64 a, .int .i64 b, .int .i64 c, .bool true]) ∧ Below w.heap.size w w'
theorem span_yes (f : Fd) (h : f.Right) (w : World) : Calls Try.prog 35 #[.agg #[.int .i64 f.id, .int .i64 f.kind, .int .i64 f.lo, .int .i64 f.hi, .int .i64 f.most]] w (SpanYes f.lo f.great f.long w) := by
  have HB := hid (belowF f w)
  obtain ⟨i, k, lo, hi, m⟩ := f
  obtain ⟨⟨h1, h2⟩, h⟩ := h
  simp only at h h1 h2 HB ⊢
  have g1 : i ≥ 0 := h1
  unfold SpanYes
  rcases h with ⟨rfl, h3, h4, h5, rfl⟩ | ⟨rfl, ⟨rfl, rfl⟩, rfl⟩ | ⟨rfl, ⟨rfl, rfl⟩, h3, h4⟩ | ⟨rfl, ⟨rfl, rfl⟩, h3, h4⟩
  · have g4 : lo ≥ -1099511627776 := h4
    rw [show Fd.great ⟨i, 1, lo, hi, 0⟩ = hi from rfl, show Fd.long ⟨i, 1, lo, hi, 0⟩ = 0 from rfl]
    go_enter Try.func35, Try.ntmps35
    go_wp2
    go_quiet (fail)
    go_wp2
    refine bodyPost_ret (results_tmp4 rfl _ _ _) rfl ?_
    exact ⟨rfl, HB.out _ (below_drewN (Below.refl _ _) _)⟩
  · rw [show Fd.great ⟨i, 2, 0, 0, 0⟩ = 1 from rfl, show Fd.long ⟨i, 2, 0, 0, 0⟩ = 0 from rfl]
    go_enter Try.func35, Try.ntmps35
    go_wp2
    go_quiet (fail)
    go_wp2
    refine bodyPost_ret (results_tmp4 rfl _ _ _) rfl ?_
    exact ⟨rfl, HB.out _ (below_drewN (Below.refl _ _) _)⟩
  · rw [show Fd.great ⟨i, 3, 0, 0, m⟩ = m - 1 from rfl, show Fd.long ⟨i, 3, 0, 0, m⟩ = 0 from rfl]
    have g3 : m ≥ 1 := h3
    go_enter Try.func35, Try.ntmps35
    go_wp2
    go_quiet (fail)
    go_wp2
    refine bodyPost_ret (results_tmp4 rfl _ _ _) rfl ?_
    exact ⟨rfl, HB.out _ (below_drewN (Below.refl _ _) _)⟩
  · rw [show Fd.great ⟨i, 4, 0, 0, m⟩ = 0 from rfl, show Fd.long ⟨i, 4, 0, 0, m⟩ = m from rfl]
    have g3 : m ≥ 0 := h3
    go_enter Try.func35, Try.ntmps35
    go_wp2
    go_quiet (fail)
    go_wp2
    refine bodyPost_ret (results_tmp4 rfl _ _ _) rfl ?_
    exact ⟨rfl, HB.out _ (below_drewN (Below.refl _ _) _)⟩
set_option maxHeartbeats 4000000 in
theorem span_no (f : Fd) (h : ¬ f.Right) (w : World) : Calls Try.prog 35 #[.agg #[.int .i64 f.id, .int .i64 f.kind, .int .i64 f.lo, .int .i64 f.hi, .int .i64 f.most]] w (SpanNo w) := by
  have HB := hid (belowF f w)
  obtain ⟨i, k, lo, hi, m⟩ := f
  replace h := Fd.wrong h
  simp only at h HB ⊢
  unfold SpanNo
  by_cases a0 : (0 ≤ i ∧ i ≤ 255)
  · have h : _ := Or.resolve_left h (by omega)
    obtain ⟨⟨h1, h2⟩, h⟩ := h
    have g1 : i ≥ 0 := h1
    clear a0
    rcases h with ⟨rfl, h⟩ | ⟨rfl, h⟩ | ⟨rfl, h⟩ | ⟨rfl, h⟩ | ⟨n1, n2, n3, n4⟩
    · by_cases c1 : lo ≥ -1099511627776
      · by_cases c2 : hi ≤ 1099511627776
        · by_cases c3 : lo ≤ hi
          · have hd : (m == 0) = false := by rw [beq_eq_false_iff_ne]; omega
            clear h
            go_enter Try.func35, Try.ntmps35
            go_wp2
            go_quiet (fail)
            go_wp2
            refine bodyPost_ret (results_tmp4 rfl _ _ _) rfl ?_
            exact ⟨⟨_, _, _, rfl⟩, HB.out _ (below_drewN (Below.refl _ _) _)⟩
          · have hd : decide (lo ≤ hi) = false := decide_eq_false c3
            clear h c3
            go_enter Try.func35, Try.ntmps35
            go_wp2
            go_quiet (fail)
            go_wp2
            refine bodyPost_ret (results_tmp4 rfl _ _ _) rfl ?_
            exact ⟨⟨_, _, _, rfl⟩, HB.out _ (below_drewN (Below.refl _ _) _)⟩
        · have hd : decide (hi ≤ 1099511627776) = false := decide_eq_false c2
          clear h c2
          go_enter Try.func35, Try.ntmps35
          go_wp2
          go_quiet (fail)
          go_wp2
          refine bodyPost_ret (results_tmp4 rfl _ _ _) rfl ?_
          exact ⟨⟨_, _, _, rfl⟩, HB.out _ (below_drewN (Below.refl _ _) _)⟩
      · have hd : decide (lo ≥ -1099511627776) = false := decide_eq_false c1
        clear h c1
        go_enter Try.func35, Try.ntmps35
        go_wp2
        go_quiet (fail)
        go_wp2
        refine bodyPost_ret (results_tmp4 rfl _ _ _) rfl ?_
        exact ⟨⟨_, _, _, rfl⟩, HB.out _ (below_drewN (Below.refl _ _) _)⟩
    · by_cases c1 : lo = 0
      · by_cases c2 : hi = 0
        · subst c1 c2
          have hd : (m == 0) = false := by rw [beq_eq_false_iff_ne]; omega
          clear h
          go_enter Try.func35, Try.ntmps35
          go_wp2
          go_quiet (fail)
          go_wp2
          refine bodyPost_ret (results_tmp4 rfl _ _ _) rfl ?_
          exact ⟨⟨_, _, _, rfl⟩, HB.out _ (below_drewN (Below.refl _ _) _)⟩
        · subst c1
          have hd : (hi == 0) = false := by rw [beq_eq_false_iff_ne]; omega
          clear h c2
          go_enter Try.func35, Try.ntmps35
          go_wp2
          go_quiet (fail)
          go_wp2
          refine bodyPost_ret (results_tmp4 rfl _ _ _) rfl ?_
          exact ⟨⟨_, _, _, rfl⟩, HB.out _ (below_drewN (Below.refl _ _) _)⟩
      · have hd : (lo == 0) = false := by rw [beq_eq_false_iff_ne]; omega
        clear h c1
        go_enter Try.func35, Try.ntmps35
        go_wp2
        go_quiet (fail)
        go_wp2
        refine bodyPost_ret (results_tmp4 rfl _ _ _) rfl ?_
        exact ⟨⟨_, _, _, rfl⟩, HB.out _ (below_drewN (Below.refl _ _) _)⟩
    · by_cases c1 : lo = 0
      · by_cases c2 : hi = 0
        · subst c1 c2
          by_cases c3 : m ≥ 1
          · have hd : decide (m ≤ 1000) = false := decide_eq_false (by omega)
            clear h
            go_enter Try.func35, Try.ntmps35
            go_wp2
            go_quiet (fail)
            go_wp2
            refine bodyPost_ret (results_tmp4 rfl _ _ _) rfl ?_
            exact ⟨⟨_, _, _, rfl⟩, HB.out _ (below_drewN (Below.refl _ _) _)⟩
          · have hd : decide (m ≥ 1) = false := decide_eq_false c3
            clear h c3
            go_enter Try.func35, Try.ntmps35
            go_wp2
            go_quiet (fail)
            go_wp2
            refine bodyPost_ret (results_tmp4 rfl _ _ _) rfl ?_
            exact ⟨⟨_, _, _, rfl⟩, HB.out _ (below_drewN (Below.refl _ _) _)⟩
        · subst c1
          have hd : (hi == 0) = false := by rw [beq_eq_false_iff_ne]; omega
          clear h c2
          go_enter Try.func35, Try.ntmps35
          go_wp2
          go_quiet (fail)
          go_wp2
          refine bodyPost_ret (results_tmp4 rfl _ _ _) rfl ?_
          exact ⟨⟨_, _, _, rfl⟩, HB.out _ (below_drewN (Below.refl _ _) _)⟩
      · have hd : (lo == 0) = false := by rw [beq_eq_false_iff_ne]; omega
        clear h c1
        go_enter Try.func35, Try.ntmps35
        go_wp2
        go_quiet (fail)
        go_wp2
        refine bodyPost_ret (results_tmp4 rfl _ _ _) rfl ?_
        exact ⟨⟨_, _, _, rfl⟩, HB.out _ (below_drewN (Below.refl _ _) _)⟩
    · by_cases c1 : lo = 0
      · by_cases c2 : hi = 0
        · subst c1 c2
          by_cases c3 : m ≥ 0
          · have hd : decide (m ≤ 32) = false := decide_eq_false (by omega)
            clear h
            go_enter Try.func35, Try.ntmps35
            go_wp2
            go_quiet (fail)
            go_wp2
            refine bodyPost_ret (results_tmp4 rfl _ _ _) rfl ?_
            exact ⟨⟨_, _, _, rfl⟩, HB.out _ (below_drewN (Below.refl _ _) _)⟩
          · have hd : decide (m ≥ 0) = false := decide_eq_false c3
            clear h c3
            go_enter Try.func35, Try.ntmps35
            go_wp2
            go_quiet (fail)
            go_wp2
            refine bodyPost_ret (results_tmp4 rfl _ _ _) rfl ?_
            exact ⟨⟨_, _, _, rfl⟩, HB.out _ (below_drewN (Below.refl _ _) _)⟩
        · subst c1
          have hd : (hi == 0) = false := by rw [beq_eq_false_iff_ne]; omega
          clear h c2
          go_enter Try.func35, Try.ntmps35
          go_wp2
          go_quiet (fail)
          go_wp2
          refine bodyPost_ret (results_tmp4 rfl _ _ _) rfl ?_
          exact ⟨⟨_, _, _, rfl⟩, HB.out _ (below_drewN (Below.refl _ _) _)⟩
      · have hd : (lo == 0) = false := by rw [beq_eq_false_iff_ne]; omega
        clear h c1
        go_enter Try.func35, Try.ntmps35
        go_wp2
        go_quiet (fail)
        go_wp2
        refine bodyPost_ret (results_tmp4 rfl _ _ _) rfl ?_
        exact ⟨⟨_, _, _, rfl⟩, HB.out _ (below_drewN (Below.refl _ _) _)⟩
    · have e1 : (k == 1) = false := by rw [beq_eq_false_iff_ne]; exact n1
      have e2 : (k == 2) = false := by rw [beq_eq_false_iff_ne]; exact n2
      have e3 : (k == 3) = false := by rw [beq_eq_false_iff_ne]; exact n3
      have e4 : (k == 4) = false := by rw [beq_eq_false_iff_ne]; exact n4
      clear n1 n2 n3 n4
      go_enter Try.func35, Try.ntmps35
      go_wp2
      go_wp2
      refine bodyPost_ret (results_tmp4 rfl _ _ _) rfl ?_
      exact ⟨⟨_, _, _, rfl⟩, HB.out _ (Below.refl _ _)⟩
  · clear h
    by_cases a1 : i ≥ 0
    · have hd : decide (i ≤ 255) = false := decide_eq_false (by omega)
      clear a0
      by_cases k1 : k = 1
      · subst k1
        go_enter Try.func35, Try.ntmps35
        go_wp2
        go_quiet (fail)
        go_wp2
        refine bodyPost_ret (results_tmp4 rfl _ _ _) rfl ?_
        exact ⟨⟨_, _, _, rfl⟩, HB.out _ (below_drewN (Below.refl _ _) _)⟩
      · by_cases k2 : k = 2
        · subst k2
          go_enter Try.func35, Try.ntmps35
          go_wp2
          go_quiet (fail)
          go_wp2
          refine bodyPost_ret (results_tmp4 rfl _ _ _) rfl ?_
          exact ⟨⟨_, _, _, rfl⟩, HB.out _ (below_drewN (Below.refl _ _) _)⟩
        · by_cases k3 : k = 3
          · subst k3
            go_enter Try.func35, Try.ntmps35
            go_wp2
            go_quiet (fail)
            go_wp2
            refine bodyPost_ret (results_tmp4 rfl _ _ _) rfl ?_
            exact ⟨⟨_, _, _, rfl⟩, HB.out _ (below_drewN (Below.refl _ _) _)⟩
          · by_cases k4 : k = 4
            · subst k4
              go_enter Try.func35, Try.ntmps35
              go_wp2
              go_quiet (fail)
              go_wp2
              refine bodyPost_ret (results_tmp4 rfl _ _ _) rfl ?_
              exact ⟨⟨_, _, _, rfl⟩, HB.out _ (below_drewN (Below.refl _ _) _)⟩
            · have e1 : (k == 1) = false := by rw [beq_eq_false_iff_ne]; exact k1
              have e2 : (k == 2) = false := by rw [beq_eq_false_iff_ne]; exact k2
              have e3 : (k == 3) = false := by rw [beq_eq_false_iff_ne]; exact k3
              have e4 : (k == 4) = false := by rw [beq_eq_false_iff_ne]; exact k4
              clear k1 k2 k3 k4
              go_enter Try.func35, Try.ntmps35
              go_wp2
              go_wp2
              refine bodyPost_ret (results_tmp4 rfl _ _ _) rfl ?_
              exact ⟨⟨_, _, _, rfl⟩, HB.out _ (Below.refl _ _)⟩
    · have hd : decide (i ≥ 0) = false := decide_eq_false a1
      clear a0 a1
      by_cases k1 : k = 1
      · subst k1
        go_enter Try.func35, Try.ntmps35
        go_wp2
        go_quiet (fail)
        go_wp2
        refine bodyPost_ret (results_tmp4 rfl _ _ _) rfl ?_
        exact ⟨⟨_, _, _, rfl⟩, HB.out _ (below_drewN (Below.refl _ _) _)⟩
      · by_cases k2 : k = 2
        · subst k2
          go_enter Try.func35, Try.ntmps35
          go_wp2
          go_quiet (fail)
          go_wp2
          refine bodyPost_ret (results_tmp4 rfl _ _ _) rfl ?_
          exact ⟨⟨_, _, _, rfl⟩, HB.out _ (below_drewN (Below.refl _ _) _)⟩
        · by_cases k3 : k = 3
          · subst k3
            go_enter Try.func35, Try.ntmps35
            go_wp2
            go_quiet (fail)
            go_wp2
            refine bodyPost_ret (results_tmp4 rfl _ _ _) rfl ?_
            exact ⟨⟨_, _, _, rfl⟩, HB.out _ (below_drewN (Below.refl _ _) _)⟩
          · by_cases k4 : k = 4
            · subst k4
              go_enter Try.func35, Try.ntmps35
              go_wp2
              go_quiet (fail)
              go_wp2
              refine bodyPost_ret (results_tmp4 rfl _ _ _) rfl ?_
              exact ⟨⟨_, _, _, rfl⟩, HB.out _ (below_drewN (Below.refl _ _) _)⟩
            · have e1 : (k == 1) = false := by rw [beq_eq_false_iff_ne]; exact k1
              have e2 : (k == 2) = false := by rw [beq_eq_false_iff_ne]; exact k2
              have e3 : (k == 3) = false := by rw [beq_eq_false_iff_ne]; exact k3
              have e4 : (k == 4) = false := by rw [beq_eq_false_iff_ne]; exact k4
              clear k1 k2 k3 k4
              go_enter Try.func35, Try.ntmps35
              go_wp2
              go_wp2
              refine bodyPost_ret (results_tmp4 rfl _ _ _) rfl ?_
              exact ⟨⟨_, _, _, rfl⟩, HB.out _ (Below.refl _ _)⟩
end Go.Proofs.Ytegeeobfamjjpaa.field
/- Contract of the reference's Span, seen from an elder world. No condition. -/
namespace Go.Proofs.Ytegeeobfamjjpaa.field
open Go.RowKit
set_option linter.unusedVariables false

theorem span_from (f : Fd) (h : f.Right) {w0 w : World} (hb : Below w0.heap.size w0 w) : Calls Try.prog 35 #[.agg #[.int .i64 f.id, .int .i64 f.kind, .int .i64 f.lo, .int .i64 f.hi, .int .i64 f.most]] w fun e w' => e = .returned (.tuple #[.int .i64 f.lo, .int .i64 f.great, .int .i64 f.long, .bool true]) ∧ Below w0.heap.size w0 w' :=
  (span_yes f h w).mono fun _ _ ⟨he, hw⟩ => ⟨he, hb.trans (hw.mono hb.size)⟩
theorem span_from_no (f : Fd) (h : ¬ f.Right) {w0 w : World} (hb : Below w0.heap.size w0 w) : Calls Try.prog 35 #[.agg #[.int .i64 f.id, .int .i64 f.kind, .int .i64 f.lo, .int .i64 f.hi, .int .i64 f.most]] w fun e w' => (∃ a b c : Int, e = .returned (.tuple #[.int .i64 a, .int .i64 b, .int .i64 c, .bool false])) ∧ Below w0.heap.size w0 w' :=
  (span_no f h w).mono fun _ _ ⟨he, hw⟩ => ⟨he, hb.trans (hw.mono hb.size)⟩
end Go.Proofs.Ytegeeobfamjjpaa.field
/- Contracts of the reference's Right, wide, Size of layer 12 (field). No condition. -/
namespace Go.Proofs.Ytegeeobfamjjpaa.field
open Go.RowKit
set_option linter.unusedVariables false

theorem refRight_any (f : Fd) (w : World) : Calls Try.prog 20 #[.agg #[.int .i64 f.id, .int .i64 f.kind, .int .i64 f.lo, .int .i64 f.hi, .int .i64 f.most]] w (Gives (.bool (decide f.Right)) w) := by
  have HB := hid (belowF f w)
  unfold Gives
  by_cases h : f.Right
  · rw [decide_eq_true h]
    have cs := span_from f h (w0 := (w.alloc (.cells #[.int .i64 f.id, .int .i64 f.kind, .int .i64 f.lo, .int .i64 f.hi, .int .i64 f.most] 46))) (Below.refl _ _)
    clear h
    generalize f.great = G at *
    generalize f.long = L at *
    go_enter Try.func20, Try.ntmps20
    go_wp2_with (go_at_call 35; (with_reducible refine cs.mono ?_); rintro e w1 ⟨rfl, hb1⟩)
    go_ret
    exact ⟨rfl, HB.out _ hb1⟩
  · rw [decide_eq_false h]
    have cs := span_from_no f h (w0 := (w.alloc (.cells #[.int .i64 f.id, .int .i64 f.kind, .int .i64 f.lo, .int .i64 f.hi, .int .i64 f.most] 46))) (Below.refl _ _)
    clear h
    go_enter Try.func20, Try.ntmps20
    go_wp2_with (go_at_call 35; (with_reducible refine cs.mono ?_); rintro e w1 ⟨⟨a, b, c, rfl⟩, hb1⟩)
    go_ret
    exact ⟨rfl, HB.out _ hb1⟩
theorem refWide_any (n : Nat) (hn : n < 281474976710656) (w : World) : Calls Try.prog 49 #[.int .i64 (n : Int)] w (Quiet (.int .i64 (wide n : Int)) w) := by
  go_enter Try.func49, Try.ntmps49
  go_wp2
  go_loopw [0, 3] (fun m k wr => ∃ (q j : Nat), m = .int .i64 (q : Int) ∧ k = .int .i64 (j : Int) ∧ q ≤ n ∧ j ≤ 100 ∧ Hid (j + wide q = wide n) ∧ w = wr) (fun m k wr => (intOf m).toNat)
  case atStart => exact ⟨n, 0, rfl, rfl, Nat.le_refl _, by omega, hid (by omega), rfl⟩
  case round =>
    obtain ⟨q, j, rfl, rfl, hq, hj, hw, rfl⟩ := hrel
    by_cases hlt : 0 < q
    · have hd := wide_div hlt (by omega)
      have hw6 := wide_le n
      have := hw.out
      have hj6 : j < 7 := by omega
      have HN : Hid (j + 1 + wide (q / 256) = wide n) := hid (by omega)
      clear hw hd this
      go_wp2
      go_round
      · exact ⟨q / 256, j + 1, by simp, by simp, by omega, by omega, HN, trivial⟩
      · simp [intOf]; omega
    · obtain rfl : q = 0 := by omega
      have hj2 := hw.out
      rw [show wide 0 = 0 from rfl] at hj2
      obtain rfl : j = wide n := by omega
      clear hw hj2 hlt
      generalize wide n = W at *
      go_wp2
      go_ret
      exact ⟨rfl, 0, rfl⟩
theorem refSize_any (f : Fd) (w : World) : Calls Try.prog 34 #[.agg #[.int .i64 f.id, .int .i64 f.kind, .int .i64 f.lo, .int .i64 f.hi, .int .i64 f.most]] w (Gives (.int .i64 (f.size : Int)) w) := by
  have HB := hid (belowF f w)
  have HS := hid (five f w)
  have hsz : f.size = if f.Right then (if f.kind = 4 then 1 + f.most.toNat else wide (f.great - f.lo).toNat) else 0 := rfl
  rw [hsz]
  unfold Gives
  by_cases hr : f.Right
  · rw [if_pos hr]
    have cs := span_from f hr (w0 := (w.alloc (.cells #[.int .i64 f.id, .int .i64 f.kind, .int .i64 f.lo, .int .i64 f.hi, .int .i64 f.most] 46))) (Below.refl _ _)
    have hsp := hr.span
    by_cases h4 : f.kind = 4
    · rw [if_pos h4]
      have hl : f.long = f.most := by unfold Fd.long; rw [if_pos h4]
      rw [hl] at cs
      have hm : 0 ≤ f.most ∧ f.most ≤ 32 := by unfold Fd.Right at hr; omega
      obtain ⟨M, hM⟩ := Int.eq_ofNat_of_zero_le hm.1
      rw [hM] at cs HB HS ⊢
      rw [show ((M : Int)).toNat = M from rfl]
      have m2 : M ≤ 32 := by omega
      have e4 : (f.kind == 4) = true := by rw [beq_iff_eq]; exact h4
      clear hl hm hsp hr hsz h4
      generalize f.great = G at *
      go_enter Try.func34, Try.ntmps34
      go_wp2_with (go_at_call 35; go_loud ((with_reducible refine cs.mono ?_); rintro e w1 ⟨rfl, hb1⟩; have hk1 := HS.out _ hb1))
      go_ret
      exact ⟨ret_int (by omega), HB.out _ hb1⟩
    · rw [if_neg h4]
      obtain ⟨T, hT⟩ : ∃ T : Nat, f.great - f.lo = (T : Int) := ⟨(f.great - f.lo).toNat, by omega⟩
      have hTb : T ≤ 2199023255552 := by omega
      rw [hT]
      rw [show ((T : Int)).toNat = T from rfl]
      have cw := refWide_any T (by omega)
      have e4 : (f.kind == 4) = false := by rw [beq_eq_false_iff_ne]; exact h4
      have s1 := hsp.2.2.1
      have s2 := hsp.2.2.2.1
      clear hsp hr hsz h4
      generalize f.great = G at *
      generalize f.long = L at *
      obtain rfl : G = f.lo + (T : Int) := by omega
      clear hT
      have hsub : f.lo + (T : Int) - f.lo = (T : Int) := by omega
      go_enter Try.func34, Try.ntmps34
      go_wp2_with (first
        | (go_at_call 35; (with_reducible refine cs.mono ?_); rintro e w1 ⟨rfl, hb1⟩; have hk1 := HS.out _ hb1)
        | (go_at_call 49; (try rw [hsub]); (with_reducible refine (cw _).mono ?_); rintro e w2 ⟨rfl, nd, rfl⟩))
      go_ret
      exact ⟨rfl, HB.out _ (below_drewN hb1 _)⟩
  · rw [if_neg hr]
    have cs := span_from_no f hr (w0 := (w.alloc (.cells #[.int .i64 f.id, .int .i64 f.kind, .int .i64 f.lo, .int .i64 f.hi, .int .i64 f.most] 46))) (Below.refl _ _)
    clear hr hsz
    go_enter Try.func34, Try.ntmps34
    go_wp2_with (go_at_call 35; (with_reducible refine cs.mono ?_); rintro e w1 ⟨⟨a, b, c, rfl⟩, hb1⟩; have hk1 := HS.out _ hb1)
    go_ret
    exact ⟨rfl, HB.out _ hb1⟩
end Go.Proofs.Ytegeeobfamjjpaa.field
