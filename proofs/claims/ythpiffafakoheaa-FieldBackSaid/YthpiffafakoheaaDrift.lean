/- A region whose order is open: a row that is made (1), the row turned (2), a call that reads it (C), one behind the other, and a new variable (B) that may come up at any time. Whatever the order, behind the four the state is the same but for where the variable lies. No condition. -/
import Derived.Test.YthpiffafakoheaaFour
namespace Go.Proofs.Ythpiffafakoheaa.plan
open Go Go.RowKit
set_option linter.unusedVariables false

section
variable {P : Program} {md : Region.Mode} {Q : Exit → Act → World → Prop} {l : List Oper}

/-- an operation that looks at no memory is taken first -/
theorem freeS {S : World → Prop} {f : Nat} {listed : Array Bool} {a : Act} {w : World} (i : Nat) (o : Oper) (v : Value) (hi : l[i]? = some o) (hs : Region.noSelect l.toArray = true) (hf : Region.free md l.toArray listed i = true)
    (hr : (Region.ready md l.toArray listed).contains i = true) (hw : Region.wanted o (yielded l.toArray a.tmps) = true) (hv : ∀ w', (execOp a.eval o).run P w' = .ok (.value v) w') (hS : S w)
    (h : wpAnyH P md l.toArray (NoPanic Q) S f (listed.setIfInBounds i true) (a.put o.dst v) w) : wpAnyH P md l.toArray (NoPanic Q) S (f + 1) listed a w :=
  wpAnyH_take (by simpa using hi) hs hf hr (fun c a' w' h => h) (.inl ⟨hw, fun w' _ => hv w'⟩) hS h
/-- the only operation that may come up yields a value -/
theorem oneS {S : World → Prop} {f : Nat} {listed : Array Bool} {a : Act} {w w1 : World} (i : Nat) (o : Oper) (v : Value) (hi : l[i]? = some o) (hg : o.guard = none) (hr : Region.ready md l.toArray listed = [i])
    (hv : (execOp a.eval o).run P w = .ok (.value v) w1) (hS : S w1) (h : wpAnyH P md l.toArray (NoPanic Q) S f (listed.setIfInBounds i true) (a.put o.dst v) w1) : wpAnyH P md l.toArray (NoPanic Q) S (f + 1) listed a w := by
  refine every (by rw [hr]; simp) fun j hj => ?_
  rw [hr] at hj
  obtain rfl : j = i := by simpa using hj
  exact ⟨o, hi, hg, .inl ⟨v, w1, hv, hS, h⟩⟩
theorem doneS {S : World → Prop} {listed : Array Bool} {a : Act} {w : World} (hr : Region.ready md l.toArray listed = []) (h : Q .normal a w) : wpAnyH P md l.toArray (NoPanic Q) S 0 listed a w := ⟨hr, NoPanic.normal h⟩

theorem toS {S : World → Prop} {n : Nat} {listed : Array Bool} {a : Act} {w : World} (dA eA dB eB f : Nat) (L : Bool → Bool → Bool → Bool → Array Bool) (hf : n = f + 4) (hl : listed = L false false false false) (ha : at4 a dA eA dB eB undef undef undef undef = a)
    (h : wpAnyH P md l.toArray (NoPanic Q) S (f + 4) (L false false false false) (at4 a dA eA dB eB undef undef undef undef) w) : wpAnyH P md l.toArray (NoPanic Q) S n listed a w := by
  subst hf hl
  rw [ha] at h
  exact h
theorem drift (a0 : Act) (w0 : World) (i1 i2 iC iB d1 d2 dC dB f : Nat) (n1 : d1 ≠ d2) (n2 : d1 ≠ dC) (n3 : d1 ≠ dB) (n4 : d2 ≠ dC) (n5 : d2 ≠ dB) (n6 : dC ≠ dB) (o1 o2 oC oB : Oper) (L : Bool → Bool → Bool → Bool → Array Bool)
    (l1 : l[i1]? = some o1) (l2 : l[i2]? = some o2) (lC : l[iC]? = some oC) (lB : l[iB]? = some oB) (g1 : o1.guard = none) (g2 : o2.guard = none) (gC : oC.guard = none) (gB : oB.guard = none)
    (s1 : o1.dst = some d1) (s2 : o2.dst = some d2) (sC : oC.dst = some dC) (sB : oB.dst = some dB)
    (e1 : ∀ q r s, (L false q r s).setIfInBounds i1 true = L true q r s) (e2 : ∀ p r s, (L p false r s).setIfInBounds i2 true = L p true r s) (eC : ∀ p q s, (L p q false s).setIfInBounds iC true = L p q true s) (eB : ∀ p q r, (L p q r false).setIfInBounds iB true = L p q r true)
    (q0 : Region.ready md l.toArray (L false false false false) = [i1, iB]) (k0 : Region.ready md l.toArray (L false false false true) = [i1])
    (q1 : Region.ready md l.toArray (L true false false false) = [i2, iB]) (k1 : Region.ready md l.toArray (L true false false true) = [i2])
    (q2 : Region.ready md l.toArray (L true true false false) = [iC, iB]) (k2 : Region.ready md l.toArray (L true true false true) = [iC])
    (R1 R2 RC : Value → World → Prop) (N : Value → Nat → Prop) (t : TypeId) (cs : List Value)
    (r1 : ∀ u v x y w, Below w0.heap.size w0 w → ∃ z w', (execOp (at4 a0 d1 d2 dC dB u v x y).eval o1).run P w = .ok (.value z) w' ∧ Below w.heap.size w w' ∧ R1 z w' ∧ ∀ g, g < w.heap.size → N z g)
    (rB : ∀ u v x y w, (execOp (at4 a0 d1 d2 dC dB u v x y).eval oB).run P w = .ok (.value (.pointer (some ⟨w.heap.size, 0, none⟩))) (w.alloc (.cells cs.toArray t)))
    (t1 : ∀ z w, R1 z w → R1 z (w.alloc (.cells cs.toArray t)) ∧ N z w.heap.size)
    (r2 : ∀ z v x y w, Below w0.heap.size w0 w → R1 z w → ∃ z2 w', (execOp (at4 a0 d1 d2 dC dB z v x y).eval o2).run P w = .ok (.value z2) w' ∧ Below w0.heap.size w0 w' ∧ R2 z2 w' ∧ ∀ g, N z g → Block w g t cs → Block w' g t cs)
    (t2 : ∀ z w, R2 z w → R2 z (w.alloc (.cells cs.toArray t)))
    (rC : ∀ z z2 x y w, Below w0.heap.size w0 w → R2 z2 w → ∃ F args, (execOp (at4 a0 d1 d2 dC dB z z2 x y).eval oC).run P w = .ok (.enter F args) w ∧ Calls P F args w fun e w' => ∃ v, e = .returned v ∧ Below w.heap.size w w' ∧ RC v w')
    (rest : ∀ z z2 v g w', RC v w' → Block w' g t cs → w0.heap.size ≤ g → Below w0.heap.size w0 w' → wpAnyH P md l.toArray (NoPanic Q) (Below w0.heap.size w0) f (L true true true true) (at4 a0 d1 d2 dC dB z z2 v (.pointer (some ⟨g, 0, none⟩))) w')
    (late : ∀ z z2 v y w', RC v w' → Below w0.heap.size w0 w' → wpAnyH P md l.toArray (NoPanic Q) (Below w0.heap.size w0) (f + 1) (L true true true false) (at4 a0 d1 d2 dC dB z z2 v y) w')
    (u v x y : Value) :
    wpAnyH P md l.toArray (NoPanic Q) (Below w0.heap.size w0) (f + 4) (L false false false false) (at4 a0 d1 d2 dC dB u v x y) w0 := by
  have p1 : ∀ u v x y z, (at4 a0 d1 d2 dC dB u v x y).put (some d1) z = at4 a0 d1 d2 dC dB z v x y := by
    intro u v x y z
    unfold at4
    rw [put_comm _ dB d1 _ _ n3.symm, put_comm _ dC d1 _ _ n2.symm, put_comm _ d2 d1 _ _ n1.symm, put_same]
  have p2 : ∀ u v x y z, (at4 a0 d1 d2 dC dB u v x y).put (some d2) z = at4 a0 d1 d2 dC dB u z x y := by
    intro u v x y z
    unfold at4
    rw [put_comm _ dB d2 _ _ n5.symm, put_comm _ dC d2 _ _ n4.symm, put_same]
  have pC : ∀ u v x y z, (at4 a0 d1 d2 dC dB u v x y).put (some dC) z = at4 a0 d1 d2 dC dB u v z y := by
    intro u v x y z
    unfold at4
    rw [put_comm _ dB dC _ _ n6.symm, put_same]
  have pB : ∀ u v x y z, (at4 a0 d1 d2 dC dB u v x y).put (some dB) z = at4 a0 d1 d2 dC dB u v x z := by
    intro u v x y z
    unfold at4
    rw [put_same]
  have st : ∀ {w w' : World}, Below w0.heap.size w0 w → Below w.heap.size w w' → Below w0.heap.size w0 w' := fun h k => h.trans (k.mono h.size)
  have al : ∀ (w : World), Below w.heap.size w (w.alloc (.cells cs.toArray t)) := fun w => (Below.refl _ _).alloc (Nat.le_refl _) _
  -- backwards through the states
  have c3 : ∀ z z2 x g w, R2 z2 w → Block w g t cs → w0.heap.size ≤ g → Below w0.heap.size w0 w → wpAnyH P md l.toArray (NoPanic Q) (Below w0.heap.size w0) (f + 1) (L true true false true) (at4 a0 d1 d2 dC dB z z2 x (.pointer (some ⟨g, 0, none⟩))) w := fun z z2 x g w h2 hB hg hb => by
    refine every (by rw [k2]; simp) fun i hi => ?_
    rw [k2] at hi
    obtain rfl : i = iC := by simpa using hi
    obtain ⟨F, args, hv, hc⟩ := rC z z2 x (.pointer (some ⟨g, 0, none⟩)) w hb h2
    refine ⟨oC, lC, gC, .inr ⟨F, args, hv, hc.mono ?_⟩⟩
    rintro e w' ⟨v, rfl, hb', hR⟩
    refine ⟨v, rfl, st hb hb', ?_⟩
    rw [eC, sC, pC]
    exact rest _ _ _ _ _ hR (hB.later hb') hg (st hb hb')
  have c2 : ∀ z z2 x y w, R2 z2 w → Below w0.heap.size w0 w → wpAnyH P md l.toArray (NoPanic Q) (Below w0.heap.size w0) (f + 2) (L true true false false) (at4 a0 d1 d2 dC dB z z2 x y) w := fun z z2 x y w h2 hb => by
    refine every (by rw [q2]; simp) fun i hi => ?_
    rw [q2] at hi
    rcases List.mem_cons.1 hi with rfl | hi
    · obtain ⟨F, args, hv, hc⟩ := rC z z2 x y w hb h2
      refine ⟨oC, lC, gC, .inr ⟨F, args, hv, hc.mono ?_⟩⟩
      rintro e w' ⟨v, rfl, hb', hR⟩
      refine ⟨v, rfl, st hb hb', ?_⟩
      rw [eC, sC, pC]
      exact late _ _ _ _ _ hR (st hb hb')
    · obtain rfl : i = iB := by simpa using hi
      refine ⟨oB, lB, gB, .inl ⟨_, _, rB z z2 x y w, st hb (al w), ?_⟩⟩
      rw [eB, sB, pB]
      exact c3 _ _ _ _ _ (t2 _ _ h2) (Block.new w t cs) hb.size (st hb (al w))
  have b3 : ∀ z v x g w, R1 z w → N z g → Block w g t cs → w0.heap.size ≤ g → Below w0.heap.size w0 w → wpAnyH P md l.toArray (NoPanic Q) (Below w0.heap.size w0) (f + 2) (L true false false true) (at4 a0 d1 d2 dC dB z v x (.pointer (some ⟨g, 0, none⟩))) w := fun z v x g w h1 hN hB hg hb => by
    obtain ⟨z2, w', hv, hb', h2, hk⟩ := r2 z v x (.pointer (some ⟨g, 0, none⟩)) w hb h1
    refine oneS i2 o2 z2 l2 g2 k1 hv hb' ?_
    rw [e2, s2, p2]
    exact c3 _ _ _ _ _ h2 (hk g hN hB) hg hb'
  have b2 : ∀ z v x y w, R1 z w → Below w0.heap.size w0 w → wpAnyH P md l.toArray (NoPanic Q) (Below w0.heap.size w0) (f + 3) (L true false false false) (at4 a0 d1 d2 dC dB z v x y) w := fun z v x y w h1 hb => by
    refine every (by rw [q1]; simp) fun i hi => ?_
    rw [q1] at hi
    rcases List.mem_cons.1 hi with rfl | hi
    · obtain ⟨z2, w', hv, hb', h2, hk⟩ := r2 z v x y w hb h1
      refine ⟨o2, l2, g2, .inl ⟨z2, w', hv, hb', ?_⟩⟩
      rw [e2, s2, p2]
      exact c2 _ _ _ _ _ h2 hb'
    · obtain rfl : i = iB := by simpa using hi
      refine ⟨oB, lB, gB, .inl ⟨_, _, rB z v x y w, st hb (al w), ?_⟩⟩
      rw [eB, sB, pB]
      exact b3 _ _ _ _ _ (t1 _ _ h1).1 (t1 _ _ h1).2 (Block.new w t cs) hb.size (st hb (al w))
  refine every (by rw [q0]; simp) fun i hi => ?_
  rw [q0] at hi
  rcases List.mem_cons.1 hi with rfl | hi
  · obtain ⟨z, w', hv, hb', h1, hk⟩ := r1 u v x y w0 (Below.refl _ _)
    refine ⟨o1, l1, g1, .inl ⟨z, w', hv, hb', ?_⟩⟩
    rw [e1, s1, p1]
    exact b2 _ _ _ _ _ h1 hb'
  · obtain rfl : i = iB := by simpa using hi
    refine ⟨oB, lB, gB, .inl ⟨_, _, rB u v x y w0, al w0, ?_⟩⟩
    rw [eB, sB, pB]
    obtain ⟨z, w', hv, hb', h1, hk⟩ := r1 u v x (.pointer (some ⟨w0.heap.size, 0, none⟩)) (w0.alloc (.cells cs.toArray t)) (al w0)
    refine oneS i1 o1 z l1 g1 k0 hv (st (al w0) hb') ?_
    rw [e1, s1, p1]
    exact b3 _ _ _ _ _ h1 (hk _ (by simp)) ((Block.new w0 t cs).later hb') (Nat.le_refl _) (st (al w0) hb')
end
end Go.Proofs.Ythpiffafakoheaa.plan
