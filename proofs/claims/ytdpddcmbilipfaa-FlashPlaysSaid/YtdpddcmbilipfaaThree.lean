/- A region whose order is open: a row that is made (0), a call that reads it and makes memory (4), and another row (7), which may come up at any time. Whatever the order, behind the three the state is the same but for where the rows lie. No condition. -/
import Derived.Test.YtdpddcmbilipfaaFour
namespace Go.Proofs.Ytdpddcmbilipfaa.plan
open Go Go.RowKit
set_option linter.unusedVariables false

section
variable {P : Program} {md : Region.Mode} {Q : Exit → Act → World → Prop} {l : List Oper}

/-- the frame, with the three results -/
def at3 (a0 : Act) (d0 d4 d7 : Nat) (v0 v4 v7 : Value) : Act := ((a0.put (some d0) v0).put (some d4) v4).put (some d7) v7

theorem three (a0 : Act) (w0 : World) (i0 i4 i7 d0 d4 d7 f : Nat) (n04 : d0 ≠ d4) (n07 : d0 ≠ d7) (n47 : d4 ≠ d7) (o0 o4 o7 : Oper) (L : Bool → Bool → Bool → Array Bool)
    (l0 : l[i0]? = some o0) (l4 : l[i4]? = some o4) (l7 : l[i7]? = some o7) (g0 : o0.guard = none) (g4 : o4.guard = none) (g7 : o7.guard = none) (s0 : o0.dst = some d0) (s4 : o4.dst = some d4) (s7 : o7.dst = some d7)
    (e0 : ∀ b4 b7, (L false b4 b7).setIfInBounds i0 true = L true b4 b7) (e4 : ∀ b7, (L true false b7).setIfInBounds i4 true = L true true b7) (e7 : ∀ b0 b4, (L b0 b4 false).setIfInBounds i7 true = L b0 b4 true)
    (q1 : Region.ready md l.toArray (L false false false) = [i0, i7]) (q2 : Region.ready md l.toArray (L true false false) = [i4, i7]) (q3 : Region.ready md l.toArray (L false false true) = [i0])
    (q4 : Region.ready md l.toArray (L true false true) = [i4]) (q5 : Region.ready md l.toArray (L true true false) = [i7])
    (V0 V4 V7 : Nat → Value) (R0 R4 R7 : Nat → World → Prop) (F : FuncId) (x4 : Nat → Array Value)
    (t0 : ∀ g w w', R0 g w → Below w.heap.size w w' → R0 g w') (t4 : ∀ g w w', R4 g w → Below w.heap.size w w' → R4 g w') (t7 : ∀ g w w', R7 g w → Below w.heap.size w w' → R7 g w')
    (lt4 : ∀ g w, R4 g w → g < w.heap.size) (lt7 : ∀ g w, R7 g w → g < w.heap.size)
    (r0 : ∀ v0 v4 v7 w, ∃ w', (execOp (at3 a0 d0 d4 d7 v0 v4 v7).eval o0).run P w = .ok (.value (V0 w.heap.size)) w' ∧ Below w.heap.size w w' ∧ R0 w.heap.size w')
    (r7 : ∀ v0 v4 v7 w, ∃ w', (execOp (at3 a0 d0 d4 d7 v0 v4 v7).eval o7).run P w = .ok (.value (V7 w.heap.size)) w' ∧ Below w.heap.size w w' ∧ R7 w.heap.size w')
    (r4 : ∀ g v4 v7 w, (execOp (at3 a0 d0 d4 d7 (V0 g) v4 v7).eval o4).run P w = .ok (.enter F (x4 g)) w)
    (k4 : ∀ g w, R0 g w → Calls P F (x4 g) w fun e w' => ∃ g', e = .returned (V4 g') ∧ w.heap.size ≤ g' ∧ R4 g' w' ∧ Below w.heap.size w w')
    (rest : ∀ g g' g'' w', w0.heap.size ≤ g' → w0.heap.size ≤ g'' → g' ≠ g'' → R4 g' w' → R7 g'' w' → Below w0.heap.size w0 w' →
      wpAnyH P md l.toArray (NoPanic Q) (Below w0.heap.size w0) f (L true true true) (at3 a0 d0 d4 d7 (V0 g) (V4 g') (V7 g'')) w')
    (u0 u4 u7 : Value) :
    wpAnyH P md l.toArray (NoPanic Q) (Below w0.heap.size w0) (f + 3) (L false false false) (at3 a0 d0 d4 d7 u0 u4 u7) w0 := by
  have p0 : ∀ v0 v4 v7 v, (at3 a0 d0 d4 d7 v0 v4 v7).put (some d0) v = at3 a0 d0 d4 d7 v v4 v7 := by
    intro v0 v4 v7 v
    unfold at3
    rw [put_comm _ d7 d0 _ _ n07.symm, put_comm _ d4 d0 _ _ n04.symm, put_same]
  have p4 : ∀ v0 v4 v7 v, (at3 a0 d0 d4 d7 v0 v4 v7).put (some d4) v = at3 a0 d0 d4 d7 v0 v v7 := by
    intro v0 v4 v7 v
    unfold at3
    rw [put_comm _ d7 d4 _ _ n47.symm, put_same]
  have p7 : ∀ v0 v4 v7 v, (at3 a0 d0 d4 d7 v0 v4 v7).put (some d7) v = at3 a0 d0 d4 d7 v0 v4 v := by
    intro v0 v4 v7 v
    unfold at3
    rw [put_same]
  refine every (by rw [q1]; simp) fun i hi => ?_
  rw [q1] at hi
  rcases List.mem_cons.1 hi with rfl | hi
  · obtain ⟨w1, h1, b1, z1⟩ := r0 u0 u4 u7 w0
    refine ⟨o0, l0, g0, .inl ⟨_, w1, h1, b1, ?_⟩⟩
    rw [e0, s0, p0]
    refine every (by rw [q2]; simp) fun i hi => ?_
    rw [q2] at hi
    rcases List.mem_cons.1 hi with rfl | hi
    · refine ⟨o4, l4, g4, .inr ⟨F, _, r4 _ _ _ _, (k4 _ w1 z1).mono ?_⟩⟩
      rintro e w2 ⟨g', rfl, hg', hR, b2⟩
      have B2 := b1.trans (b2.mono b1.size)
      refine ⟨_, rfl, B2, ?_⟩
      rw [e4, s4, p4]
      refine every (by rw [q5]; simp) fun i hi => ?_
      rw [q5] at hi
      obtain rfl : i = i7 := by simpa using hi
      obtain ⟨w3, h3, b3, z3⟩ := r7 (V0 w0.heap.size) (V4 g') u7 w2
      have B3 := B2.trans (b3.mono B2.size)
      refine ⟨o7, l7, g7, .inl ⟨_, w3, h3, B3, ?_⟩⟩
      rw [e7, s7, p7]
      have := lt4 _ _ hR
      have := b1.size
      exact rest _ _ _ _ (by omega) B2.size (by omega) (t4 _ _ _ hR b3) z3 B3
    · obtain rfl : i = i7 := by simpa using hi
      obtain ⟨w2, h2, b2, z2⟩ := r7 (V0 w0.heap.size) u4 u7 w1
      have B2 := b1.trans (b2.mono b1.size)
      refine ⟨o7, l7, g7, .inl ⟨_, w2, h2, B2, ?_⟩⟩
      rw [e7, s7, p7]
      refine every (by rw [q4]; simp) fun i hi => ?_
      rw [q4] at hi
      obtain rfl : i = i4 := by simpa using hi
      refine ⟨o4, l4, g4, .inr ⟨F, _, r4 _ _ _ _, (k4 _ w2 (t0 _ _ _ z1 b2)).mono ?_⟩⟩
      rintro e w3 ⟨g', rfl, hg', hR, b3⟩
      have B3 := B2.trans (b3.mono B2.size)
      refine ⟨_, rfl, B3, ?_⟩
      rw [e4, s4, p4]
      have := lt7 _ _ z2
      exact rest _ _ _ _ (by have := B2.size; omega) b1.size (by omega) hR (t7 _ _ _ z2 b3) B3
  · obtain rfl : i = i7 := by simpa using hi
    obtain ⟨w1, h1, b1, z1⟩ := r7 u0 u4 u7 w0
    refine ⟨o7, l7, g7, .inl ⟨_, w1, h1, b1, ?_⟩⟩
    rw [e7, s7, p7]
    refine every (by rw [q3]; simp) fun i hi => ?_
    rw [q3] at hi
    obtain rfl : i = i0 := by simpa using hi
    obtain ⟨w2, h2, b2, z2⟩ := r0 u0 u4 (V7 w0.heap.size) w1
    have B2 := b1.trans (b2.mono b1.size)
    refine ⟨o0, l0, g0, .inl ⟨_, w2, h2, B2, ?_⟩⟩
    rw [e0, s0, p0]
    refine every (by rw [q4]; simp) fun i hi => ?_
    rw [q4] at hi
    obtain rfl : i = i4 := by simpa using hi
    refine ⟨o4, l4, g4, .inr ⟨F, _, r4 _ _ _ _, (k4 _ w2 z2).mono ?_⟩⟩
    rintro e w3 ⟨g', rfl, hg', hR, b3⟩
    have B3 := B2.trans (b3.mono B2.size)
    refine ⟨_, rfl, B3, ?_⟩
    rw [e4, s4, p4]
    have := lt7 _ _ z1
    exact rest _ _ _ _ (by have := B2.size; omega) (Nat.le_refl _) (by have := b2.size; omega) hR (t7 _ _ _ z1 (b2.trans (b3.mono b2.size))) B3
theorem one {S : World → Prop} {f : Nat} {listed : Array Bool} {a : Act} {w w1 : World} (i : Nat) (o : Oper) (v : Value) (hi : l[i]? = some o) (hg : o.guard = none) (hr : Region.ready md l.toArray listed = [i])
    (hv : (execOp a.eval o).run P w = .ok (.value v) w1) (hS : S w1) (h : wpAnyH P md l.toArray (NoPanic Q) S f (listed.setIfInBounds i true) (a.put o.dst v) w1) : wpAnyH P md l.toArray (NoPanic Q) S (f + 1) listed a w := by
  refine every (by rw [hr]; simp) fun j hj => ?_
  rw [hr] at hj
  obtain rfl : j = i := by simpa using hj
  exact ⟨o, hi, hg, .inl ⟨v, w1, hv, hS, h⟩⟩
theorem Rest.to3 {n : Nat} {listed : Array Bool} {a : Act} {w : World} (d0 d4 d7 f : Nat) (L : Bool → Bool → Bool → Array Bool) (hf : n = f + 3) (hl : listed = L false false false) (ha : at3 a d0 d4 d7 undef undef undef = a)
    (h : wpAnyH P md l.toArray (NoPanic Q) (Below w.heap.size w) (f + 3) (L false false false) (at3 a d0 d4 d7 undef undef undef) w) : Rest P md l Q n listed a w := by
  subst hf hl
  rw [ha] at h
  exact h
end
end Go.Proofs.Ytdpddcmbilipfaa.plan
