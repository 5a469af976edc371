/- Lemmas of the claim HJournalKeeps. Each says its own conditions. -/
import Derived.Test.YtphifanacehppaaGreatClHJournalKeepsD
import Derived.Test.YtphifanacehppaaGreatCmB
import Derived.Test.YtphifanacehppaaGreatCmC
import Derived.Maps.AppendAt
/- A region whose order is open: two chains of two operations each: a load (A1) and a row that is made of it (A2); a load (B1) and a row that is made of it (B2). Whatever the order, behind the four the state is the same but for where the rows lie. No condition. -/
namespace Go.Proofs.YtphifanacehppaaGreat.plan
open Go Go.RowKit
set_option linter.unusedVariables false

section
variable {P : Program} {md : Region.Mode} {Q : Exit → Act → World → Prop} {l : List Oper}

/-- an operation that looks at no memory is taken first -/
theorem free {f : Nat} {listed : Array Bool} {a : Act} {w : World} (i : Nat) (o : Oper) (v : Value) (hi : l[i]? = some o) (hs : Region.noSelect l.toArray = true) (hf : Region.free md l.toArray listed i = true)
    (hr : (Region.ready md l.toArray listed).contains i = true) (hw : Region.wanted o (yielded l.toArray a.tmps) = true) (hv : ∀ w', (execOp a.eval o).run P w' = .ok (.value v) w')
    (h : wpAnyH P md l.toArray (NoPanic Q) (fun _ => True) f (listed.setIfInBounds i true) (a.put o.dst v) w) : wpAnyH P md l.toArray (NoPanic Q) (fun _ => True) (f + 1) listed a w :=
  wpAnyH_take (by simpa using hi) hs hf hr (fun c a' w' h => h) (.inl ⟨hw, fun w' _ => hv w'⟩) trivial h
theorem regionT {id : Nat} {a : Act} {w : World} (hmx : P.follows .mixedOrders = true) (h : wpAnyH P .any l.toArray (NoPanic Q) (fun _ => True) l.length (Array.replicate l.length false) a w.drew) : (Code.region id l.toArray true).wp P Q a w := by
  refine wp_region_noPanic (wp_region_held (S := fun _ => True) hmx ?_)
  have e : l.toArray.size = l.length := by simp
  rw [e]
  exact h
/-- the only operation that may come up yields a value -/
theorem oneT {f : Nat} {listed : Array Bool} {a : Act} {w w1 : World} (i : Nat) (o : Oper) (v : Value) (hi : l[i]? = some o) (hg : o.guard = none) (hr : Region.ready md l.toArray listed = [i])
    (hv : (execOp a.eval o).run P w = .ok (.value v) w1) (h : wpAnyH P md l.toArray (NoPanic Q) (fun _ => True) f (listed.setIfInBounds i true) (a.put o.dst v) w1) : wpAnyH P md l.toArray (NoPanic Q) (fun _ => True) (f + 1) listed a w := by
  refine every (by rw [hr]; simp) fun j hj => ?_
  rw [hr] at hj
  obtain rfl : j = i := by simpa using hj
  exact ⟨o, hi, hg, .inl ⟨v, w1, hv, trivial, h⟩⟩
theorem oneE {f : Nat} {listed : Array Bool} {a : Act} {w : World} (i : Nat) (o : Oper) (Pr : Value → World → Prop) (hi : l[i]? = some o) (hg : o.guard = none) (hr : Region.ready md l.toArray listed = [i])
    (hv : ∃ v w1, (execOp a.eval o).run P w = .ok (.value v) w1 ∧ Pr v w1) (h : ∀ v w1, Pr v w1 → wpAnyH P md l.toArray (NoPanic Q) (fun _ => True) f (listed.setIfInBounds i true) (a.put o.dst v) w1) : wpAnyH P md l.toArray (NoPanic Q) (fun _ => True) (f + 1) listed a w := by
  obtain ⟨v, w1, h1, h2⟩ := hv
  exact oneT i o v hi hg hr h1 (h v w1 h2)
/-- the only operation that may come up is a store, the last -/
theorem lastT {listed : Array Bool} {a : Act} {w w1 : World} (i : Nat) (o : Oper) (hi : l[i]? = some o) (hg : o.guard = none) (hd : o.dst = none) (hr : Region.ready md l.toArray listed = [i]) (hr2 : Region.ready md l.toArray (listed.setIfInBounds i true) = [])
    (hv : (execOp a.eval o).run P w = .ok .skip w1) (h : Q .normal a w1) : wpAnyH P md l.toArray (NoPanic Q) (fun _ => True) 1 listed a w := by
  refine wpAnyH_all hr (by simp) fun j hj => ?_
  obtain rfl : j = i := by simpa using hj
  have hi' : l.toArray[j]? = some o := by simpa using hi
  have hw : Region.wanted o (yielded l.toArray a.tmps) = true := by unfold Region.wanted; rw [hg]
  unfold wpOp
  have e : a.put o.dst undef = a := by rw [hd]; rfl
  simp only [hi', hw, if_true, Oper.wp, hv, Oper.upon]
  exact .inl ⟨trivial, hr2, NoPanic.normal (by rw [e]; exact h)⟩
theorem to4 {n : Nat} {listed : Array Bool} {a : Act} {w : World} (dA eA dB eB f : Nat) (L : Bool → Bool → Bool → Bool → Array Bool) (hf : n = f + 4) (hl : listed = L false false false false) (ha : at4 a dA eA dB eB undef undef undef undef = a)
    (h : wpAnyH P md l.toArray (NoPanic Q) (fun _ => True) (f + 4) (L false false false false) (at4 a dA eA dB eB undef undef undef undef) w) : wpAnyH P md l.toArray (NoPanic Q) (fun _ => True) n listed a w := by
  subst hf hl
  rw [ha] at h
  exact h
theorem cross (a0 : Act) (w0 : World) (iA iB jA jB dA eA dB eB f : Nat) (n1 : dA ≠ eA) (n2 : dA ≠ dB) (n3 : dA ≠ eB) (n4 : eA ≠ dB) (n5 : eA ≠ eB) (n6 : dB ≠ eB) (oA pA oB pB : Oper) (L : Bool → Bool → Bool → Bool → Array Bool)
    (lA : l[iA]? = some oA) (mA : l[jA]? = some pA) (lB : l[iB]? = some oB) (mB : l[jB]? = some pB) (gA : oA.guard = none) (hA : pA.guard = none) (gB : oB.guard = none) (hB : pB.guard = none)
    (sA : oA.dst = some dA) (tA : pA.dst = some eA) (sB : oB.dst = some dB) (tB : pB.dst = some eB)
    (cA : ∀ q r s, (L false q r s).setIfInBounds iA true = L true q r s) (zA : ∀ p r s, (L p false r s).setIfInBounds jA true = L p true r s) (cB : ∀ p q s, (L p q false s).setIfInBounds iB true = L p q true s) (zB : ∀ p q r, (L p q r false).setIfInBounds jB true = L p q r true)
    (q00 : Region.ready md l.toArray (L false false false false) = [iA, iB]) (q10 : Region.ready md l.toArray (L true false false false) = [jA, iB]) (q01 : Region.ready md l.toArray (L false false true false) = [iA, jB])
    (q20 : Region.ready md l.toArray (L true true false false) = [iB]) (q11 : Region.ready md l.toArray (L true false true false) = [jA, jB]) (q02 : Region.ready md l.toArray (L false false true true) = [iA])
    (q21 : Region.ready md l.toArray (L true true true false) = [jB]) (q12 : Region.ready md l.toArray (L true false true true) = [jA])
    (VA VB : Value) (RA RB : Value → World → Prop) (kA : ∀ x w w', RA x w → Below w.heap.size w w' → RA x w') (kB : ∀ x w w', RB x w → Below w.heap.size w w' → RB x w')
    (rA : ∀ u v x y w, Below w0.heap.size w0 w → (execOp (at4 a0 dA eA dB eB u v x y).eval oA).run P w = .ok (.value VA) w)
    (rB : ∀ u v x y w, Below w0.heap.size w0 w → (execOp (at4 a0 dA eA dB eB u v x y).eval oB).run P w = .ok (.value VB) w)
    (yA : ∀ v x y w, Below w0.heap.size w0 w → ∃ z w', (execOp (at4 a0 dA eA dB eB VA v x y).eval pA).run P w = .ok (.value z) w' ∧ Below w.heap.size w w' ∧ RA z w')
    (yB : ∀ u v y w, Below w0.heap.size w0 w → ∃ z w', (execOp (at4 a0 dA eA dB eB u v VB y).eval pB).run P w = .ok (.value z) w' ∧ Below w.heap.size w w' ∧ RB z w')
    (rest : ∀ v y w', RA v w' → RB y w' → Below w0.heap.size w0 w' → wpAnyH P md l.toArray (NoPanic Q) (fun _ => True) f (L true true true true) (at4 a0 dA eA dB eB VA v VB y) w')
    (u v x y : Value) :
    wpAnyH P md l.toArray (NoPanic Q) (fun _ => True) (f + 4) (L false false false false) (at4 a0 dA eA dB eB u v x y) w0 := by
  have pA1 : ∀ u v x y z, (at4 a0 dA eA dB eB u v x y).put (some dA) z = at4 a0 dA eA dB eB z v x y := by
    intro u v x y z
    unfold at4
    rw [put_comm _ eB dA _ _ n3.symm, put_comm _ dB dA _ _ n2.symm, put_comm _ eA dA _ _ n1.symm, put_same]
  have pA2 : ∀ u v x y z, (at4 a0 dA eA dB eB u v x y).put (some eA) z = at4 a0 dA eA dB eB u z x y := by
    intro u v x y z
    unfold at4
    rw [put_comm _ eB eA _ _ n5.symm, put_comm _ dB eA _ _ n4.symm, put_same]
  have pB1 : ∀ u v x y z, (at4 a0 dA eA dB eB u v x y).put (some dB) z = at4 a0 dA eA dB eB u v z y := by
    intro u v x y z
    unfold at4
    rw [put_comm _ eB dB _ _ n6.symm, put_same]
  have pB2 : ∀ u v x y z, (at4 a0 dA eA dB eB u v x y).put (some eB) z = at4 a0 dA eA dB eB u v x z := by
    intro u v x y z
    unfold at4
    rw [put_same]
  have st : ∀ {w w' : World}, Below w0.heap.size w0 w → Below w.heap.size w w' → Below w0.heap.size w0 w' := fun h k => h.trans (k.mono h.size)
  -- backwards through the states
  have s21 : ∀ v y w, RA v w → Below w0.heap.size w0 w → wpAnyH P md l.toArray (NoPanic Q) (fun _ => True) (f + 1) (L true true true false) (at4 a0 dA eA dB eB VA v VB y) w := fun v y w h1 hb => by
    obtain ⟨z, w', hr, hb2, hz⟩ := yB VA v y w hb
    refine oneT jB pB z mB hB q21 hr ?_
    rw [zB, tB, pB2]
    exact rest _ _ _ (kA _ _ _ h1 hb2) hz (st hb hb2)
  have s12 : ∀ v y w, RB y w → Below w0.heap.size w0 w → wpAnyH P md l.toArray (NoPanic Q) (fun _ => True) (f + 1) (L true false true true) (at4 a0 dA eA dB eB VA v VB y) w := fun v y w h1 hb => by
    obtain ⟨z, w', hr, hb2, hz⟩ := yA v VB y w hb
    refine oneT jA pA z mA hA q12 hr ?_
    rw [zA, tA, pA2]
    exact rest _ _ _ hz (kB _ _ _ h1 hb2) (st hb hb2)
  have s11 : ∀ v y w, Below w0.heap.size w0 w → wpAnyH P md l.toArray (NoPanic Q) (fun _ => True) (f + 2) (L true false true false) (at4 a0 dA eA dB eB VA v VB y) w := fun v y w hb => by
    refine every (by rw [q11]; simp) fun i hi => ?_
    rw [q11] at hi
    rcases List.mem_cons.1 hi with rfl | hi
    · obtain ⟨z, w', hr, hb2, hz⟩ := yA v VB y w hb
      refine ⟨pA, mA, hA, .inl ⟨z, w', hr, trivial, ?_⟩⟩
      rw [zA, tA, pA2]
      exact s21 _ _ _ hz (st hb hb2)
    · obtain rfl : i = jB := by simpa using hi
      obtain ⟨z, w', hr, hb2, hz⟩ := yB VA v y w hb
      refine ⟨pB, mB, hB, .inl ⟨z, w', hr, trivial, ?_⟩⟩
      rw [zB, tB, pB2]
      exact s12 _ _ _ hz (st hb hb2)
  have s20 : ∀ v x y w, RA v w → Below w0.heap.size w0 w → wpAnyH P md l.toArray (NoPanic Q) (fun _ => True) (f + 2) (L true true false false) (at4 a0 dA eA dB eB VA v x y) w := fun v x y w h1 hb => by
    refine oneT iB oB VB lB gB q20 (rB _ _ _ _ w hb) ?_
    rw [cB, sB, pB1]
    exact s21 _ _ _ h1 hb
  have s02 : ∀ u v y w, RB y w → Below w0.heap.size w0 w → wpAnyH P md l.toArray (NoPanic Q) (fun _ => True) (f + 2) (L false false true true) (at4 a0 dA eA dB eB u v VB y) w := fun u v y w h1 hb => by
    refine oneT iA oA VA lA gA q02 (rA _ _ _ _ w hb) ?_
    rw [cA, sA, pA1]
    exact s12 _ _ _ h1 hb
  have s10 : ∀ v x y w, Below w0.heap.size w0 w → wpAnyH P md l.toArray (NoPanic Q) (fun _ => True) (f + 3) (L true false false false) (at4 a0 dA eA dB eB VA v x y) w := fun v x y w hb => by
    refine every (by rw [q10]; simp) fun i hi => ?_
    rw [q10] at hi
    rcases List.mem_cons.1 hi with rfl | hi
    · obtain ⟨z, w', hr, hb2, hz⟩ := yA v x y w hb
      refine ⟨pA, mA, hA, .inl ⟨z, w', hr, trivial, ?_⟩⟩
      rw [zA, tA, pA2]
      exact s20 _ _ _ _ hz (st hb hb2)
    · obtain rfl : i = iB := by simpa using hi
      refine ⟨oB, lB, gB, .inl ⟨VB, w, rB _ _ _ _ w hb, trivial, ?_⟩⟩
      rw [cB, sB, pB1]
      exact s11 _ _ _ hb
  have s01 : ∀ u v y w, Below w0.heap.size w0 w → wpAnyH P md l.toArray (NoPanic Q) (fun _ => True) (f + 3) (L false false true false) (at4 a0 dA eA dB eB u v VB y) w := fun u v y w hb => by
    refine every (by rw [q01]; simp) fun i hi => ?_
    rw [q01] at hi
    rcases List.mem_cons.1 hi with rfl | hi
    · refine ⟨oA, lA, gA, .inl ⟨VA, w, rA _ _ _ _ w hb, trivial, ?_⟩⟩
      rw [cA, sA, pA1]
      exact s11 _ _ _ hb
    · obtain rfl : i = jB := by simpa using hi
      obtain ⟨z, w', hr, hb2, hz⟩ := yB u v y w hb
      refine ⟨pB, mB, hB, .inl ⟨z, w', hr, trivial, ?_⟩⟩
      rw [zB, tB, pB2]
      exact s02 _ _ _ _ hz (st hb hb2)
  refine every (by rw [q00]; simp) fun i hi => ?_
  rw [q00] at hi
  rcases List.mem_cons.1 hi with rfl | hi
  · refine ⟨oA, lA, gA, .inl ⟨VA, w0, rA _ _ _ _ w0 (Below.refl _ _), trivial, ?_⟩⟩
    rw [cA, sA, pA1]
    exact s10 _ _ _ _ (Below.refl _ _)
  · obtain rfl : i = iB := by simpa using hi
    refine ⟨oB, lB, gB, .inl ⟨VB, w0, rB _ _ _ _ w0 (Below.refl _ _), trivial, ?_⟩⟩
    rw [cB, sB, pB1]
    exact s01 _ _ _ _ (Below.refl _ _)
end
end Go.Proofs.YtphifanacehppaaGreat.plan
/- A region whose order is open: a row that is made (0), a call that reads it and makes memory (4), and another row (7), which may come up at any time. Whatever the order, behind the three the state is the same but for where the rows lie. No condition. -/
namespace Go.Proofs.YtphifanacehppaaGreat.plan
open Go Go.RowKit
set_option linter.unusedVariables false

section
variable {P : Program} {md : Region.Mode} {Q : Exit → Act → World → Prop} {l : List Oper}

/-- the frame, with the three results -/
def at3 (a0 : Act) (d0 d4 d7 : Nat) (v0 v4 v7 : Value) : Act := ((a0.put (some d0) v0).put (some d4) v4).put (some d7) v7

theorem three (a0 : Act) (w0 : World) (i0 i4 i7 d0 d4 d7 f : Nat) (n04 : d0 ≠ d4) (n07 : d0 ≠ d7) (n47 : d4 ≠ d7) (o0 o4 o7 : Oper) (L : Bool → Bool → Bool → Array Bool)
    (l0 : l[i0]? = some o0) (l4 : l[i4]? = some o4) (l7 : l[i7]? = some o7) (g0 : o0.guard = none) (g4 : o4.guard = none) (g7 : o7.guard = none) (s0 : o0.dst = some d0) (s4 : o4.dst = some d4) (s7 : o7.dst = some d7)
    (e0 : ∀ b4 b7, (L false b4 b7).setIfInBounds i0 true = L true b4 b7) (e4 : ∀ b7, (L true false b7).setIfInBounds i4 true = L true true b7) (e7 : ∀ b0 b4, (L b0 b4 false).setIfInBounds i7 true = L b0 b4 true)
    (q1 : Region.ready md l.toArray (L false false false) = [i0, i7]) (q2 : Region.ready md l.toArray (L true false false) = [i4, i7]) (q3 : Region.ready md l.toArray (L false false true) = [i0])
    (q4 : Region.ready md l.toArray (L true false true) = [i4]) (q5 : Region.ready md l.toArray (L true true false) = [i7])
    (V0 V4 V7 : Nat → Value) (R0 R4 R7 : Nat → World → Prop) (F : FuncId) (x4 : Nat → Array Value)
    (t0 : ∀ g w w', R0 g w → Below w.heap.size w w' → R0 g w') (t4 : ∀ g w w', R4 g w → Below w.heap.size w w' → R4 g w') (t7 : ∀ g w w', R7 g w → Below w.heap.size w w' → R7 g w')
    (lt4 : ∀ g w, R4 g w → g < w.heap.size) (lt7 : ∀ g w, R7 g w → g < w.heap.size)
    (r0 : ∀ v0 v4 v7 w, ∃ w', (execOp (at3 a0 d0 d4 d7 v0 v4 v7).eval o0).run P w = .ok (.value (V0 w.heap.size)) w' ∧ Below w.heap.size w w' ∧ R0 w.heap.size w')
    (r7 : ∀ v0 v4 v7 w, ∃ w', (execOp (at3 a0 d0 d4 d7 v0 v4 v7).eval o7).run P w = .ok (.value (V7 w.heap.size)) w' ∧ Below w.heap.size w w' ∧ R7 w.heap.size w')
    (r4 : ∀ g v4 v7 w, (execOp (at3 a0 d0 d4 d7 (V0 g) v4 v7).eval o4).run P w = .ok (.enter F (x4 g)) w)
    (k4 : ∀ g w, R0 g w → Calls P F (x4 g) w fun e w' => ∃ g', e = .returned (V4 g') ∧ w.heap.size ≤ g' ∧ R4 g' w' ∧ Below w.heap.size w w')
    (rest : ∀ g g' g'' w', w0.heap.size ≤ g' → w0.heap.size ≤ g'' → g' ≠ g'' → R4 g' w' → R7 g'' w' → Below w0.heap.size w0 w' →
      wpAnyH P md l.toArray (NoPanic Q) (Below w0.heap.size w0) f (L true true true) (at3 a0 d0 d4 d7 (V0 g) (V4 g') (V7 g'')) w')
    (u0 u4 u7 : Value) :
    wpAnyH P md l.toArray (NoPanic Q) (Below w0.heap.size w0) (f + 3) (L false false false) (at3 a0 d0 d4 d7 u0 u4 u7) w0 := by
  have p0 : ∀ v0 v4 v7 v, (at3 a0 d0 d4 d7 v0 v4 v7).put (some d0) v = at3 a0 d0 d4 d7 v v4 v7 := by
    intro v0 v4 v7 v
    unfold at3
    rw [put_comm _ d7 d0 _ _ n07.symm, put_comm _ d4 d0 _ _ n04.symm, put_same]
  have p4 : ∀ v0 v4 v7 v, (at3 a0 d0 d4 d7 v0 v4 v7).put (some d4) v = at3 a0 d0 d4 d7 v0 v v7 := by
    intro v0 v4 v7 v
    unfold at3
    rw [put_comm _ d7 d4 _ _ n47.symm, put_same]
  have p7 : ∀ v0 v4 v7 v, (at3 a0 d0 d4 d7 v0 v4 v7).put (some d7) v = at3 a0 d0 d4 d7 v0 v4 v := by
    intro v0 v4 v7 v
    unfold at3
    rw [put_same]
  refine every (by rw [q1]; simp) fun i hi => ?_
  rw [q1] at hi
  rcases List.mem_cons.1 hi with rfl | hi
  · obtain ⟨w1, h1, b1, z1⟩ := r0 u0 u4 u7 w0
    refine ⟨o0, l0, g0, .inl ⟨_, w1, h1, b1, ?_⟩⟩
    rw [e0, s0, p0]
    refine every (by rw [q2]; simp) fun i hi => ?_
    rw [q2] at hi
    rcases List.mem_cons.1 hi with rfl | hi
    · refine ⟨o4, l4, g4, .inr ⟨F, _, r4 _ _ _ _, (k4 _ w1 z1).mono ?_⟩⟩
      rintro e w2 ⟨g', rfl, hg', hR, b2⟩
      have B2 := b1.trans (b2.mono b1.size)
      refine ⟨_, rfl, B2, ?_⟩
      rw [e4, s4, p4]
      refine every (by rw [q5]; simp) fun i hi => ?_
      rw [q5] at hi
      obtain rfl : i = i7 := by simpa using hi
      obtain ⟨w3, h3, b3, z3⟩ := r7 (V0 w0.heap.size) (V4 g') u7 w2
      have B3 := B2.trans (b3.mono B2.size)
      refine ⟨o7, l7, g7, .inl ⟨_, w3, h3, B3, ?_⟩⟩
      rw [e7, s7, p7]
      have := lt4 _ _ hR
      have := b1.size
      exact rest _ _ _ _ (by omega) B2.size (by omega) (t4 _ _ _ hR b3) z3 B3
    · obtain rfl : i = i7 := by simpa using hi
      obtain ⟨w2, h2, b2, z2⟩ := r7 (V0 w0.heap.size) u4 u7 w1
      have B2 := b1.trans (b2.mono b1.size)
      refine ⟨o7, l7, g7, .inl ⟨_, w2, h2, B2, ?_⟩⟩
      rw [e7, s7, p7]
      refine every (by rw [q4]; simp) fun i hi => ?_
      rw [q4] at hi
      obtain rfl : i = i4 := by simpa using hi
      refine ⟨o4, l4, g4, .inr ⟨F, _, r4 _ _ _ _, (k4 _ w2 (t0 _ _ _ z1 b2)).mono ?_⟩⟩
      rintro e w3 ⟨g', rfl, hg', hR, b3⟩
      have B3 := B2.trans (b3.mono B2.size)
      refine ⟨_, rfl, B3, ?_⟩
      rw [e4, s4, p4]
      have := lt7 _ _ z2
      exact rest _ _ _ _ (by have := B2.size; omega) b1.size (by omega) hR (t7 _ _ _ z2 b3) B3
  · obtain rfl : i = i7 := by simpa using hi
    obtain ⟨w1, h1, b1, z1⟩ := r7 u0 u4 u7 w0
    refine ⟨o7, l7, g7, .inl ⟨_, w1, h1, b1, ?_⟩⟩
    rw [e7, s7, p7]
    refine every (by rw [q3]; simp) fun i hi => ?_
    rw [q3] at hi
    obtain rfl : i = i0 := by simpa using hi
    obtain ⟨w2, h2, b2, z2⟩ := r0 u0 u4 (V7 w0.heap.size) w1
    have B2 := b1.trans (b2.mono b1.size)
    refine ⟨o0, l0, g0, .inl ⟨_, w2, h2, B2, ?_⟩⟩
    rw [e0, s0, p0]
    refine every (by rw [q4]; simp) fun i hi => ?_
    rw [q4] at hi
    obtain rfl : i = i4 := by simpa using hi
    refine ⟨o4, l4, g4, .inr ⟨F, _, r4 _ _ _ _, (k4 _ w2 z2).mono ?_⟩⟩
    rintro e w3 ⟨g', rfl, hg', hR, b3⟩
    have B3 := B2.trans (b3.mono B2.size)
    refine ⟨_, rfl, B3, ?_⟩
    rw [e4, s4, p4]
    have := lt7 _ _ z1
    exact rest _ _ _ _ (by have := B2.size; omega) (Nat.le_refl _) (by have := b2.size; omega) hR (t7 _ _ _ z1 (b2.trans (b3.mono b2.size))) B3
theorem one {S : World → Prop} {f : Nat} {listed : Array Bool} {a : Act} {w w1 : World} (i : Nat) (o : Oper) (v : Value) (hi : l[i]? = some o) (hg : o.guard = none) (hr : Region.ready md l.toArray listed = [i])
    (hv : (execOp a.eval o).run P w = .ok (.value v) w1) (hS : S w1) (h : wpAnyH P md l.toArray (NoPanic Q) S f (listed.setIfInBounds i true) (a.put o.dst v) w1) : wpAnyH P md l.toArray (NoPanic Q) S (f + 1) listed a w := by
  refine every (by rw [hr]; simp) fun j hj => ?_
  rw [hr] at hj
  obtain rfl : j = i := by simpa using hj
  exact ⟨o, hi, hg, .inl ⟨v, w1, hv, hS, h⟩⟩
theorem Rest.to3 {n : Nat} {listed : Array Bool} {a : Act} {w : World} (d0 d4 d7 f : Nat) (L : Bool → Bool → Bool → Array Bool) (hf : n = f + 3) (hl : listed = L false false false) (ha : at3 a d0 d4 d7 undef undef undef = a)
    (h : wpAnyH P md l.toArray (NoPanic Q) (Below w.heap.size w) (f + 3) (L false false false) (at3 a d0 d4 d7 undef undef undef) w) : Rest P md l Q n listed a w := by
  subst hf hl
  rw [ha] at h
  exact h
end
end Go.Proofs.YtphifanacehppaaGreat.plan
/- A region whose order is open: a row that is made (A), a new variable (B), and a value that is built of the row (C). Whatever the order, behind the three the state is the same but for where the row and the variable lie. No condition. -/
namespace Go.Proofs.YtphifanacehppaaGreat.plan
open Go Go.RowKit
set_option linter.unusedVariables false

section
variable {P : Program} {md : Region.Mode} {Q : Exit → Act → World → Prop} {l : List Oper}
theorem two (a0 : Act) (w0 : World) (iA iB iC dA dB dC f : Nat) (nAB : dA ≠ dB) (nAC : dA ≠ dC) (nBC : dB ≠ dC) (oA oB oC : Oper) (L : Bool → Bool → Bool → Array Bool)
    (lA : l[iA]? = some oA) (lB : l[iB]? = some oB) (lC : l[iC]? = some oC) (gA : oA.guard = none) (gB : oB.guard = none) (gC : oC.guard = none) (sA : oA.dst = some dA) (sB : oB.dst = some dB) (sC : oC.dst = some dC)
    (eA : ∀ b c, (L false b c).setIfInBounds iA true = L true b c) (eB : ∀ a c, (L a false c).setIfInBounds iB true = L a true c) (eC : ∀ a b, (L a b false).setIfInBounds iC true = L a b true)
    (q0 : Region.ready md l.toArray (L false false false) = [iA, iB]) (q1 : Region.ready md l.toArray (L true false false) = [iC, iB]) (q2 : Region.ready md l.toArray (L false true false) = [iA])
    (q3 : Region.ready md l.toArray (L true true false) = [iC]) (q4 : Region.ready md l.toArray (L true false true) = [iB])
    (R : Nat → Value → World → Prop) (VC : Value → Value) (t : TypeId) (cs : List Value)
    (tR : ∀ g v w w', R g v w → Below w.heap.size w w' → R g v w') (lt : ∀ g v w, R g v w → g < w.heap.size)
    (rA : ∀ u v c w, Below w0.heap.size w0 w → ∃ g x w', (execOp (at3 a0 dA dB dC u v c).eval oA).run P w = .ok (.value x) w' ∧ Below w.heap.size w w' ∧ w.heap.size ≤ g ∧ R g x w')
    (rB : ∀ u v c w, (execOp (at3 a0 dA dB dC u v c).eval oB).run P w = .ok (.value (.pointer (some ⟨w.heap.size, 0, none⟩))) (w.alloc (.cells cs.toArray t)))
    (rC : ∀ g u v c w, R g u w → (execOp (at3 a0 dA dB dC u v c).eval oC).run P w = .ok (.value (VC u)) w)
    (rest : ∀ g g' x w', w0.heap.size ≤ g → w0.heap.size ≤ g' → g ≠ g' → R g x w' → Block w' g' t cs → Below w0.heap.size w0 w' →
      wpAnyH P md l.toArray (NoPanic Q) (Below w0.heap.size w0) f (L true true true) (at3 a0 dA dB dC x (.pointer (some ⟨g', 0, none⟩)) (VC x)) w')
    (u v c : Value) :
    wpAnyH P md l.toArray (NoPanic Q) (Below w0.heap.size w0) (f + 3) (L false false false) (at3 a0 dA dB dC u v c) w0 := by
  have pA : ∀ u v c x, (at3 a0 dA dB dC u v c).put (some dA) x = at3 a0 dA dB dC x v c := by
    intro u v c x
    unfold at3
    rw [put_comm _ dC dA _ _ nAC.symm, put_comm _ dB dA _ _ nAB.symm, put_same]
  have pB : ∀ u v c x, (at3 a0 dA dB dC u v c).put (some dB) x = at3 a0 dA dB dC u x c := by
    intro u v c x
    unfold at3
    rw [put_comm _ dC dB _ _ nBC.symm, put_same]
  have pC : ∀ u v c x, (at3 a0 dA dB dC u v c).put (some dC) x = at3 a0 dA dB dC u v x := by
    intro u v c x
    unfold at3
    rw [put_same]
  refine every (by rw [q0]; simp) fun i hi => ?_
  rw [q0] at hi
  rcases List.mem_cons.1 hi with rfl | hi
  · obtain ⟨g, x, w1, h1, b1, hg, z1⟩ := rA u v c w0 (Below.refl _ _)
    refine ⟨oA, lA, gA, .inl ⟨_, w1, h1, b1, ?_⟩⟩
    rw [eA, sA, pA]
    refine every (by rw [q1]; simp) fun i hi => ?_
    rw [q1] at hi
    have bN : Below w0.heap.size w0 (w1.alloc (.cells cs.toArray t)) := b1.trans (((Below.refl _ _).alloc (Nat.le_refl _) _).mono b1.size)
    have zN := tR _ _ _ _ z1 ((Below.refl w1.heap.size w1).alloc (Nat.le_refl _) (.cells cs.toArray t))
    have hne : g ≠ w1.heap.size := by have := lt _ _ _ z1; omega
    rcases List.mem_cons.1 hi with rfl | hi
    · refine ⟨oC, lC, gC, .inl ⟨_, w1, rC g x v c w1 z1, b1, ?_⟩⟩
      rw [eC, sC, pC]
      refine every (by rw [q4]; simp) fun i hi => ?_
      rw [q4] at hi
      obtain rfl : i = iB := by simpa using hi
      refine ⟨oB, lB, gB, .inl ⟨_, _, rB x v _ w1, bN, ?_⟩⟩
      rw [eB, sB, pB]
      exact rest _ _ _ _ hg b1.size hne zN (Block.new w1 t cs) bN
    · obtain rfl : i = iB := by simpa using hi
      refine ⟨oB, lB, gB, .inl ⟨_, _, rB x v c w1, bN, ?_⟩⟩
      rw [eB, sB, pB]
      refine every (by rw [q3]; simp) fun i hi => ?_
      rw [q3] at hi
      obtain rfl : i = iC := by simpa using hi
      refine ⟨oC, lC, gC, .inl ⟨_, _, rC g x _ c _ zN, bN, ?_⟩⟩
      rw [eC, sC, pC]
      exact rest _ _ _ _ hg b1.size hne zN (Block.new w1 t cs) bN
  · obtain rfl : i = iB := by simpa using hi
    have b1 : Below w0.heap.size w0 (w0.alloc (.cells cs.toArray t)) := (Below.refl _ _).alloc (Nat.le_refl _) _
    refine ⟨oB, lB, gB, .inl ⟨_, _, rB u v c w0, b1, ?_⟩⟩
    rw [eB, sB, pB]
    refine every (by rw [q2]; simp) fun i hi => ?_
    rw [q2] at hi
    obtain rfl : i = iA := by simpa using hi
    obtain ⟨g, x, w2, h2, b2, hg, z2⟩ := rA u (.pointer (some ⟨w0.heap.size, 0, none⟩)) c _ b1
    have b3 := b1.trans (b2.mono b1.size)
    have hB := (Block.new w0 t cs).later b2
    have hlt := (Block.new w0 t cs).lt
    refine ⟨oA, lA, gA, .inl ⟨_, w2, h2, b3, ?_⟩⟩
    rw [eA, sA, pA]
    refine every (by rw [q3]; simp) fun i hi => ?_
    rw [q3] at hi
    obtain rfl : i = iC := by simpa using hi
    refine ⟨oC, lC, gC, .inl ⟨_, _, rC g x _ c _ z2, b3, ?_⟩⟩
    rw [eC, sC, pC]
    exact rest _ _ _ _ (by have := b1.size; omega) (Nat.le_refl _) (by omega) z2 hB b3
end
end Go.Proofs.YtphifanacehppaaGreat.plan
/- Single operations on slices and words, run by themselves; an append onto nothing. No condition. -/
namespace Go.Proofs.YtphifanacehppaaGreat.frame
open Go Go.RowKit Go.Proofs.YtphifanacehppaaGreat.zeros
set_option linter.unusedVariables false

section
variable {o : Oper} {a : Act} {w : World}
theorem exec_index {x y : Operand} {b off len cap i : Nat} (ho : o.op = .indexAddr 24 x y) (hx : a.eval x = .slice (some ⟨b, off, none⟩) len cap) (hy : a.eval y = .int .i64 (i : Int)) (hi : i < len) :
    (execOp a.eval o).run Tryz.prog w = .ok (.value (.pointer (some ⟨b, off + i, none⟩))) w := by
  unfold execOp
  rw [ho]
  simp only [hx, hy]
  go_simp
theorem exec_word {x : Operand} {ad : Addr} {n : Nat} (ho : o.op = .load 43 x) (hx : a.eval x = .pointer (some ad)) (hc : w.cell? ad = some (.int .u32 (n : Int))) :
    (execOp a.eval o).run Tryz.prog w = .ok (.value (.int .u32 (n : Int))) w := by
  unfold execOp
  rw [ho]
  simp only [hx]
  go_simp
theorem exec_quo {x y : Operand} {t : TypeId} {n : Nat} (ho : o.op = .binOp .quo 43 x y t) (hx : a.eval x = .int .u32 (n : Int)) (hy : a.eval y = .int .u32 1073741824) (hn : n < 4294967296) :
    (execOp a.eval o).run Tryz.prog w = .ok (.value (.int .u32 ((n : Int) / 1073741824))) w := by
  unfold execOp
  rw [ho]
  simp only [hx, hy]
  go_simp
  rw [IntKind.wrap_u32']
  omega
theorem exec_rem {x y : Operand} {t : TypeId} {n : Nat} (ho : o.op = .binOp .rem 43 x y t) (hx : a.eval x = .int .u32 (n : Int)) (hy : a.eval y = .int .u32 1073741824) (hn : n < 4294967296) :
    (execOp a.eval o).run Tryz.prog w = .ok (.value (.int .u32 ((n : Int) % 1073741824))) w := by
  unfold execOp
  rw [ho]
  simp only [hx, hy]
  go_simp
  exact Int.tmod_eq_emod_of_nonneg (by omega)
theorem exec_wide {x : Operand} {n : Int} (ho : o.op = .convert 43 3 x) (hx : a.eval x = .int .u32 n) (h0 : 0 ≤ n) (hn : n < 4294967296) :
    (execOp a.eval o).run Tryz.prog w = .ok (.value (.int .i64 n)) w := by
  unfold execOp
  rw [ho]
  simp only [hx]
  go_simp
  exact IntWalk.i64_in _ (by omega)
theorem exec_add2 {x y : Operand} {t : TypeId} {n : Nat} (ho : o.op = .binOp .add 3 x y t) (hx : a.eval x = .int .i64 2) (hy : a.eval y = .int .i64 (n : Int)) (hn : n ≤ 56) :
    (execOp a.eval o).run Tryz.prog w = .ok (.value (.int .i64 (2 + (n : Int)))) w := by
  unfold execOp
  rw [ho]
  simp only [hx, hy]
  go_simp
  exact IntWalk.i64_in _ (by omega)
theorem exec_cut {x y z : Operand} {b off len cap n : Nat} (ho : o.op = .slice 24 x (some y) (some z) none) (hx : a.eval x = .slice (some ⟨b, off, none⟩) len cap) (hy : a.eval y = .int .i64 2) (hz : a.eval z = .int .i64 (2 + (n : Int))) (hn : 2 + n ≤ cap) (hp : 0 < n) :
    (execOp a.eval o).run Tryz.prog w = .ok (.value (.slice (some ⟨b, off + 2, none⟩) n (cap - 2))) w := by
  unfold execOp
  rw [ho]
  simp only [hx, Option.map_some, hy, hz]
  go_simp
  rw [if_pos (by omega), if_pos (by omega), if_neg (by omega), show (2 + (n : Int)).toNat - 2 = n by omega]
theorem exec_new {t : TypeId} (ho : o.op = .alloc 118) :
    (execOp a.eval o).run Tryz.prog w = .ok (.value (.pointer (some ⟨w.heap.size, 0, none⟩))) (w.alloc (.cells #[.int .i64 0, .int .i64 0, .slice none 0 0] 118)) := by
  unfold execOp
  rw [ho]
  go_simp
theorem exec_append {x y : Operand} {ad : Addr} {n c : Nat} {L : List Nat} (ho : o.op = .call { callee := .builtin .append, args := #[x, y], argTypes := #[24, 24] }) (hx : a.eval x = .slice none 0 0) (hy : a.eval y = .slice (some ad) n c)
    (hr : Reads .u32 w (some ad) n L) (hn : 0 < n) (hs : n ≤ 1048576) :
    ∃ g cap w', (execOp a.eval o).run Tryz.prog w = .ok (.value (.slice (some ⟨g, 0, none⟩) n cap)) w' ∧ Below w.heap.size w w' ∧ w.heap.size ≤ g ∧ Row w' 43 .u32 g cap L := by
  obtain ⟨i0, hi, hz0, hz1, hz2⟩ := info_parts Tryzinfo34
  obtain ⟨v, w', h1, h2, h3, _, _⟩ := run_append_own_at w w.heap.size 24 o.type 43 i0 (.int .u32 0) 1 4 Tryz.underlying24 hi hz0 hz1 hz2 rfl (by decide) (.slice none 0 0) 0 [] (World.ownsRow_nil _ _ _ _) ad n c (L.map fun x : Nat => Value.int .u32 (x : Int)) (by simp [hr.1]) (cells_of hr) (ints_one _ _) (by unfold maxLen; omega) (by omega) (Nat.le_refl _)
  rw [Nat.zero_add, List.nil_append] at h2
  obtain ⟨g, cap, rfl, hg, hrow⟩ := Row.own h2 hn
  refine ⟨g, cap, w', ?_, (Below.refl _ _).grown h3 (Nat.le_refl _) (fun k hk => by cases hk), hg, hrow⟩
  unfold execOp
  simp [ho, resolve, invoke, builtin, hx, hy, h1, Result.andThen]
theorem exec_row {x y : Operand} {ad : Addr} {n c : Nat} {L : List Nat} (ho : o.op = .call { callee := .builtin .append, args := #[x, y], argTypes := #[24, 24] }) (hx : a.eval x = .slice none 0 0) (hy : a.eval y = .slice (some ad) n c)
    (hr : Reads .u32 w (some ad) n L) (hn : 0 < n) (hs : n ≤ 1048576) :
    ∃ g u w', (execOp a.eval o).run Tryz.prog w = .ok (.value u) w' ∧ Below w.heap.size w w' ∧ w.heap.size ≤ g ∧ ∃ c, u = .slice (some ⟨g, 0, none⟩) n c ∧ Row w' 43 .u32 g c L := by
  obtain ⟨g, cap, w', h1, h2, h3, h4⟩ := exec_append ho hx hy hr hn hs
  exact ⟨g, _, w', h1, h2, h3, cap, rfl, h4⟩
theorem exec_add3 {x y : Operand} {t : TypeId} {n : Nat} (ho : o.op = .binOp .add 3 x y t) (hx : a.eval x = .int .i64 (n : Int)) (hy : a.eval y = .int .i64 3) (hn : n ≤ 56) :
    (execOp a.eval o).run Tryz.prog w = .ok (.value (.int .i64 ((n : Int) + 3))) w := by
  unfold execOp
  rw [ho]
  simp only [hx, hy]
  go_simp
  exact IntWalk.i64_in _ (by omega)
theorem exec_pre {x z : Operand} {b off len cap n : Nat} (ho : o.op = .slice 24 x none (some z) none) (hx : a.eval x = .slice (some ⟨b, off, none⟩) len cap) (hz : a.eval z = .int .i64 ((n : Int) + 3)) (hn : n + 3 ≤ cap) :
    (execOp a.eval o).run Tryz.prog w = .ok (.value (.slice (some ⟨b, off, none⟩) (n + 3) cap)) w := by
  unfold execOp
  rw [ho]
  simp only [hx, Option.map_some, Option.map_none, hz]
  go_simp
  rw [if_pos (by omega), show ((n : Int) + 3).toNat = n + 3 by omega]
end
end Go.Proofs.YtphifanacehppaaGreat.frame
