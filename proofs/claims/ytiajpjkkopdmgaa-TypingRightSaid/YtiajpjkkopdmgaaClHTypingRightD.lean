/- Lemmas of the claim HTypingRight. Each says its own conditions. -/
import Derived.Test.YtiajpjkkopdmgaaClHTypingRightC
import Derived.Test.YtiajpjkkopdmgaaClHTypingRightA
import Derived.Maps.AppendAt
import Derived.Test.YtiajpjkkopdmgaaClHTypingRightB
import Derived.Conc.WalkWords
import Derived.Deep.Slices
import Derived.Deep.Strs
import Derived.Lib.SmallJoins
import Derived.Lib.AppendStr
/- A region whose order is open: a row that is made (1), the row turned (2), a call that reads it (C), one behind the other, and a new variable (B) that may come up at any time. Whatever the order, behind the four the state is the same but for where the variable lies. No condition. -/
namespace Go.Proofs.Ytiajpjkkopdmgaa.plan
open Go Go.RowKit
set_option linter.unusedVariables false

section
variable {P : Program} {md : Region.Mode} {Q : Exit → Act → World → Prop} {l : List Oper}

/-- an operation that looks at no memory is taken first -/
theorem freeS {S : World → Prop} {f : Nat} {listed : Array Bool} {a : Act} {w : World} (i : Nat) (o : Oper) (v : Value) (hi : l[i]? = some o) (hs : Region.noSelect l.toArray = true) (hf : Region.free md l.toArray listed i = true)
    (hr : (Region.ready md l.toArray listed).contains i = true) (hw : Region.wanted o (yielded l.toArray a.tmps) = true) (hv : ∀ w', (execOp a.eval o).run P w' = .ok (.value v) w') (hS : S w)
    (h : wpAnyH P md l.toArray (NoPanic Q) S f (listed.setIfInBounds i true) (a.put o.dst v) w) : wpAnyH P md l.toArray (NoPanic Q) S (f + 1) listed a w :=
  wpAnyH_take (by simpa using hi) hs hf hr (fun c a' w' h => h) (.inl ⟨hw, fun w' _ => hv w'⟩) hS h
/-- the only operation that may come up yields a value -/
theorem oneS {S : World → Prop} {f : Nat} {listed : Array Bool} {a : Act} {w w1 : World} (i : Nat) (o : Oper) (v : Value) (hi : l[i]? = some o) (hg : o.guard = none) (hr : Region.ready md l.toArray listed = [i])
    (hv : (execOp a.eval o).run P w = .ok (.value v) w1) (hS : S w1) (h : wpAnyH P md l.toArray (NoPanic Q) S f (listed.setIfInBounds i true) (a.put o.dst v) w1) : wpAnyH P md l.toArray (NoPanic Q) S (f + 1) listed a w := by
  refine every (by rw [hr]; simp) fun j hj => ?_
  rw [hr] at hj
  obtain rfl : j = i := by simpa using hj
  exact ⟨o, hi, hg, .inl ⟨v, w1, hv, hS, h⟩⟩
theorem doneS {S : World → Prop} {listed : Array Bool} {a : Act} {w : World} (hr : Region.ready md l.toArray listed = []) (h : Q .normal a w) : wpAnyH P md l.toArray (NoPanic Q) S 0 listed a w := ⟨hr, NoPanic.normal h⟩

theorem toS {S : World → Prop} {n : Nat} {listed : Array Bool} {a : Act} {w : World} (dA eA dB eB f : Nat) (L : Bool → Bool → Bool → Bool → Array Bool) (hf : n = f + 4) (hl : listed = L false false false false) (ha : at4 a dA eA dB eB undef undef undef undef = a)
    (h : wpAnyH P md l.toArray (NoPanic Q) S (f + 4) (L false false false false) (at4 a dA eA dB eB undef undef undef undef) w) : wpAnyH P md l.toArray (NoPanic Q) S n listed a w := by
  subst hf hl
  rw [ha] at h
  exact h
theorem drift (a0 : Act) (w0 : World) (i1 i2 iC iB d1 d2 dC dB f : Nat) (n1 : d1 ≠ d2) (n2 : d1 ≠ dC) (n3 : d1 ≠ dB) (n4 : d2 ≠ dC) (n5 : d2 ≠ dB) (n6 : dC ≠ dB) (o1 o2 oC oB : Oper) (L : Bool → Bool → Bool → Bool → Array Bool)
    (l1 : l[i1]? = some o1) (l2 : l[i2]? = some o2) (lC : l[iC]? = some oC) (lB : l[iB]? = some oB) (g1 : o1.guard = none) (g2 : o2.guard = none) (gC : oC.guard = none) (gB : oB.guard = none)
    (s1 : o1.dst = some d1) (s2 : o2.dst = some d2) (sC : oC.dst = some dC) (sB : oB.dst = some dB)
    (e1 : ∀ q r s, (L false q r s).setIfInBounds i1 true = L true q r s) (e2 : ∀ p r s, (L p false r s).setIfInBounds i2 true = L p true r s) (eC : ∀ p q s, (L p q false s).setIfInBounds iC true = L p q true s) (eB : ∀ p q r, (L p q r false).setIfInBounds iB true = L p q r true)
    (q0 : Region.ready md l.toArray (L false false false false) = [i1, iB]) (k0 : Region.ready md l.toArray (L false false false true) = [i1])
    (q1 : Region.ready md l.toArray (L true false false false) = [i2, iB]) (k1 : Region.ready md l.toArray (L true false false true) = [i2])
    (q2 : Region.ready md l.toArray (L true true false false) = [iC, iB]) (k2 : Region.ready md l.toArray (L true true false true) = [iC])
    (R1 R2 RC : Value → World → Prop) (N : Value → Nat → Prop) (t : TypeId) (cs : List Value)
    (r1 : ∀ u v x y w, Below w0.heap.size w0 w → ∃ z w', (execOp (at4 a0 d1 d2 dC dB u v x y).eval o1).run P w = .ok (.value z) w' ∧ Below w.heap.size w w' ∧ R1 z w' ∧ ∀ g, g < w.heap.size → N z g)
    (rB : ∀ u v x y w, (execOp (at4 a0 d1 d2 dC dB u v x y).eval oB).run P w = .ok (.value (.pointer (some ⟨w.heap.size, 0, none⟩))) (w.alloc (.cells cs.toArray t)))
    (t1 : ∀ z w, R1 z w → R1 z (w.alloc (.cells cs.toArray t)) ∧ N z w.heap.size)
    (r2 : ∀ z v x y w, Below w0.heap.size w0 w → R1 z w → ∃ z2 w', (execOp (at4 a0 d1 d2 dC dB z v x y).eval o2).run P w = .ok (.value z2) w' ∧ Below w0.heap.size w0 w' ∧ R2 z2 w' ∧ ∀ g, N z g → Block w g t cs → Block w' g t cs)
    (t2 : ∀ z w, R2 z w → R2 z (w.alloc (.cells cs.toArray t)))
    (rC : ∀ z z2 x y w, Below w0.heap.size w0 w → R2 z2 w → ∃ F args, (execOp (at4 a0 d1 d2 dC dB z z2 x y).eval oC).run P w = .ok (.enter F args) w ∧ Calls P F args w fun e w' => ∃ v, e = .returned v ∧ Below w.heap.size w w' ∧ RC v w')
    (rest : ∀ z z2 v g w', RC v w' → Block w' g t cs → w0.heap.size ≤ g → Below w0.heap.size w0 w' → wpAnyH P md l.toArray (NoPanic Q) (Below w0.heap.size w0) f (L true true true true) (at4 a0 d1 d2 dC dB z z2 v (.pointer (some ⟨g, 0, none⟩))) w')
    (late : ∀ z z2 v y w', RC v w' → Below w0.heap.size w0 w' → wpAnyH P md l.toArray (NoPanic Q) (Below w0.heap.size w0) (f + 1) (L true true true false) (at4 a0 d1 d2 dC dB z z2 v y) w')
    (u v x y : Value) :
    wpAnyH P md l.toArray (NoPanic Q) (Below w0.heap.size w0) (f + 4) (L false false false false) (at4 a0 d1 d2 dC dB u v x y) w0 := by
  have p1 : ∀ u v x y z, (at4 a0 d1 d2 dC dB u v x y).put (some d1) z = at4 a0 d1 d2 dC dB z v x y := by
    intro u v x y z
    unfold at4
    rw [put_comm _ dB d1 _ _ n3.symm, put_comm _ dC d1 _ _ n2.symm, put_comm _ d2 d1 _ _ n1.symm, put_same]
  have p2 : ∀ u v x y z, (at4 a0 d1 d2 dC dB u v x y).put (some d2) z = at4 a0 d1 d2 dC dB u z x y := by
    intro u v x y z
    unfold at4
    rw [put_comm _ dB d2 _ _ n5.symm, put_comm _ dC d2 _ _ n4.symm, put_same]
  have pC : ∀ u v x y z, (at4 a0 d1 d2 dC dB u v x y).put (some dC) z = at4 a0 d1 d2 dC dB u v z y := by
    intro u v x y z
    unfold at4
    rw [put_comm _ dB dC _ _ n6.symm, put_same]
  have pB : ∀ u v x y z, (at4 a0 d1 d2 dC dB u v x y).put (some dB) z = at4 a0 d1 d2 dC dB u v x z := by
    intro u v x y z
    unfold at4
    rw [put_same]
  have st : ∀ {w w' : World}, Below w0.heap.size w0 w → Below w.heap.size w w' → Below w0.heap.size w0 w' := fun h k => h.trans (k.mono h.size)
  have al : ∀ (w : World), Below w.heap.size w (w.alloc (.cells cs.toArray t)) := fun w => (Below.refl _ _).alloc (Nat.le_refl _) _
  -- backwards through the states
  have c3 : ∀ z z2 x g w, R2 z2 w → Block w g t cs → w0.heap.size ≤ g → Below w0.heap.size w0 w → wpAnyH P md l.toArray (NoPanic Q) (Below w0.heap.size w0) (f + 1) (L true true false true) (at4 a0 d1 d2 dC dB z z2 x (.pointer (some ⟨g, 0, none⟩))) w := fun z z2 x g w h2 hB hg hb => by
    refine every (by rw [k2]; simp) fun i hi => ?_
    rw [k2] at hi
    obtain rfl : i = iC := by simpa using hi
    obtain ⟨F, args, hv, hc⟩ := rC z z2 x (.pointer (some ⟨g, 0, none⟩)) w hb h2
    refine ⟨oC, lC, gC, .inr ⟨F, args, hv, hc.mono ?_⟩⟩
    rintro e w' ⟨v, rfl, hb', hR⟩
    refine ⟨v, rfl, st hb hb', ?_⟩
    rw [eC, sC, pC]
    exact rest _ _ _ _ _ hR (hB.later hb') hg (st hb hb')
  have c2 : ∀ z z2 x y w, R2 z2 w → Below w0.heap.size w0 w → wpAnyH P md l.toArray (NoPanic Q) (Below w0.heap.size w0) (f + 2) (L true true false false) (at4 a0 d1 d2 dC dB z z2 x y) w := fun z z2 x y w h2 hb => by
    refine every (by rw [q2]; simp) fun i hi => ?_
    rw [q2] at hi
    rcases List.mem_cons.1 hi with rfl | hi
    · obtain ⟨F, args, hv, hc⟩ := rC z z2 x y w hb h2
      refine ⟨oC, lC, gC, .inr ⟨F, args, hv, hc.mono ?_⟩⟩
      rintro e w' ⟨v, rfl, hb', hR⟩
      refine ⟨v, rfl, st hb hb', ?_⟩
      rw [eC, sC, pC]
      exact late _ _ _ _ _ hR (st hb hb')
    · obtain rfl : i = iB := by simpa using hi
      refine ⟨oB, lB, gB, .inl ⟨_, _, rB z z2 x y w, st hb (al w), ?_⟩⟩
      rw [eB, sB, pB]
      exact c3 _ _ _ _ _ (t2 _ _ h2) (Block.new w t cs) hb.size (st hb (al w))
  have b3 : ∀ z v x g w, R1 z w → N z g → Block w g t cs → w0.heap.size ≤ g → Below w0.heap.size w0 w → wpAnyH P md l.toArray (NoPanic Q) (Below w0.heap.size w0) (f + 2) (L true false false true) (at4 a0 d1 d2 dC dB z v x (.pointer (some ⟨g, 0, none⟩))) w := fun z v x g w h1 hN hB hg hb => by
    obtain ⟨z2, w', hv, hb', h2, hk⟩ := r2 z v x (.pointer (some ⟨g, 0, none⟩)) w hb h1
    refine oneS i2 o2 z2 l2 g2 k1 hv hb' ?_
    rw [e2, s2, p2]
    exact c3 _ _ _ _ _ h2 (hk g hN hB) hg hb'
  have b2 : ∀ z v x y w, R1 z w → Below w0.heap.size w0 w → wpAnyH P md l.toArray (NoPanic Q) (Below w0.heap.size w0) (f + 3) (L true false false false) (at4 a0 d1 d2 dC dB z v x y) w := fun z v x y w h1 hb => by
    refine every (by rw [q1]; simp) fun i hi => ?_
    rw [q1] at hi
    rcases List.mem_cons.1 hi with rfl | hi
    · obtain ⟨z2, w', hv, hb', h2, hk⟩ := r2 z v x y w hb h1
      refine ⟨o2, l2, g2, .inl ⟨z2, w', hv, hb', ?_⟩⟩
      rw [e2, s2, p2]
      exact c2 _ _ _ _ _ h2 hb'
    · obtain rfl : i = iB := by simpa using hi
      refine ⟨oB, lB, gB, .inl ⟨_, _, rB z v x y w, st hb (al w), ?_⟩⟩
      rw [eB, sB, pB]
      exact b3 _ _ _ _ _ (t1 _ _ h1).1 (t1 _ _ h1).2 (Block.new w t cs) hb.size (st hb (al w))
  refine every (by rw [q0]; simp) fun i hi => ?_
  rw [q0] at hi
  rcases List.mem_cons.1 hi with rfl | hi
  · obtain ⟨z, w', hv, hb', h1, hk⟩ := r1 u v x y w0 (Below.refl _ _)
    refine ⟨o1, l1, g1, .inl ⟨z, w', hv, hb', ?_⟩⟩
    rw [e1, s1, p1]
    exact b2 _ _ _ _ _ h1 hb'
  · obtain rfl : i = iB := by simpa using hi
    refine ⟨oB, lB, gB, .inl ⟨_, _, rB u v x y w0, al w0, ?_⟩⟩
    rw [eB, sB, pB]
    obtain ⟨z, w', hv, hb', h1, hk⟩ := r1 u v x (.pointer (some ⟨w0.heap.size, 0, none⟩)) (w0.alloc (.cells cs.toArray t)) (al w0)
    refine oneS i1 o1 z l1 g1 k0 hv (st (al w0) hb') ?_
    rw [e1, s1, p1]
    exact b3 _ _ _ _ _ h1 (hk _ (by simp)) ((Block.new w0 t cs).later hb') (Nat.le_refl _) (st (al w0) hb')
end
end Go.Proofs.Ytiajpjkkopdmgaa.plan
/- A region whose order is open, walked under a condition S on the world that every operation keeps. No condition. -/
namespace Go.Proofs.Ytiajpjkkopdmgaa.plan
open Go Go.RowKit
set_option linter.unusedVariables false
section
variable {P : Program} {md : Region.Mode} {Q : Exit → Act → World → Prop} {l : List Oper}
/-- an operation that yields its value in every world that meets S is taken first -/
theorem firstS {S : World → Prop} {f : Nat} {listed : Array Bool} {a : Act} {w : World} (i : Nat) (o : Oper) (v : Value) (hi : l[i]? = some o) (hs : Region.noSelect l.toArray = true) (hf : Region.free md l.toArray listed i = true)
    (hr : (Region.ready md l.toArray listed).contains i = true) (hw : Region.wanted o (yielded l.toArray a.tmps) = true) (hv : ∀ w', S w' → (execOp a.eval o).run P w' = .ok (.value v) w') (hS : S w)
    (h : wpAnyH P md l.toArray (NoPanic Q) S f (listed.setIfInBounds i true) (a.put o.dst v) w) : wpAnyH P md l.toArray (NoPanic Q) S (f + 1) listed a w :=
  wpAnyH_take (by simpa using hi) hs hf hr (fun c a' w' h => h) (.inl ⟨hw, hv⟩) hS h
/-- a call, the only operation that may come up -/
theorem callS {S : World → Prop} {f : Nat} {listed : Array Bool} {a : Act} {w : World} (i : Nat) (o : Oper) (F : FuncId) (args : Array Value) (hi : l[i]? = some o) (hr : Region.ready md l.toArray listed = [i])
    (hw : Region.wanted o (yielded l.toArray a.tmps) = true) (hv : (execOp a.eval o).run P w = .ok (.enter F args) w)
    (h : Calls P F args w fun e w' => ∃ v, e = .returned v ∧ S w' ∧ wpAnyH P md l.toArray (NoPanic Q) S f (listed.setIfInBounds i true) (a.put o.dst v) w') : wpAnyH P md l.toArray (NoPanic Q) S (f + 1) listed a w := by
  refine wpAnyH_all hr (by simp) fun j hj => ?_
  obtain rfl : j = i := by simpa using hj
  have hi' : l.toArray[j]? = some o := by simpa using hi
  unfold wpOp
  simp only [hi', hw, if_true, Oper.wp, hv, Oper.upon]
  refine .inl (h.mono ?_)
  rintro e w' ⟨v, rfl, hS, hR⟩
  exact ⟨hS, hR⟩
theorem regionS {S : World → Prop} {id : Nat} {a : Act} {w : World} (hmx : P.follows .mixedOrders = true) (h : wpAnyH P .any l.toArray (NoPanic Q) S l.length (Array.replicate l.length false) a w.drew) : (Code.region id l.toArray true).wp P Q a w := by
  refine wp_region_noPanic (wp_region_held (S := S) hmx ?_)
  have e : l.toArray.size = l.length := by simp
  rw [e]
  exact h
end
end Go.Proofs.Ytiajpjkkopdmgaa.plan
/- What stays where other blocks turn: blocks of a type that none of the turned ones has. No condition. -/
namespace Go.Proofs.Ytiajpjkkopdmgaa.schema
open Go.RowKit
set_option linter.unusedVariables false

/-- every block of type e stays -/
def StayT (e : TypeId) (w w' : World) : Prop := ∀ (k : Nat) (cs : Array Value) (fr : Nat × Nat), w.heap[k]? = some (Obj.cells cs e fr) → w'.heap[k]? = some (Obj.cells cs e fr)
theorem StayT.trans {e : TypeId} {a b c : World} (h : StayT e a b) (k : StayT e b c) : StayT e a c := fun i cs fr hi => k i cs fr (h i cs fr hi)
theorem stay_below (e : TypeId) {w w' : World} (hb : Below w.heap.size w w') : StayT e w w' := fun k cs fr hk => (hb.block k (Array.getElem?_eq_some_iff.1 hk).1).trans hk
theorem stay_but (e : TypeId) {b : Nat} {t : TypeId} {cs : List Value} {w w' : World} (hb : But w.heap.size b w w') (hB : Block w b t cs) (ht : t ≠ e) : StayT e w w' := by
  intro k cs' fr hk
  refine (hb.2.2.2.2 k (Array.getElem?_eq_some_iff.1 hk).1 ?_).trans hk
  rintro rfl
  unfold Block at hB
  rw [hB] at hk
  exact ht (Obj.cells.inj (Option.some.inj hk)).2.1
theorem stay_grown (e : TypeId) {B e2 sz n : Nat} {u : Value} {xs : List Value} {w w' : World} (ho : w.ownsRow B e2 sz u n xs) (hg : w.grownBy w' u.ownBlock) (ht : e2 ≠ e) : StayT e w w' := by
  intro k cs fr hk
  refine (hg.block k (Array.getElem?_eq_some_iff.1 hk).1 ?_).trans hk
  intro he
  rcases ho.2 with ⟨hv, _⟩ | ⟨g, cap, cur, hv, _, hh, _⟩
  · rw [hv] at he; simp [Value.ownBlock] at he
  · rw [hv] at he
    simp [Value.ownBlock] at he
    subst he
    rw [hh] at hk
    exact ht (Obj.cells.inj (Option.some.inj hk)).2.1
theorem stay_store (e : TypeId) {g : Nat} {t : TypeId} {cs : List Value} {w : World} (hB : Block w g t cs) (ht : t ≠ e) (o : Nat) (v : Value) : StayT e w (w.setCell ⟨g, o, none⟩ v) := by
  intro k cs' fr hk
  refine (Below.heap_setCell w ⟨g, o, none⟩ v k ?_).trans hk
  rintro rfl
  unfold Block at hB
  rw [hB] at hk
  exact ht (Obj.cells.inj (Option.some.inj hk)).2.1
theorem StayT.block {w w' : World} {k : Nat} {e : TypeId} {cs : List Value} (h : StayT e w w') (hB : Block w k e cs) : Block w' k e cs := h k _ _ hB
theorem StayT.row {w w' : World} {B e sz n : Nat} {v : Value} {xs : List Value} (h : StayT e w w') (ho : w.ownsRow B e sz v n xs) : w'.ownsRow B e sz v n xs := by
  refine ⟨ho.1, ?_⟩
  rcases ho.2 with h0 | ⟨g, cap, cur, hv, h1, hg, h2⟩
  · exact .inl h0
  · exact .inr ⟨g, cap, cur, hv, h1, h g _ _ hg, h2⟩
/-- one append of one element onto a row of the call's own, run by itself -/
theorem exec_push {o : Oper} {act : Act} {w : World} {x y : Operand} {u : Value} {B n g sz bytes : Nat} {t e : TypeId} {i : TypeInfo} {z : Value} {xs news : List Value}
    (ht : Try.prog.underlying t = some (.slice e)) (hi : Try.prog.info? e = some i) (hz : i.zero = some z) (hsz : i.size = sz) (hby : i.bytes = bytes) (hzs : z.cells.size = sz) (h0 : 0 < sz)
    (ho : o.op = .call { callee := .builtin .append, args := #[x, y], argTypes := #[t, t] }) (hx : act.eval x = u) (hy : act.eval y = .slice (some ⟨g, 0, none⟩) 1 1)
    (hown : w.ownsRow B e sz u n xs) (hl : news.length = sz) (hc : ∀ j v, news[j]? = some v → w.cell? ⟨g, j, none⟩ = some v) (h1 : ∀ v ∈ news, v.oneCell' = true) (hbytes : (n + 1) * bytes ≤ 140737488355328) (hn : n + 1 ≤ 1000000) (hB : B ≤ w.heap.size) :
    ∃ q w', (execOp act.eval o).run Try.prog w = .ok (.value q) w' ∧ w'.ownsRow B e sz q (n + 1) (xs ++ news) ∧ w.grownBy w' u.ownBlock := by
  obtain ⟨q, w', h2, h3, h4, _, _⟩ := run_append_own_at w B t o.type e i z sz bytes ht hi hz hsz hby hzs h0 u n xs hown ⟨g, 0, none⟩ 1 1 news (by omega)
    (fun j v hj => by rw [Addr.add_lit, Nat.zero_add]; exact hc j v hj) h1 (by unfold maxLen; omega) hbytes hB
  refine ⟨q, w', ?_, h3, h4⟩
  unfold execOp
  simp [ho, resolve, invoke, builtin, hx, hy, h2, Result.andThen]
theorem own_cap {w : World} {base n sz : Nat} {a : Option Addr} {cap : Nat} {xs : List Value} {e : TypeId} (h : w.ownsRow base e sz (.slice a n cap) n xs) : n ≤ cap ∧ cap ≤ maxLen := by
  rcases h.2 with ⟨hv, h0⟩ | ⟨b, cap', cur, hv, _, hg, h1, h2, _⟩
  · cases hv; exact ⟨by omega, by unfold maxLen; omega⟩
  · cases hv; exact ⟨h1, h2⟩
theorem exec_cell_slice' {o : Oper} {a : Act} {w : World} {ty : TypeId} {x : Operand} {ad : Addr} {q : Option Addr} {n c : Nat} (ho : o.op = .load ty x) (hx : a.eval x = .pointer (some ad)) (hc : w.cell? ad = some (.slice q n c)) (hu : ∀ w', (isAgg ty).run Try.prog w' = .ok false w') :
    (execOp a.eval o).run Try.prog w = .ok (.value (.slice q n c)) w := by
  unfold execOp
  rw [ho]
  simp only [hx]
  go_simp
end Go.Proofs.Ytiajpjkkopdmgaa.schema
namespace Go.Proofs.Ytiajpjkkopdmgaa.plan
open Go Go.RowKit
/-- the only operation that may come up is a store, the last -/
theorem lastS {P : Program} {md : Region.Mode} {Q : Exit → Act → World → Prop} {l : List Oper} {S : World → Prop} {listed : Array Bool} {a : Act} {w w1 : World} (i : Nat) (o : Oper) (hi : l[i]? = some o) (hg : o.guard = none) (hd : o.dst = none) (hr : Region.ready md l.toArray listed = [i]) (hr2 : Region.ready md l.toArray (listed.setIfInBounds i true) = [])
    (hv : (execOp a.eval o).run P w = .ok .skip w1) (hS : S w1) (h : Q .normal a w1) : wpAnyH P md l.toArray (NoPanic Q) S 1 listed a w := by
  refine wpAnyH_all hr (by simp) fun j hj => ?_
  obtain rfl : j = i := by simpa using hj
  have hi' : l.toArray[j]? = some o := by simpa using hi
  have hw : Region.wanted o (yielded l.toArray a.tmps) = true := by unfold Region.wanted; rw [hg]
  unfold wpOp
  have e : a.put o.dst undef = a := by rw [hd]; rfl
  simp only [hi', hw, if_true, Oper.wp, hv, Oper.upon]
  exact .inl ⟨hS, hr2, NoPanic.normal (by rw [e]; exact h)⟩
theorem toL {P : Program} {md : Region.Mode} {Q : Exit → Act → World → Prop} {l : List Oper} {n : Nat} {listed : Array Bool} {a : Act} {w : World} (f : Nat) (L : Bool → Bool → Bool → Array Bool) (hf : n = f + 3) (hl : listed = L false false false)
    (h : wpAnyH P md l.toArray (NoPanic Q) (fun _ => True) (f + 3) (L false false false) a w) : wpAnyH P md l.toArray (NoPanic Q) (fun _ => True) n listed a w := by
  subst hf hl
  exact h
end Go.Proofs.Ytiajpjkkopdmgaa.plan
/- One more field onto a list of fields that a call gathers in a variable. No condition. -/
namespace Go.Proofs.Ytiajpjkkopdmgaa.schema
open Go.RowKit
set_option linter.unusedVariables false

theorem exec_push_fd {o : Oper} {a : Act} {w : World} {x y : Operand} {u : Value} {B n g : Nat} {L : List field.Fd} {p : field.Fd}
    (ho : o.op = .call { callee := .builtin .append, args := #[x, y], argTypes := #[30, 30] }) (hx : a.eval x = u) (hy : a.eval y = .slice (some ⟨g, 0, none⟩) 1 1)
    (hown : w.ownsRow B 26 5 u n (fdV L)) (hb : Block w g 26 (fdC p)) (hn : n ≤ 1000) (hB : B ≤ w.heap.size) :
    ∃ q w', (execOp a.eval o).run Try.prog w = .ok (.value q) w' ∧ w'.ownsRow B 26 5 q (n + 1) (fdV (L ++ [p])) ∧ w.grownBy w' u.ownBlock := by
  obtain ⟨i0, hi, hz0, hz1, hz2⟩ := fd_info_parts
  obtain ⟨q, w', h1, h2, h3⟩ := exec_push (sz := 5) (bytes := 40) Try.underlying30 hi hz0 hz1 hz2 (by simp [Value.cells]) (by omega) ho hx hy hown (news := fdC p) rfl (fun j v hj => (hb.cell j).trans hj) (by have := fdV_one [p]; simpa [fdV] using this) (by omega) (by omega) hB
  exact ⟨q, w', h1, by rw [fdV_append]; simpa [fdV] using h2, h3⟩
theorem exec_put_fd {o : Oper} {a : Act} {w : World} {x y : Operand} {ad : Addr} {v : Value} {p : Option Addr} {n c : Nat} (ho : o.op = .store 30 x y) (hx : a.eval x = .pointer (some ad)) (hy : a.eval y = .slice p n c) (hc : w.cell? ad = some v) (hf : w.frozen? ad = false) : (execOp a.eval o).run Try.prog w = .ok .skip (w.setCell ad (.slice p n c)) := by
  unfold execOp
  rw [ho]
  simp only [hx, hy]
  go_simp
end Go.Proofs.Ytiajpjkkopdmgaa.schema
/- What a struct of 2 fields, and a list of such structs, that came in read as. No condition. -/
namespace Go.Proofs.Ytiajpjkkopdmgaa.schema
open Go.ChangeShapes Go.WideShapes Go.ChangeAt Go.RowKit Go.Deep
set_option linter.unusedVariables false

structure Sc where
  (ver : Int) (f : Option Addr) (fCap : Nat) (fL : List Fm)
instance : Inhabited Sc := ⟨⟨0, none, 0, []⟩⟩
def Sc.val (p : Sc) : Value := .agg #[.int .i64 p.ver, .slice p.f p.fL.length p.fCap]
structure Sc.Good (W : World) (p : Sc) : Prop where
  unit : True
  bver : -9223372036854775808 ≤ p.ver ∧ p.ver ≤ 9223372036854775807
  rf : Fms W p.f p.fL
  mf : ∀ y ∈ p.fL, y.Good W
  cf : p.fL.length ≤ p.fCap
  df : p.fCap ≤ maxLen
theorem Sc.Good.below {W W' : World} {p : Sc} (h : p.Good W) (hb : Below W.heap.size W W') : p.Good W' := ⟨h.unit, h.bver, h.rf.below hb, fun y hy => (h.mf y hy).below hb, h.cf, h.df⟩
section
variable {H : Type} {enc : TypeId × Value → H} {P : Program} {W : World}
theorem Sc_cells {t0 t1 : TypeId} {n : Nat} {v0 v1 : Value} {y0 y1 : DataW H × List MemPlace} (u0 : P.underlying t0 = some (.int .i64)) (u1 : FmRow P t1)
    (h0 : DataW.trod enc P W 0 (fun _ => true) true n t0 [v0] = some y0) (h1 : DataW.trod enc P W 0 (fun _ => true) true n t1 [v1] = some y1) :
    ∃ p : Sc, p.Good W ∧ v0 = .int .i64 p.ver ∧ v1 = .slice p.f p.fL.length p.fCap := by
  obtain ⟨x0, e0, _, w0⟩ := DataW.trod_int u0 h0
  have a0 := wf_i64 _ w0
  obtain ⟨q1, c1, M1, rfl, hr1, hM1, hl1, hc1⟩ := open_FmRow u1 h1
  exact ⟨⟨x0, q1, c1, M1⟩, ⟨trivial, a0, hr1, hM1, hl1, hc1⟩, by simpa using e0, rfl⟩
theorem open_Sc_arg {r : Reach} {b0 : Nat} {t : TypeId} {f0 f1 : Field} {v : Value} {d : DataW H} {pl : List MemPlace} (hs : P.underlying t = some (.struct #[f0, f1])) (hone : oneCellFields P #[f0, f1] = true) (hC : P.cellsOf t = 2)
    (u0 : P.underlying f0.type = some (.int .i64)) (u1 : FmRow P f1.type)
    (hv : Value.okWide P W r b0 t v) (h : DataW.Trod enc P W 0 (fun _ => true) true t v d pl) : ∃ p : Sc, p.Good W ∧ v = p.val := by
  obtain ⟨cs, rfl, hsz⟩ := okWide_struct hs hv
  obtain ⟨fuel, hf⟩ := h
  rw [hC] at hsz
  obtain ⟨l⟩ := cs
  match l, hsz with
  | [c0, c1], _ =>
    obtain ⟨ys, m, _, _, hl, hlen, hx⟩ := DataW.trod_struct hs hf
    have each : ∀ (i : Nat) (f : Field) (c : Value), #[f0, f1][i]? = some f → [c0, c1][i]? = some c → ∃ y, DataW.trod enc P W 0 (fun _ => true) true m f.type [c] = some y := by
      intro i f c hi hc
      obtain ⟨o, k⟩ := hone_of hone i f hi
      have hi6 : i < 2 := by have := (Array.getElem?_eq_some_iff.1 hi).1; simpa using this
      have h1 := hx i f hi
      rw [o, k] at h1
      have e : (((Value.agg ⟨[c0, c1]⟩).cells.toList.drop i).take 1) = [c] := by
        rw [List.take_one]
        have : ((Value.agg ⟨[c0, c1]⟩).cells.toList.drop i).head? = some c := by
          rw [List.head?_drop]; simpa [Value.cells] using hc
        rw [this]; rfl
      rw [e] at h1
      have hy : ys[i]? = some (ys[i]'(by rw [hlen]; exact hi6)) := List.getElem?_eq_getElem _
      exact ⟨_, h1.trans hy⟩
    obtain ⟨y0, g0⟩ := each 0 f0 c0 rfl rfl
    obtain ⟨y1, g1⟩ := each 1 f1 c1 rfl rfl
    obtain ⟨p, hp, rfl, rfl⟩ := Sc_cells u0 u1 g0 g1
    exact ⟨p, hp, rfl⟩
/-- the slice at a reads as the list l -/
def Scs (w : World) (a : Option Addr) (l : List Sc) : Prop :=
  l = [] ∨ ∃ b off, a = some ⟨b, off, none⟩ ∧ b < w.heap.size ∧ ∀ i p, l[i]? = some p → w.cell? ⟨b, off + i * 2, none⟩ = some (.int .i64 p.ver) ∧ w.cell? ⟨b, off + i * 2 + 1, none⟩ = some (.slice p.f p.fL.length p.fCap)
theorem open_Scs {t e : TypeId} {f0 f1 : Field} {a : Option Addr} {len cap : Nat} {d : DataW H} {pl : List MemPlace} (ht : P.underlying t = some (.slice e)) (he : P.underlying e = some (.struct #[f0, f1])) (hone : oneCellFields P #[f0, f1] = true) (hC : P.cellsOf e = 2)
    (u0 : P.underlying f0.type = some (.int .i64)) (u1 : FmRow P f1.type)
    (h0 : DataW.Trod enc P W 0 (fun _ => true) true t (.slice a len cap) d pl) : ∃ l : List Sc, len = l.length ∧ Scs W a l ∧ (∀ p ∈ l, p.Good W) ∧ len ≤ cap ∧ cap ≤ maxLen := by
  obtain ⟨fuel, hf⟩ := h0
  have hf2 : DataW.trod enc P W 0 (fun _ => true) true fuel t [.slice a len cap] = some (d, pl) := by simpa [Value.cells] using hf
  rcases open_slice ht hf2 with ⟨hcs, _⟩ | ⟨A, len', cap', q, n, D, Pl, hcs, _, hlc, hcm, hm, hx0, hrow⟩
  · simp at hcs
    obtain ⟨rfl, rfl, rfl⟩ := hcs
    exact ⟨[], rfl, .inl rfl, by simp, Nat.le_refl _, by unfold maxLen; omega⟩
  · simp at hcs
    obtain ⟨rfl, rfl, rfl⟩ := hcs
    simp only [if_true] at hm
    have each : ∀ r, r < len → ∃ p : Sc, p.Good W ∧ W.cell? (A.add (r * 2)) = some (.int .i64 p.ver) ∧ W.cell? (A.add (r * 2 + 1)) = some (.slice p.f p.fL.length p.fCap) := by
      intro r hr
      obtain ⟨cs', h1, h2⟩ := hrow r (by omega)
      rw [hC] at h1
      obtain ⟨_, hlen0, hcell⟩ := World.cells?_some h1
      obtain ⟨ys, m, _, _, hl, hlen, hx⟩ := DataW.trod_struct he h2
      rw [hC] at hl
      match cs', hl with
      | [c0, c1], _ =>
        have each : ∀ (i : Nat) (f : Field) (c : Value), #[f0, f1][i]? = some f → [c0, c1][i]? = some c → ∃ y, DataW.trod enc P W 0 (fun _ => true) true m f.type [c] = some y := by
          intro i f c hi hc
          obtain ⟨o, k⟩ := hone_of hone i f hi
          have hi6 : i < 2 := by have := (Array.getElem?_eq_some_iff.1 hi).1; simpa using this
          have h1 := hx i f hi
          rw [o, k] at h1
          have e : (([c0, c1].drop i).take 1) = [c] := by
            rw [List.take_one]
            have : ([c0, c1].drop i).head? = some c := by
              rw [List.head?_drop]; simpa using hc
            rw [this]; rfl
          rw [e] at h1
          have hy : ys[i]? = some (ys[i]'(by rw [hlen]; exact hi6)) := List.getElem?_eq_getElem _
          exact ⟨_, h1.trans hy⟩
        obtain ⟨y0, g0⟩ := each 0 f0 c0 rfl rfl
        obtain ⟨y1, g1⟩ := each 1 f1 c1 rfl rfl
        obtain ⟨p, hp, rfl, rfl⟩ := Sc_cells u0 u1 g0 g1
        have k0 := hcell 0 (by omega)
        have k1 := hcell 1 (by omega)
        rw [add_add] at k0 k1
        exact ⟨p, hp, by simpa using k0, by simpa using k1⟩
    obtain ⟨y, hy⟩ := choose_lt each
    refine ⟨(List.range len).map y, by simp, ?_, ?_, by omega, hcm⟩
    · by_cases hz : len = 0
      · subst hz; exact .inl rfl
      · right
        obtain ⟨b, off, spot⟩ := A
        have hc0 := (hy 0 (by omega)).2.1
        have hspot : spot = none := by simpa [Addr.add] using World.cell?_spot hc0
        subst hspot
        have hb : b < W.heap.size := by
          have := World.block_lt_of_cell? W _ hc0
          simpa [Addr.add] using this
        refine ⟨b, off, rfl, hb, fun i p hp => ?_⟩
        have hi : i < len := by have := (List.getElem?_eq_some_iff.1 hp).1; simpa using this
        simp [hi] at hp
        subst hp
        obtain ⟨_, e50, e51⟩ := hy i hi
        rw [Addr.add_lit] at e50 e51
        exact ⟨e50, by rw [Nat.add_assoc]; exact e51⟩
    · intro p hp
      obtain ⟨i, hi, rfl⟩ := List.mem_map.1 hp
      exact (hy i (List.mem_range.1 hi)).1
end
theorem Scs.below {w w' : World} {a : Option Addr} {l : List Sc} (h : Scs w a l) (hb : Below w.heap.size w w') : Scs w' a l := by
  rcases h with h | ⟨b, off, ha, hlt, hc⟩
  · exact .inl h
  · refine .inr ⟨b, off, ha, Nat.lt_of_lt_of_le hlt hb.size, fun i p hp => ?_⟩
    rw [hb.cell (p := ⟨b, off + i * 2, none⟩) hlt, hb.cell (p := ⟨b, off + i * 2 + 1, none⟩) hlt]
    exact hc i p hp
theorem Scs.at {w : World} {a : Option Addr} {l : List Sc} (h : Scs w a l) {i : Nat} (hi : i < l.length) :
    ∃ b off p, a = some ⟨b, off, none⟩ ∧ b < w.heap.size ∧ l[i]? = some p ∧ w.cell? ⟨b, off + i * 2, none⟩ = some (.int .i64 p.ver) ∧ w.cell? ⟨b, off + i * 2 + 1, none⟩ = some (.slice p.f p.fL.length p.fCap) := by
  rcases h with rfl | ⟨b, off, ha, hlt, hc⟩
  · simp at hi
  · have hp := List.getElem?_eq_getElem hi
    exact ⟨b, off, _, ha, hlt, hp, hc i _ hp⟩
/-- all that is asked of the type of a slice of such structs -/
def ScRow (P : Program) (t : TypeId) : Prop := ∃ (e : TypeId) (f0 f1 : Field), P.underlying t = some (.slice e) ∧ P.underlying e = some (.struct #[f0, f1]) ∧ oneCellFields P #[f0, f1] = true ∧ P.cellsOf e = 2 ∧ P.underlying f0.type = some (.int .i64) ∧ FmRow P f1.type
theorem open_ScRow {H : Type} {enc : TypeId × Value → H} {P : Program} {W : World} {t : TypeId} {v : Value} {n : Nat} {y : DataW H × List MemPlace} (hR : ScRow P t) (h : DataW.trod enc P W 0 (fun _ => true) true n t [v] = some y) : ∃ a cap L, v = .slice a (List.length L) cap ∧ Scs W a L ∧ (∀ p ∈ L, p.Good W) ∧ L.length ≤ cap ∧ cap ≤ maxLen := by
  obtain ⟨e, f0, f1, ht, he, hone, hC, u0, u1⟩ := hR
  have hv : ∃ a len cap, v = .slice a len cap := by
    rcases open_slice ht h with ⟨hcs, _⟩ | ⟨A, len, cap, m, n1, D, Pl, hcs, _⟩
    · exact ⟨none, 0, 0, by simpa using hcs⟩
    · exact ⟨_, _, _, by simpa using hcs⟩
  obtain ⟨a, len, cap, rfl⟩ := hv
  obtain ⟨L, rfl, h1, h2, h3, h4⟩ := open_Scs ht he hone hC u0 u1 (W := W) (enc := enc) (d := y.1) (pl := y.2) ⟨n, by simpa [Value.cells] using h⟩
  exact ⟨a, cap, L, rfl, h1, h2, h3, h4⟩
end Go.Proofs.Ytiajpjkkopdmgaa.schema
/- What a struct of 2 fields, and a list of such structs, that came in read as. No condition. -/
namespace Go.Proofs.Ytiajpjkkopdmgaa.field
open Go.ChangeShapes Go.WideShapes Go.ChangeAt Go.RowKit Go.Deep
set_option linter.unusedVariables false

structure Va where
  (n : Int) (s : ByteArray)
instance : Inhabited Va := ⟨⟨0, ⟨#[]⟩⟩⟩
def Va.val (p : Va) : Value := .agg #[.int .i64 p.n, .string p.s]
structure Va.Good (W : World) (p : Va) : Prop where
  unit : True
  bn : -9223372036854775808 ≤ p.n ∧ p.n ≤ 9223372036854775807
theorem Va.Good.below {W W' : World} {p : Va} (h : p.Good W) (hb : Below W.heap.size W W') : p.Good W' := ⟨h.unit, h.bn⟩
section
variable {H : Type} {enc : TypeId × Value → H} {P : Program} {W : World}
theorem Va_cells {t0 t1 : TypeId} {n : Nat} {v0 v1 : Value} {y0 y1 : DataW H × List MemPlace} (u0 : P.underlying t0 = some (.int .i64)) (u1 : P.underlying t1 = some .string)
    (h0 : DataW.trod enc P W 0 (fun _ => true) true n t0 [v0] = some y0) (h1 : DataW.trod enc P W 0 (fun _ => true) true n t1 [v1] = some y1) :
    ∃ p : Va, p.Good W ∧ v0 = .int .i64 p.n ∧ v1 = .string p.s := by
  obtain ⟨x0, e0, _, w0⟩ := DataW.trod_int u0 h0
  have a0 := wf_i64 _ w0
  obtain ⟨x1, e1, _⟩ := DataW.trod_string u1 h1
  exact ⟨⟨x0, x1⟩, ⟨trivial, a0⟩, by simpa using e0, by simpa using e1⟩
theorem open_Va_arg {r : Reach} {b0 : Nat} {t : TypeId} {f0 f1 : Field} {v : Value} {d : DataW H} {pl : List MemPlace} (hs : P.underlying t = some (.struct #[f0, f1])) (hone : oneCellFields P #[f0, f1] = true) (hC : P.cellsOf t = 2)
    (u0 : P.underlying f0.type = some (.int .i64)) (u1 : P.underlying f1.type = some .string)
    (hv : Value.okWide P W r b0 t v) (h : DataW.Trod enc P W 0 (fun _ => true) true t v d pl) : ∃ p : Va, p.Good W ∧ v = p.val := by
  obtain ⟨cs, rfl, hsz⟩ := okWide_struct hs hv
  obtain ⟨fuel, hf⟩ := h
  rw [hC] at hsz
  obtain ⟨l⟩ := cs
  match l, hsz with
  | [c0, c1], _ =>
    obtain ⟨ys, m, _, _, hl, hlen, hx⟩ := DataW.trod_struct hs hf
    have each : ∀ (i : Nat) (f : Field) (c : Value), #[f0, f1][i]? = some f → [c0, c1][i]? = some c → ∃ y, DataW.trod enc P W 0 (fun _ => true) true m f.type [c] = some y := by
      intro i f c hi hc
      obtain ⟨o, k⟩ := hone_of hone i f hi
      have hi6 : i < 2 := by have := (Array.getElem?_eq_some_iff.1 hi).1; simpa using this
      have h1 := hx i f hi
      rw [o, k] at h1
      have e : (((Value.agg ⟨[c0, c1]⟩).cells.toList.drop i).take 1) = [c] := by
        rw [List.take_one]
        have : ((Value.agg ⟨[c0, c1]⟩).cells.toList.drop i).head? = some c := by
          rw [List.head?_drop]; simpa [Value.cells] using hc
        rw [this]; rfl
      rw [e] at h1
      have hy : ys[i]? = some (ys[i]'(by rw [hlen]; exact hi6)) := List.getElem?_eq_getElem _
      exact ⟨_, h1.trans hy⟩
    obtain ⟨y0, g0⟩ := each 0 f0 c0 rfl rfl
    obtain ⟨y1, g1⟩ := each 1 f1 c1 rfl rfl
    obtain ⟨p, hp, rfl, rfl⟩ := Va_cells u0 u1 g0 g1
    exact ⟨p, hp, rfl⟩
/-- the slice at a reads as the list l -/
def Vas (w : World) (a : Option Addr) (l : List Va) : Prop :=
  l = [] ∨ ∃ b off, a = some ⟨b, off, none⟩ ∧ b < w.heap.size ∧ ∀ i p, l[i]? = some p → w.cell? ⟨b, off + i * 2, none⟩ = some (.int .i64 p.n) ∧ w.cell? ⟨b, off + i * 2 + 1, none⟩ = some (.string p.s)
theorem open_Vas {t e : TypeId} {f0 f1 : Field} {a : Option Addr} {len cap : Nat} {d : DataW H} {pl : List MemPlace} (ht : P.underlying t = some (.slice e)) (he : P.underlying e = some (.struct #[f0, f1])) (hone : oneCellFields P #[f0, f1] = true) (hC : P.cellsOf e = 2)
    (u0 : P.underlying f0.type = some (.int .i64)) (u1 : P.underlying f1.type = some .string)
    (h0 : DataW.Trod enc P W 0 (fun _ => true) true t (.slice a len cap) d pl) : ∃ l : List Va, len = l.length ∧ Vas W a l ∧ (∀ p ∈ l, p.Good W) ∧ len ≤ cap ∧ cap ≤ maxLen := by
  obtain ⟨fuel, hf⟩ := h0
  have hf2 : DataW.trod enc P W 0 (fun _ => true) true fuel t [.slice a len cap] = some (d, pl) := by simpa [Value.cells] using hf
  rcases open_slice ht hf2 with ⟨hcs, _⟩ | ⟨A, len', cap', q, n, D, Pl, hcs, _, hlc, hcm, hm, hx0, hrow⟩
  · simp at hcs
    obtain ⟨rfl, rfl, rfl⟩ := hcs
    exact ⟨[], rfl, .inl rfl, by simp, Nat.le_refl _, by unfold maxLen; omega⟩
  · simp at hcs
    obtain ⟨rfl, rfl, rfl⟩ := hcs
    simp only [if_true] at hm
    have each : ∀ r, r < len → ∃ p : Va, p.Good W ∧ W.cell? (A.add (r * 2)) = some (.int .i64 p.n) ∧ W.cell? (A.add (r * 2 + 1)) = some (.string p.s) := by
      intro r hr
      obtain ⟨cs', h1, h2⟩ := hrow r (by omega)
      rw [hC] at h1
      obtain ⟨_, hlen0, hcell⟩ := World.cells?_some h1
      obtain ⟨ys, m, _, _, hl, hlen, hx⟩ := DataW.trod_struct he h2
      rw [hC] at hl
      match cs', hl with
      | [c0, c1], _ =>
        have each : ∀ (i : Nat) (f : Field) (c : Value), #[f0, f1][i]? = some f → [c0, c1][i]? = some c → ∃ y, DataW.trod enc P W 0 (fun _ => true) true m f.type [c] = some y := by
          intro i f c hi hc
          obtain ⟨o, k⟩ := hone_of hone i f hi
          have hi6 : i < 2 := by have := (Array.getElem?_eq_some_iff.1 hi).1; simpa using this
          have h1 := hx i f hi
          rw [o, k] at h1
          have e : (([c0, c1].drop i).take 1) = [c] := by
            rw [List.take_one]
            have : ([c0, c1].drop i).head? = some c := by
              rw [List.head?_drop]; simpa using hc
            rw [this]; rfl
          rw [e] at h1
          have hy : ys[i]? = some (ys[i]'(by rw [hlen]; exact hi6)) := List.getElem?_eq_getElem _
          exact ⟨_, h1.trans hy⟩
        obtain ⟨y0, g0⟩ := each 0 f0 c0 rfl rfl
        obtain ⟨y1, g1⟩ := each 1 f1 c1 rfl rfl
        obtain ⟨p, hp, rfl, rfl⟩ := Va_cells u0 u1 g0 g1
        have k0 := hcell 0 (by omega)
        have k1 := hcell 1 (by omega)
        rw [add_add] at k0 k1
        exact ⟨p, hp, by simpa using k0, by simpa using k1⟩
    obtain ⟨y, hy⟩ := choose_lt each
    refine ⟨(List.range len).map y, by simp, ?_, ?_, by omega, hcm⟩
    · by_cases hz : len = 0
      · subst hz; exact .inl rfl
      · right
        obtain ⟨b, off, spot⟩ := A
        have hc0 := (hy 0 (by omega)).2.1
        have hspot : spot = none := by simpa [Addr.add] using World.cell?_spot hc0
        subst hspot
        have hb : b < W.heap.size := by
          have := World.block_lt_of_cell? W _ hc0
          simpa [Addr.add] using this
        refine ⟨b, off, rfl, hb, fun i p hp => ?_⟩
        have hi : i < len := by have := (List.getElem?_eq_some_iff.1 hp).1; simpa using this
        simp [hi] at hp
        subst hp
        obtain ⟨_, e50, e51⟩ := hy i hi
        rw [Addr.add_lit] at e50 e51
        exact ⟨e50, by rw [Nat.add_assoc]; exact e51⟩
    · intro p hp
      obtain ⟨i, hi, rfl⟩ := List.mem_map.1 hp
      exact (hy i (List.mem_range.1 hi)).1
end
theorem Vas.below {w w' : World} {a : Option Addr} {l : List Va} (h : Vas w a l) (hb : Below w.heap.size w w') : Vas w' a l := by
  rcases h with h | ⟨b, off, ha, hlt, hc⟩
  · exact .inl h
  · refine .inr ⟨b, off, ha, Nat.lt_of_lt_of_le hlt hb.size, fun i p hp => ?_⟩
    rw [hb.cell (p := ⟨b, off + i * 2, none⟩) hlt, hb.cell (p := ⟨b, off + i * 2 + 1, none⟩) hlt]
    exact hc i p hp
theorem Vas.at {w : World} {a : Option Addr} {l : List Va} (h : Vas w a l) {i : Nat} (hi : i < l.length) :
    ∃ b off p, a = some ⟨b, off, none⟩ ∧ b < w.heap.size ∧ l[i]? = some p ∧ w.cell? ⟨b, off + i * 2, none⟩ = some (.int .i64 p.n) ∧ w.cell? ⟨b, off + i * 2 + 1, none⟩ = some (.string p.s) := by
  rcases h with rfl | ⟨b, off, ha, hlt, hc⟩
  · simp at hi
  · have hp := List.getElem?_eq_getElem hi
    exact ⟨b, off, _, ha, hlt, hp, hc i _ hp⟩
end Go.Proofs.Ytiajpjkkopdmgaa.field
/- Fields and their values by plain numbers: when a field is right, what belongs to it, how a value is written and read. No condition. -/
namespace Go.Proofs.Ytiajpjkkopdmgaa.field
open Go.RowKit
set_option linter.unusedVariables false

/-- the bytes of a string -/
def bytesOf (s : ByteArray) : List Nat := s.data.toList.map UInt8.toNat
theorem bytesOf_length (s : ByteArray) : (bytesOf s).length = s.size := by unfold bytesOf; rw [List.length_map, Array.length_toList]; rfl
theorem bytesOf_lt (s : ByteArray) : ∀ x ∈ bytesOf s, x < 256 := by
  intro x hx
  obtain ⟨b, _, rfl⟩ := List.mem_map.1 hx
  exact b.toNat_lt
theorem strOf_nil : strOf [] = ⟨#[]⟩ := rfl
theorem strOf_bytes (s : ByteArray) : strOf (bytesOf s) = s := by
  obtain ⟨l⟩ := s
  unfold strOf strOfNums bytesOf
  congr 1
  apply Array.ext'
  simp [List.map_map, Function.comp_def]
theorem bytes_strOf {xs : List Nat} (h : ∀ x ∈ xs, x < 256) : bytesOf (strOf xs) = xs := by
  unfold strOf strOfNums bytesOf
  simp only [List.map_map]
  conv => rhs; rw [← List.map_id xs]
  apply List.map_congr_left
  intro x hx
  have := h x hx
  simp [UInt8.toNat_ofNat', Nat.mod_eq_of_lt this]
theorem strOf_size (xs : List Nat) : (strOf xs).size = xs.length := by unfold strOf; rw [strOfNums_size]; simp
theorem strCells_bytes (s : ByteArray) : Lib.strCells s = (bytesOf s).map fun x : Nat => Value.int .u8 (x : Int) := by
  simp [Lib.strCells, bytesOf, List.map_map, Function.comp_def]

def Fd.Right (f : Fd) : Prop :=
  (0 ≤ f.id ∧ f.id ≤ 255) ∧ ((f.kind = 1 ∧ f.lo ≤ f.hi ∧ -1099511627776 ≤ f.lo ∧ f.hi ≤ 1099511627776 ∧ f.most = 0) ∨ (f.kind = 2 ∧ (f.lo = 0 ∧ f.hi = 0) ∧ f.most = 0) ∨
    (f.kind = 3 ∧ (f.lo = 0 ∧ f.hi = 0) ∧ 1 ≤ f.most ∧ f.most ≤ 1000) ∨ (f.kind = 4 ∧ (f.lo = 0 ∧ f.hi = 0) ∧ 0 ≤ f.most ∧ f.most ≤ 32))
instance (f : Fd) : Decidable f.Right := by unfold Fd.Right; infer_instance
/-- the greatest number, and the length of the longest text -/
def Fd.great (f : Fd) : Int := if f.kind = 1 then f.hi else if f.kind = 2 then 1 else if f.kind = 3 then f.most - 1 else 0
def Fd.long (f : Fd) : Int := if f.kind = 4 then f.most else 0
def Fd.Has (f : Fd) (v : Va) : Prop := f.Right ∧ (f.lo ≤ v.n ∧ v.n ≤ f.great) ∧ (v.s.size : Int) ≤ f.long
instance (f : Fd) (v : Va) : Decidable (f.Has v) := by unfold Fd.Has; infer_instance
def Fd.least (f : Fd) : Int := if f.Right then f.lo else 0
def Fd.Wider (f g : Fd) : Prop := f.Right ∧ g.Right ∧ f.kind = g.kind ∧ g.lo ≤ f.lo ∧ f.hi ≤ g.hi ∧ f.most ≤ g.most
instance (f g : Fd) : Decidable (f.Wider g) := by unfold Fd.Wider; infer_instance

/-- how many bytes hold numbers up to n -/
def wide (n : Nat) : Nat := if n = 0 then 0 else if n < 256 then 1 else if n < 65536 then 2 else if n < 16777216 then 3 else if n < 4294967296 then 4 else if n < 1099511627776 then 5 else 6
theorem wide_le (n : Nat) : wide n ≤ 6 := by
  unfold wide
  repeat' split
  all_goals omega
theorem wide_div {n : Nat} (h : 0 < n) (hn : n < 281474976710656) : wide n = wide (n / 256) + 1 := by
  unfold wide
  repeat' split
  all_goals omega
theorem wide_lt {n : Nat} (hn : n < 281474976710656) : n < 256 ^ wide n := by
  unfold wide
  repeat' split
  all_goals first | omega | (simp; omega)
def Fd.size (f : Fd) : Nat := if f.Right then (if f.kind = 4 then 1 + f.most.toNat else wide (f.great - f.lo).toNat) else 0
theorem Fd.size_le (f : Fd) : f.size ≤ 33 := by
  unfold Fd.size
  split
  · rename_i h
    unfold Fd.Right at h
    have := wide_le (f.great - f.lo).toNat
    split <;> omega
  · omega

/-- the last k bytes of n, the greatest first -/
def digits (k n : Nat) : List Nat := (List.range k).map fun p => n / 256 ^ (k - 1 - p) % 256
theorem digits_length (k n : Nat) : (digits k n).length = k := by simp [digits]
theorem digits_lt (k n : Nat) : ∀ x ∈ digits k n, x < 256 := by
  intro x hx
  obtain ⟨p, _, rfl⟩ := List.mem_map.1 hx
  exact Nat.mod_lt _ (by omega)
theorem digits_snoc (k n : Nat) : digits (k + 1) n = digits k (n / 256) ++ [n % 256] := by
  unfold digits
  rw [List.range_succ, List.map_append]
  congr 1
  · apply List.map_congr_left
    intro p hp
    have hp := List.mem_range.1 hp
    rw [show k + 1 - 1 - p = (k - 1 - p) + 1 by omega, Nat.pow_succ, Nat.mul_comm, ← Nat.div_div_eq_div_mul]
  · simp
theorem digits_cons (k n : Nat) : digits (k + 1) n = (n / 256 ^ k % 256) :: digits k n := by
  unfold digits
  rw [List.range_succ_eq_map, List.map_cons, List.map_map]
  congr 1
  apply List.map_congr_left
  intro p hp
  simp only [Function.comp]
  rw [show k + 1 - 1 - Nat.succ p = k - 1 - p by omega]
/-- the number that bytes are -/
def num (xs : List Nat) : Nat := xs.foldl (fun a x => 256 * a + x) 0
theorem num_snoc (xs : List Nat) (x : Nat) : num (xs ++ [x]) = 256 * num xs + x := by simp [num, List.foldl_append]
theorem num_digits : ∀ (k n : Nat), num (digits k n) = n % 256 ^ k
  | 0, n => by simp [digits, num, Nat.mod_one]
  | k + 1, n => by
    rw [digits_snoc, num_snoc, num_digits k, Nat.pow_succ, Nat.mul_comm (256 ^ k) 256, Nat.mod_mul]
    omega
theorem num_lt : ∀ (k : Nat) (xs : List Nat), xs.length = k → (∀ x ∈ xs, x < 256) → num xs < 256 ^ k
  | 0, xs, h, _ => by
    obtain rfl := List.eq_nil_of_length_eq_zero h
    simp [num]
  | k + 1, xs, h, hx => by
    have hne : xs ≠ [] := by intro h0; simp [h0] at h
    have hd := List.dropLast_concat_getLast hne
    have hl : xs.dropLast.length = k := by simp [h]
    have h1 := num_lt k xs.dropLast hl (fun x hm => hx x ((List.dropLast_sublist xs).subset hm))
    have h2 := hx _ (List.getLast_mem hne)
    rw [← hd, num_snoc, Nat.pow_succ]
    omega
theorem digits_num : ∀ (k : Nat) (xs : List Nat), xs.length = k → (∀ x ∈ xs, x < 256) → digits k (num xs) = xs
  | 0, xs, h, _ => by
    obtain rfl := List.eq_nil_of_length_eq_zero h
    simp [digits]
  | k + 1, xs, h, hx => by
    have hne : xs ≠ [] := by intro h0; simp [h0] at h
    have hd := List.dropLast_concat_getLast hne
    have hl : xs.dropLast.length = k := by simp [h]
    have h1 := digits_num k xs.dropLast hl (fun x hm => hx x ((List.dropLast_sublist xs).subset hm))
    have h2 := hx _ (List.getLast_mem hne)
    conv => lhs; rw [← hd, num_snoc]
    rw [digits_snoc, show (256 * num xs.dropLast + xs.getLast hne) / 256 = num xs.dropLast by omega, show (256 * num xs.dropLast + xs.getLast hne) % 256 = xs.getLast hne by omega, h1]
    exact hd

/-- what Lay answers: the bytes and the error -/
def Fd.layE (f : Fd) (v : Va) : Int := if ¬ f.Right then 2 else if ¬ f.Has v then 16 else 0
def Fd.layB (f : Fd) (v : Va) : List Nat := if ¬ f.Has v then [] else if f.kind = 4 then v.s.size :: bytesOf v.s else digits f.size (v.n - f.lo).toNat
/-- what Take answers: the number and the bytes of the text, how many bytes it took, the error -/
structure Tk where
  (n : Int) (s : List Nat) (c : Nat) (e : Int)
def Fd.take (f : Fd) (xs : List Nat) : Tk :=
  if ¬ f.Right then ⟨0, [], 0, 2⟩ else if f.kind = 4 then
    (if xs.length < 1 then ⟨0, [], 0, 5⟩ else if f.most < (xs.getD 0 0 : Nat) then ⟨0, [], 0, 16⟩ else if xs.length < 1 + xs.getD 0 0 then ⟨0, [], 0, 5⟩ else ⟨0, (xs.drop 1).take (xs.getD 0 0), 1 + xs.getD 0 0, 0⟩)
  else if xs.length < f.size then ⟨0, [], 0, 5⟩ else if f.great - f.lo < (num (xs.take f.size) : Nat) then ⟨0, [], 0, 16⟩ else ⟨f.lo + (num (xs.take f.size) : Nat), [], f.size, 0⟩

theorem Fd.Right.span {f : Fd} (h : f.Right) : f.lo ≤ f.great ∧ f.great - f.lo ≤ 2199023255552 ∧ -1099511627776 ≤ f.lo ∧ f.lo ≤ 1099511627776 ∧ 0 ≤ f.long ∧ f.long ≤ 32 := by
  unfold Fd.Right at h
  unfold Fd.great Fd.long
  obtain ⟨_, h⟩ := h
  rcases h with h | h | h | h <;> obtain ⟨h1, h2⟩ := h <;> rw [h1] <;> simp <;> omega
theorem Fd.layB_lt (f : Fd) (v : Va) : ∀ x ∈ f.layB v, x < 256 := by
  unfold Fd.layB
  split
  · simp
  · rename_i h
    have h' : f.Has v := Classical.not_not.1 h
    obtain ⟨hr, _, h3⟩ := h'
    have := hr.span
    split
    · intro x hx
      rcases List.mem_cons.1 hx with rfl | hx
      · omega
      · exact bytesOf_lt _ x hx
    · exact digits_lt _ _
/-- a written value is read again, whatever stands behind it -/
theorem Fd.take_lay {f : Fd} {v : Va} (h : f.Has v) (more : List Nat) : f.take (f.layB v ++ more) = ⟨v.n, bytesOf v.s, (f.layB v).length, 0⟩ ∧ (f.layB v).length ≤ f.size := by
  have hh := h
  obtain ⟨hr, ⟨h1, h2⟩, h3⟩ := h
  have hs := hr.span
  have hL : f.layB v = if f.kind = 4 then v.s.size :: bytesOf v.s else digits f.size (v.n - f.lo).toNat := by unfold Fd.layB; rw [if_neg (show ¬¬ f.Has v from fun h => h hh)]
  rw [hL]
  unfold Fd.take
  rw [if_neg (show ¬¬ f.Right from fun h => h hr)]
  by_cases hk : f.kind = 4
  · have hr' := hr
    unfold Fd.Right at hr'
    have hg : f.great = 0 ∧ f.long = f.most := by simp [Fd.great, Fd.long, hk]
    have hv : v.n = 0 := by omega
    have hb := bytesOf_length v.s
    rw [if_pos hk, if_pos hk]
    simp only [List.cons_append, List.length_cons, List.getD_cons_zero, List.length_append, List.drop_succ_cons, List.drop_zero]
    rw [if_neg (by omega), if_neg (by omega), if_neg (by omega)]
    refine ⟨?_, ?_⟩
    · rw [hv, List.take_append_of_le_length (by omega), List.take_of_length_le (by omega), hb]
      congr 1; omega
    · unfold Fd.size; rw [if_pos hr, if_pos hk]; omega
  · rw [if_neg hk, if_neg hk]
    have hl : f.long = 0 := by simp [Fd.long, hk]
    have hse : bytesOf v.s = [] := List.eq_nil_of_length_eq_zero (by rw [bytesOf_length]; omega)
    have hsz : f.size = wide (f.great - f.lo).toNat := by unfold Fd.size; rw [if_pos hr, if_neg hk]
    have hw := wide_lt (n := (f.great - f.lo).toNat) (by omega)
    rw [← hsz] at hw
    have ht : (digits f.size (v.n - f.lo).toNat ++ more).take f.size = digits f.size (v.n - f.lo).toNat := by
      rw [List.take_append_of_le_length (by rw [digits_length]; omega), List.take_of_length_le (by rw [digits_length]; omega)]
    have hn : num (digits f.size (v.n - f.lo).toNat) = (v.n - f.lo).toNat := by rw [num_digits, Nat.mod_eq_of_lt (by omega)]
    rw [ht, hn, List.length_append, digits_length, if_neg (by omega), if_neg (by omega), hse]
    refine ⟨?_, by omega⟩
    congr 1; omega
/-- what was read belongs to the field, and has the bytes that were read -/
theorem Fd.lay_take {f : Fd} {xs : List Nat} (hx : ∀ x ∈ xs, x < 256) (h : (f.take xs).e = 0) :
    f.Has ⟨(f.take xs).n, strOf (f.take xs).s⟩ ∧ (f.take xs).c ≤ xs.length ∧ f.layB ⟨(f.take xs).n, strOf (f.take xs).s⟩ = xs.take (f.take xs).c := by
  have hx' : ∀ x ∈ (f.take xs).s, x < 256 := by
    unfold Fd.take
    split
    · simp
    · split
      · split
        · simp
        · split
          · simp
          · split
            · simp
            · intro x hm; exact hx x (List.mem_of_mem_drop (List.mem_of_mem_take hm))
      · split
        · simp
        · split <;> simp
  by_cases hr : f.Right
  case neg => simp [Fd.take, hr] at h
  have hs := hr.span
  by_cases hk : f.kind = 4
  · have hr' := hr
    unfold Fd.Right at hr'
    have hg : f.great = 0 ∧ f.long = f.most := by simp [Fd.great, Fd.long, hk]
    by_cases h1 : xs.length < 1
    · unfold Fd.take at h; rw [if_neg (show ¬¬ f.Right from fun h => h hr), if_pos hk, if_pos h1] at h; simp at h
    by_cases h2 : f.most < (xs.getD 0 0 : Nat)
    · unfold Fd.take at h; rw [if_neg (show ¬¬ f.Right from fun h => h hr), if_pos hk, if_neg h1, if_pos h2] at h; simp at h
    by_cases h3 : xs.length < 1 + xs.getD 0 0
    · unfold Fd.take at h; rw [if_neg (show ¬¬ f.Right from fun h => h hr), if_pos hk, if_neg h1, if_neg h2, if_pos h3] at h; simp at h
    have ht : f.take xs = ⟨0, (xs.drop 1).take (xs.getD 0 0), 1 + xs.getD 0 0, 0⟩ := by
      unfold Fd.take; rw [if_neg (show ¬¬ f.Right from fun h => h hr), if_pos hk, if_neg h1, if_neg h2, if_neg h3]
    rw [ht] at hx' ⊢
    simp only at hx' ⊢
    have hsl : (strOf ((xs.drop 1).take (xs.getD 0 0))).size = xs.getD 0 0 := by rw [strOf_size, List.length_take, List.length_drop]; omega
    have hH : f.Has ⟨0, strOf ((xs.drop 1).take (xs.getD 0 0))⟩ := by
      refine ⟨hr, ⟨by simp only; omega, by simp only; omega⟩, ?_⟩
      simp only; rw [hsl]; omega
    refine ⟨hH, by omega, ?_⟩
    unfold Fd.layB
    rw [if_neg (show ¬¬ f.Has _ from fun h => h hH), if_pos hk]
    simp only
    rw [hsl, bytes_strOf hx']
    cases xs with
    | nil => simp at h1
    | cons y ys => simp [Nat.add_comm 1]
  · by_cases h1 : xs.length < f.size
    · unfold Fd.take at h; rw [if_neg (show ¬¬ f.Right from fun h => h hr), if_neg hk, if_pos h1] at h; simp at h
    by_cases h2 : f.great - f.lo < (num (xs.take f.size) : Nat)
    · unfold Fd.take at h; rw [if_neg (show ¬¬ f.Right from fun h => h hr), if_neg hk, if_neg h1, if_pos h2] at h; simp at h
    have ht : f.take xs = ⟨f.lo + (num (xs.take f.size) : Nat), [], f.size, 0⟩ := by
      unfold Fd.take; rw [if_neg (show ¬¬ f.Right from fun h => h hr), if_neg hk, if_neg h1, if_neg h2]
    rw [ht]
    simp only
    have hH : f.Has ⟨f.lo + (num (xs.take f.size) : Nat), strOf []⟩ := by
      refine ⟨hr, ⟨by simp only; omega, by simp only; omega⟩, ?_⟩
      simp only; rw [strOf_size]; simp; omega
    refine ⟨hH, by omega, ?_⟩
    unfold Fd.layB
    rw [if_neg (show ¬¬ f.Has _ from fun h => h hH), if_neg hk]
    simp only
    rw [show (f.lo + (num (xs.take f.size) : Nat) - f.lo).toNat = num (xs.take f.size) by omega]
    exact digits_num _ _ (by rw [List.length_take]; omega) (fun x hm => hx x (List.mem_of_mem_take hm))
theorem Fd.Wider.has {f g : Fd} {v : Va} (h : f.Wider g) (hv : f.Has v) : g.Has v := by
  obtain ⟨h1, h2, h3, h4, h5, h6⟩ := h
  obtain ⟨_, ⟨h7, h8⟩, h9⟩ := hv
  refine ⟨h2, ⟨by omega, ?_⟩, ?_⟩
  · unfold Fd.great at h8 ⊢
    rw [← h3]
    split <;> rename_i hk
    · simp [hk] at h8; omega
    · simp only [hk, if_false] at h8
      split <;> rename_i hk2
      · simp [hk2] at h8; omega
      · simp only [hk2, if_false] at h8
        split <;> rename_i hk3
        · simp [hk3] at h8; omega
        · simp only [hk3, if_false] at h8; omega
  · unfold Fd.long at h9 ⊢
    rw [← h3]
    split <;> rename_i hk
    · simp [hk] at h9; omega
    · simp only [hk, if_false] at h9; omega
theorem Fd.least_has (f : Fd) : f.Right ↔ f.Has ⟨f.least, ⟨#[]⟩⟩ := by
  constructor
  · intro h
    have hs := h.span
    refine ⟨h, ?_, ?_⟩
    · unfold Fd.least; rw [if_pos h]; simp only; omega
    · show ((0 : Nat) : Int) ≤ _; omega
  · exact fun h => h.1
theorem Fd.wider_self (f : Fd) : f.Right ↔ f.Wider f := ⟨fun h => ⟨h, h, rfl, Int.le_refl _, Int.le_refl _, Int.le_refl _⟩, fun h => h.1⟩
end Go.Proofs.Ytiajpjkkopdmgaa.field
/- Counts of seven bits a byte, numbers with a sign and words as bytes: what is written, and how it is read. No condition. -/
namespace Go.Proofs.Ytiajpjkkopdmgaa.pen
set_option linter.unusedVariables false

/-- the bytes of a count -/
def vb (x : Nat) : List Nat := if h : x < 128 then [x] else (128 + x % 128) :: vb (x / 128)
  termination_by x
  decreasing_by omega
theorem vb_small {x : Nat} (h : x < 128) : vb x = [x] := by rw [vb, dif_pos h]
theorem vb_big {x : Nat} (h : ¬ x < 128) : vb x = (128 + x % 128) :: vb (x / 128) := by rw [vb, dif_neg h]
theorem vb_lt (x : Nat) : ∀ c ∈ vb x, c < 256 := by
  induction x using Nat.strongRecOn with
  | _ x ih =>
    intro c hc
    by_cases h : x < 128
    · rw [vb_small h, List.mem_singleton] at hc; omega
    · rw [vb_big h] at hc
      rcases List.mem_cons.1 hc with rfl | hc
      · omega
      · exact ih _ (by omega) c hc
theorem vb_pos (x : Nat) : 0 < (vb x).length := by
  by_cases h : x < 128
  · rw [vb_small h]; simp
  · rw [vb_big h]; simp
theorem vb_len : ∀ (k x : Nat), x < 128 ^ (k + 1) → (vb x).length ≤ k + 1
  | 0, x, h => by rw [vb_small (by simpa using h)]; simp
  | k + 1, x, h => by
    by_cases h1 : x < 128
    · rw [vb_small h1]; simp
    · have := vb_len k (x / 128) (by rw [Nat.pow_succ] at h; omega)
      rw [vb_big h1, List.length_cons]; omega
theorem vb_ten (x : Nat) (h : x < 18446744073709551616) : (vb x).length ≤ 10 := vb_len 9 x (by omega)

/-- the value of the groups, how many bytes, and the error: 4 another form, 5 it ends -/
def grp : Nat → Nat → List Nat → Nat × Nat × Nat
  | _, _, [] => (0, 0, 5)
  | i, u, c :: r => if i = 9 ∧ 1 < c then (0, 0, 4) else if 0 < i ∧ c = 0 then (0, 0, 4) else if c < 128 then (u + c * 128 ^ i, i + 1, 0) else grp (i + 1) (u + (c - 128) * 128 ^ i) r
theorem grp_vb (x : Nat) : ∀ (i u : Nat) (r : List Nat), i ≤ 9 → x * 128 ^ i < 18446744073709551616 → (i = 0 ∨ 0 < x) → grp i u (vb x ++ r) = (u + x * 128 ^ i, i + (vb x).length, 0) := by
  induction x using Nat.strongRecOn with
  | _ x ih =>
    intro i u r hi hx h0
    by_cases h : x < 128
    · rw [vb_small h, List.singleton_append, grp]
      rw [if_neg, if_neg, if_pos h]
      · rfl
      · omega
      · rintro ⟨rfl, h1⟩; omega
    · have hi9 : i ≠ 9 := by rintro rfl; omega
      have hp : x * 128 ^ i = (x % 128) * 128 ^ i + (x / 128) * 128 ^ (i + 1) := by
        rw [Nat.pow_succ, Nat.mul_comm (128 ^ i) 128, ← Nat.mul_assoc, ← Nat.add_mul]
        congr 1; omega
      rw [vb_big h, List.cons_append, grp, if_neg (by omega), if_neg (by omega), if_neg (by omega), ih (x / 128) (by omega) (i + 1) _ r (by omega) (by omega) (by omega)]
      rw [List.length_cons, show 128 + x % 128 - 128 = x % 128 by omega, hp]
      congr 1
      · omega
      · congr 1; omega
theorem grp_of_vb (x : Nat) (h : x < 18446744073709551616) (r : List Nat) : grp 0 0 (vb x ++ r) = (x, (vb x).length, 0) := by
  rw [grp_vb x 0 0 r (by omega) (by simpa using h) (.inl rfl)]; simp
/-- what grp may answer -/
def GrpOk (i n : Nat) (a : Nat × Nat × Nat) : Prop := a.1 < 18446744073709551616 ∧ (a.2.2 = 0 → a.2.1 ≤ i + n) ∧ a.2.1 ≤ 10 ∧ (a.2.2 = 0 ∨ a.2.2 = 4 ∨ a.2.2 = 5)
theorem grp_ok : ∀ (l : List Nat) (i u : Nat), i ≤ 9 → u < 128 ^ i → (∀ c ∈ l, c < 256) → GrpOk i l.length (grp i u l)
  | [], i, u, hi, hu, hl => ⟨by simp [grp], by simp [grp], by simp [grp], by simp [grp]⟩
  | c :: r, i, u, hi, hu, hl => by
    have hc := hl c (by simp)
    unfold grp
    split
    · exact ⟨by simp, by simp, by simp, by simp⟩
    · split
      · exact ⟨by simp, by simp, by simp, by simp⟩
      · rename_i h1 h2
        split
        · rename_i h3
          refine ⟨?_, fun _ => by simp only [List.length_cons]; omega, by show i + 1 ≤ 10; omega, by simp⟩
          show u + c * 128 ^ i < 18446744073709551616
          by_cases h9 : i = 9
          · subst h9
            have : c ≤ 1 := by omega
            have : c * 128 ^ 9 ≤ 1 * 128 ^ 9 := Nat.mul_le_mul_right _ this
            omega
          · have hle : (c + 1) * 128 ^ i ≤ 128 * 128 ^ i := Nat.mul_le_mul_right _ (by omega)
            rw [Nat.add_mul] at hle
            have h8 : 128 * 128 ^ i ≤ 128 ^ 9 := by rw [Nat.mul_comm, ← Nat.pow_succ]; exact Nat.pow_le_pow_right (by omega) (by omega)
            omega
        · rename_i h3
          have h9 : i ≠ 9 := by rintro rfl; omega
          have hle : (c - 128 + 1) * 128 ^ i ≤ 128 * 128 ^ i := Nat.mul_le_mul_right _ (by omega)
          rw [Nat.add_mul] at hle
          have := grp_ok r (i + 1) (u + (c - 128) * 128 ^ i) (by omega) (by rw [Nat.pow_succ, Nat.mul_comm (128 ^ i) 128]; omega) (fun d hd => hl d (by simp [hd]))
          exact ⟨this.1, fun h => by have := this.2.1 h; simp only [List.length_cons]; omega, this.2.2.1, this.2.2.2⟩

/-- the number of a number with its sign, and back -/
def zig (n : Int) : Nat := if n < 0 then (2 * (-n - 1) + 1).toNat else (2 * n).toNat
def unzig (u : Nat) : Int := if u % 2 = 1 then -((u / 2 : Nat) : Int) - 1 else ((u / 2 : Nat) : Int)
theorem unzig_zig (n : Int) : unzig (zig n) = n := by
  unfold zig unzig
  split
  · rw [if_pos (by omega)]; omega
  · rw [if_neg (by omega)]; omega
theorem zig_lt (n : Int) (h1 : -9223372036854775808 ≤ n) (h2 : n ≤ 9223372036854775807) : zig n < 18446744073709551616 := by
  unfold zig; split <;> omega
/-- the bytes of a word -/
def wb (x : Nat) : List Nat := [x / 16777216, x / 65536 % 256, x / 256 % 256, x % 256]
theorem wb_lt (x : Nat) (h : x < 4294967296) : ∀ c ∈ wb x, c < 256 := by
  intro c hc
  simp only [wb, List.mem_cons, List.not_mem_nil, or_false] at hc
  omega
/-- bytes as a number -/
def folded (l : List Nat) : Nat := l.foldl (fun x b => 256 * x + b) 0
theorem folded_wb (x : Nat) (h : x < 4294967296) : folded (wb x) = x := by
  simp only [folded, wb, List.foldl_cons, List.foldl_nil]; omega
theorem folded_one (x : Nat) : folded [x] = x := by simp [folded]
theorem folded_snoc (l : List Nat) (x : Nat) : folded (l ++ [x]) = 256 * folded l + x := by simp [folded]
theorem folded_lt : ∀ (n : Nat) (l : List Nat), l.length = n → (∀ c ∈ l, c < 256) → folded l < 256 ^ n := by
  intro n
  induction n with
  | zero => intro l h _; obtain rfl := List.eq_nil_of_length_eq_zero h; simp [folded]
  | succ n ih =>
    intro l h hl
    have hne : l ≠ [] := by intro e; rw [e] at h; simp at h
    rw [← List.dropLast_concat_getLast hne, folded_snoc]
    have h1 := ih l.dropLast (by simp [h]) (fun c hc => hl c ((List.dropLast_sublist l).subset hc))
    have h2 := hl _ (List.getLast_mem hne)
    rw [Nat.pow_succ]; omega
/-- the bytes of a string, as numbers -/
def nums (s : List UInt8) : List Nat := s.map UInt8.toNat
theorem nums_lt (s : List UInt8) : ∀ c ∈ nums s, c < 256 := by
  intro c hc
  obtain ⟨b, _, rfl⟩ := List.mem_map.1 hc
  exact b.toNat_lt
theorem nums_len (s : List UInt8) : (nums s).length = s.length := by simp [nums]

/-- a piece: kind, number, text -/
abbrev Piece := Int × Int × List UInt8
/-- what the document writes for a piece -/
def enc (p : Piece) : List Nat :=
  if p.1 = 0 then [(p.2.1 % 256).toNat] else if p.1 = 1 then (if p.2.1 < 0 then [] else vb p.2.1.toNat) else if p.1 = 2 then vb (zig p.2.1) else if p.1 = 3 then wb (p.2.1 % 4294967296).toNat
  else vb p.2.2.length ++ nums p.2.2
def encs (l : List Piece) : List Nat := (l.map enc).flatten
/-- a count that is negative -/
def ill (p : Piece) : Bool := p.1 == 1 && decide (p.2.1 < 0)
theorem enc_lt (p : Piece) : ∀ c ∈ enc p, c < 256 := by
  intro c hc
  unfold enc at hc
  split at hc
  · rw [List.mem_singleton] at hc; omega
  · split at hc
    · split at hc
      · cases hc
      · exact vb_lt _ c hc
    · split at hc
      · exact vb_lt _ c hc
      · split at hc
        · exact wb_lt _ (by omega) c hc
        · rcases List.mem_append.1 hc with h | h
          · exact vb_lt _ c h
          · exact nums_lt _ c h

/-! the reading: what was not read, and the first error -/
abbrev Sight := List Nat × Nat
def eNext (n : Nat) (s : Sight) : List Nat × Sight := if s.2 ≠ 0 then ([], s) else if s.1.length < n then ([], (s.1, 5)) else (s.1.take n, (s.1.drop n, 0))
def eNum (n : Nat) (s : Sight) : Nat × Sight := (folded (eNext n s).1, (eNext n s).2)
def eVar (fits most : Nat) (s : Sight) : Nat × Sight :=
  if s.2 ≠ 0 then (0, s) else if (grp 0 0 s.1).2.2 ≠ 0 then (0, (s.1, (grp 0 0 s.1).2.2)) else if fits < (grp 0 0 s.1).1 then (0, (s.1, 4)) else if most < (grp 0 0 s.1).1 then (0, (s.1, 7))
  else ((grp 0 0 s.1).1, (s.1.drop (grp 0 0 s.1).2.1, 0))
def eCount (most : Int) (s : Sight) : Nat × Sight := eVar 9223372036854775807 (max most 0).toNat s
def eInt (s : Sight) : Int × Sight := (unzig (eVar 18446744073709551615 18446744073709551615 s).1, (eVar 18446744073709551615 18446744073709551615 s).2)
def eText (most : Int) (s : Sight) : List Nat × Sight :=
  ((eNext (eCount most s).1 (eCount most s).2).1, if (eNext (eCount most s).1 (eCount most s).2).2.2 ≠ 0 then (s.1, (eNext (eCount most s).1 (eCount most s).2).2.2) else (eNext (eCount most s).1 (eCount most s).2).2)
def eEnd (s : Sight) : Nat := if s.2 = 0 ∧ 0 < s.1.length then 6 else s.2
theorem eNext_lt {n : Nat} {s : Sight} (h : ∀ c ∈ s.1, c < 256) : ∀ c ∈ (eNext n s).1, c < 256 := by
  unfold eNext
  split
  · intro c hc; cases hc
  · split
    · intro c hc; cases hc
    · intro c hc; exact h c (List.mem_of_mem_take hc)
theorem eNext_len (n : Nat) (s : Sight) : (eNext n s).1.length ≤ n := by
  unfold eNext
  split
  · exact Nat.zero_le _
  · split
    · exact Nat.zero_le _
    · rw [List.length_take]; exact Nat.min_le_left _ _
theorem eNum_lt (n : Nat) (s : Sight) (h : ∀ c ∈ s.1, c < 256) (hn : n ≤ 4) : (eNum n s).1 < 4294967296 := by
  have h1 := folded_lt _ _ rfl (eNext_lt (n := n) h)
  have h2 := eNext_len n s
  have h3 : 256 ^ (eNext n s).1.length ≤ 256 ^ 4 := Nat.pow_le_pow_right (by omega) (by omega)
  unfold eNum
  show folded _ < _
  omega
theorem eNum_one (s : Sight) (h : ∀ c ∈ s.1, c < 256) : (eNum 1 s).1 < 256 := by
  have h1 := folded_lt _ _ rfl (eNext_lt (n := 1) h)
  have h2 := eNext_len 1 s
  have h3 : 256 ^ (eNext 1 s).1.length ≤ 256 ^ 1 := Nat.pow_le_pow_right (by omega) (by omega)
  unfold eNum
  show folded _ < _
  omega
theorem grp_ok0 (l : List Nat) (h : ∀ c ∈ l, c < 256) : GrpOk 0 l.length (grp 0 0 l) := grp_ok l 0 0 (by omega) (by simp) h
theorem eVar_le (fits most : Nat) (s : Sight) : (eVar fits most s).1 ≤ fits ∧ (eVar fits most s).1 ≤ most := by
  unfold eVar
  split
  · exact ⟨Nat.zero_le _, Nat.zero_le _⟩
  · split
    · exact ⟨Nat.zero_le _, Nat.zero_le _⟩
    · split
      · exact ⟨Nat.zero_le _, Nat.zero_le _⟩
      · split
        · exact ⟨Nat.zero_le _, Nat.zero_le _⟩
        · exact ⟨by omega, by omega⟩

/-! there and back -/
theorem eNext_enc (n : Nat) (a r : List Nat) (h : a.length = n) : eNext n (a ++ r, 0) = (a, (r, 0)) := by
  subst h
  simp [eNext]
theorem eVar_vb (fits most x : Nat) (r : List Nat) (h : x < 18446744073709551616) (h1 : x ≤ fits) (h2 : x ≤ most) : eVar fits most (vb x ++ r, 0) = (x, (r, 0)) := by
  unfold eVar
  rw [if_neg (by simp)]
  show (if (grp 0 0 (vb x ++ r)).2.2 ≠ 0 then _ else _) = _
  rw [grp_of_vb x h r]
  simp only [ne_eq, not_true_eq_false, if_false]
  rw [if_neg (by omega), if_neg (by omega)]
  simp
end Go.Proofs.Ytiajpjkkopdmgaa.pen
