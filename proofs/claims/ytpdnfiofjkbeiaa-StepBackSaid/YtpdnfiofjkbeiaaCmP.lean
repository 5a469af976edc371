/- Contracts and lemmas that the claims of this seat share: Late, LateS, StepTakeM, StepTakeS. Each says its own conditions. -/
import Derived.Test.YtpdnfiofjkbeiaaCmO
import Derived.WalkMore
import Derived.Test.YtpdnfiofjkbeiaaCmL
/- A region whose order is open: a load (1) that may come up at any time beside a call (3) and a row that is made of its answer (4). Whatever the order, behind the three the state is the same. No condition. -/
namespace Go.Proofs.Ytpdnfiofjkbeiaa.plan
open Go Go.RowKit
set_option linter.unusedVariables false
section
variable {P : Program} {md : Region.Mode} {Q : Exit → Act → World → Prop} {l : List Oper}
/-- one of two operations that may come up -/
theorem twoT {f : Nat} {listed : Array Bool} {a : Act} {w : World} (i j : Nat) (hne : Region.ready md l.toArray listed ≠ []) (hr : ∀ k ∈ Region.ready md l.toArray listed, k = i ∨ k = j)
    (hi : ∃ o, l[i]? = some o ∧ o.guard = none ∧ ((∃ v w1, (execOp a.eval o).run P w = .ok (.value v) w1 ∧ wpAnyH P md l.toArray (NoPanic Q) (fun _ => True) f (listed.setIfInBounds i true) (a.put o.dst v) w1) ∨ (∃ F args, (execOp a.eval o).run P w = .ok (.enter F args) w ∧ Calls P F args w fun e w' => ∃ v, e = .returned v ∧ wpAnyH P md l.toArray (NoPanic Q) (fun _ => True) f (listed.setIfInBounds i true) (a.put o.dst v) w')))
    (hj : ∃ o, l[j]? = some o ∧ o.guard = none ∧ ((∃ v w1, (execOp a.eval o).run P w = .ok (.value v) w1 ∧ wpAnyH P md l.toArray (NoPanic Q) (fun _ => True) f (listed.setIfInBounds j true) (a.put o.dst v) w1) ∨ (∃ F args, (execOp a.eval o).run P w = .ok (.enter F args) w ∧ Calls P F args w fun e w' => ∃ v, e = .returned v ∧ wpAnyH P md l.toArray (NoPanic Q) (fun _ => True) f (listed.setIfInBounds j true) (a.put o.dst v) w'))) :
    wpAnyH P md l.toArray (NoPanic Q) (fun _ => True) (f + 1) listed a w := by
  refine wpAnyH_all rfl hne fun k hk => ?_
  have go : ∀ i, (∃ o, l[i]? = some o ∧ o.guard = none ∧ ((∃ v w1, (execOp a.eval o).run P w = .ok (.value v) w1 ∧ wpAnyH P md l.toArray (NoPanic Q) (fun _ => True) f (listed.setIfInBounds i true) (a.put o.dst v) w1) ∨ (∃ F args, (execOp a.eval o).run P w = .ok (.enter F args) w ∧ Calls P F args w fun e w' => ∃ v, e = .returned v ∧ wpAnyH P md l.toArray (NoPanic Q) (fun _ => True) f (listed.setIfInBounds i true) (a.put o.dst v) w'))) → _ := fun i h => h
  rcases hr k hk with rfl | rfl
  · obtain ⟨o, h1, h2, h3⟩ := hi
    have hi' : l.toArray[k]? = some o := by simpa using h1
    have hw : Region.wanted o (yielded l.toArray a.tmps) = true := by unfold Region.wanted; rw [h2]
    unfold wpOp
    rcases h3 with ⟨v, w1, hv, h⟩ | ⟨F, args, hv, h⟩
    · simp only [hi', hw, if_true, Oper.wp, hv, Oper.upon_value]
      exact .inl ⟨trivial, h⟩
    · simp only [hi', hw, if_true, Oper.wp, hv, Oper.upon]
      refine .inl (h.mono ?_)
      rintro e w' ⟨v, rfl, hR⟩
      exact ⟨trivial, hR⟩
  · obtain ⟨o, h1, h2, h3⟩ := hj
    have hi' : l.toArray[k]? = some o := by simpa using h1
    have hw : Region.wanted o (yielded l.toArray a.tmps) = true := by unfold Region.wanted; rw [h2]
    unfold wpOp
    rcases h3 with ⟨v, w1, hv, h⟩ | ⟨F, args, hv, h⟩
    · simp only [hi', hw, if_true, Oper.wp, hv, Oper.upon_value]
      exact .inl ⟨trivial, h⟩
    · simp only [hi', hw, if_true, Oper.wp, hv, Oper.upon]
      refine .inl (h.mono ?_)
      rintro e w' ⟨v, rfl, hR⟩
      exact ⟨trivial, hR⟩
theorem late {f : Nat} {a : Act} {w0 : World} (i1 i3 i4 d1 d3 d4 : Nat) (n13 : d1 ≠ d3) (n14 : d1 ≠ d4) (o1 o3 o4 : Oper) (L : Bool → Bool → Bool → Array Bool)
    (l1 : l[i1]? = some o1) (l3 : l[i3]? = some o3) (l4 : l[i4]? = some o4) (g1 : o1.guard = none) (g3 : o3.guard = none) (g4 : o4.guard = none) (e1 : o1.dst = some d1) (e3 : o3.dst = some d3) (e4 : o4.dst = some d4)
    (s1 : ∀ y z, (L false y z).setIfInBounds i1 true = L true y z) (s3 : ∀ x, (L x false false).setIfInBounds i3 true = L x true false) (s4 : ∀ x, (L x true false).setIfInBounds i4 true = L x true true)
    (r0 : Region.ready md l.toArray (L false false false) = [i1, i3]) (r1 : Region.ready md l.toArray (L true false false) = [i3]) (r01 : Region.ready md l.toArray (L false true false) = [i1, i4]) (r11 : Region.ready md l.toArray (L true true false) = [i4]) (r02 : Region.ready md l.toArray (L false true true) = [i1])
    (u : Value) (F : FuncId) (args : Array Value) (M : Value → World → Prop) (G : Value → World → Value) (NW : Value → World → World)
    (hl0 : (execOp a.eval o1).run P w0 = .ok (.value u) w0) (hl1 : ∀ v w', M v w' → (execOp (a.put (some d3) v).eval o1).run P w' = .ok (.value u) w') (hl2 : ∀ v w', M v w' → (execOp ((a.put (some d3) v).put (some d4) (G v w')).eval o1).run P (NW v w') = .ok (.value u) (NW v w'))
    (hc0 : (execOp a.eval o3).run P w0 = .ok (.enter F args) w0) (hc1 : (execOp (a.put (some d1) u).eval o3).run P w0 = .ok (.enter F args) w0) (hC : Calls P F args w0 fun e w' => ∃ v, e = .returned v ∧ M v w')
    (hb0 : ∀ v w', M v w' → (execOp (a.put (some d3) v).eval o4).run P w' = .ok (.value (G v w')) (NW v w')) (hb1 : ∀ v w', M v w' → (execOp ((a.put (some d1) u).put (some d3) v).eval o4).run P w' = .ok (.value (G v w')) (NW v w'))
    (h : ∀ v w', M v w' → wpAnyH P md l.toArray (NoPanic Q) (fun _ => True) f (L true true true) (((a.put (some d1) u).put (some d3) v).put (some d4) (G v w')) (NW v w')) :
    wpAnyH P md l.toArray (NoPanic Q) (fun _ => True) (f + 3) (L false false false) a w0 := by
  -- behind load and call
  have k11 : ∀ v w', M v w' → wpAnyH P md l.toArray (NoPanic Q) (fun _ => True) (f + 1) (L true true false) ((a.put (some d1) u).put (some d3) v) w' := fun v w' hM => by
    refine oneT i4 o4 (G v w') l4 g4 r11 (hb1 v w' hM) ?_
    rw [e4, s4]; exact h v w' hM
  have k10 : wpAnyH P md l.toArray (NoPanic Q) (fun _ => True) (f + 2) (L true false false) (a.put (some d1) u) w0 := by
    refine twoT i3 i3 (by rw [r1]; simp) (by rw [r1]; simp) ?_ ?_ <;>
    · refine ⟨o3, l3, g3, .inr ⟨F, args, hc1, hC.mono ?_⟩⟩
      rintro e w' ⟨v, rfl, hM⟩
      refine ⟨v, rfl, ?_⟩
      rw [e3, s3]; exact k11 v w' hM
  have k02 : ∀ v w', M v w' → wpAnyH P md l.toArray (NoPanic Q) (fun _ => True) (f + 1) (L false true true) ((a.put (some d3) v).put (some d4) (G v w')) (NW v w') := fun v w' hM => by
    refine oneT i1 o1 u l1 g1 r02 (hl2 v w' hM) ?_
    rw [e1, s1, put_comm _ d4 d1 _ _ (Ne.symm n14), put_comm _ d3 d1 _ _ (Ne.symm n13)]; exact h v w' hM
  have k01 : ∀ v w', M v w' → wpAnyH P md l.toArray (NoPanic Q) (fun _ => True) (f + 2) (L false true false) (a.put (some d3) v) w' := fun v w' hM => by
    refine twoT i1 i4 (by rw [r01]; simp) (by rw [r01]; simp) ?_ ?_
    · refine ⟨o1, l1, g1, .inl ⟨u, w', hl1 v w' hM, ?_⟩⟩
      rw [e1, s1, put_comm _ d3 d1 _ _ (Ne.symm n13)]; exact k11 v w' hM
    · refine ⟨o4, l4, g4, .inl ⟨_, _, hb0 v w' hM, ?_⟩⟩
      rw [e4, s4]; exact k02 v w' hM
  refine twoT i1 i3 (by rw [r0]; simp) (by rw [r0]; simp) ?_ ?_
  · refine ⟨o1, l1, g1, .inl ⟨u, w0, hl0, ?_⟩⟩
    rw [e1, s1]; exact k10
  · refine ⟨o3, l3, g3, .inr ⟨F, args, hc0, hC.mono ?_⟩⟩
    rintro e w' ⟨v, rfl, hM⟩
    refine ⟨v, rfl, ?_⟩
    rw [e3, s3]; exact k01 v w' hM
end
end Go.Proofs.Ytpdnfiofjkbeiaa.plan
/- The region of XLate under a condition S on the world that every operation keeps: what lies ahead of the call may look at what S holds. No condition. -/
namespace Go.Proofs.Ytpdnfiofjkbeiaa.plan
open Go Go.RowKit
set_option linter.unusedVariables false
section
variable {P : Program} {md : Region.Mode} {Q : Exit → Act → World → Prop} {l : List Oper}
/-- one of two operations that may come up -/
theorem twoS {S : World → Prop} {f : Nat} {listed : Array Bool} {a : Act} {w : World} (i j : Nat) (hne : Region.ready md l.toArray listed ≠ []) (hr : ∀ k ∈ Region.ready md l.toArray listed, k = i ∨ k = j)
    (hi : ∃ o, l[i]? = some o ∧ o.guard = none ∧ ((∃ v w1, (execOp a.eval o).run P w = .ok (.value v) w1 ∧ S w1 ∧ wpAnyH P md l.toArray (NoPanic Q) S f (listed.setIfInBounds i true) (a.put o.dst v) w1) ∨ (∃ F args, (execOp a.eval o).run P w = .ok (.enter F args) w ∧ Calls P F args w fun e w' => ∃ v, e = .returned v ∧ S w' ∧ wpAnyH P md l.toArray (NoPanic Q) S f (listed.setIfInBounds i true) (a.put o.dst v) w')))
    (hj : ∃ o, l[j]? = some o ∧ o.guard = none ∧ ((∃ v w1, (execOp a.eval o).run P w = .ok (.value v) w1 ∧ S w1 ∧ wpAnyH P md l.toArray (NoPanic Q) S f (listed.setIfInBounds j true) (a.put o.dst v) w1) ∨ (∃ F args, (execOp a.eval o).run P w = .ok (.enter F args) w ∧ Calls P F args w fun e w' => ∃ v, e = .returned v ∧ S w' ∧ wpAnyH P md l.toArray (NoPanic Q) S f (listed.setIfInBounds j true) (a.put o.dst v) w'))) :
    wpAnyH P md l.toArray (NoPanic Q) S (f + 1) listed a w := by
  refine every hne fun k hk => ?_
  rcases hr k hk with rfl | rfl
  · exact hi
  · exact hj
theorem lateS {S : World → Prop} {f : Nat} {a : Act} {w0 : World} (i1 i3 i4 d1 d3 d4 : Nat) (n13 : d1 ≠ d3) (n14 : d1 ≠ d4) (o1 o3 o4 : Oper) (L : Bool → Bool → Bool → Array Bool)
    (l1 : l[i1]? = some o1) (l3 : l[i3]? = some o3) (l4 : l[i4]? = some o4) (g1 : o1.guard = none) (g3 : o3.guard = none) (g4 : o4.guard = none) (e1 : o1.dst = some d1) (e3 : o3.dst = some d3) (e4 : o4.dst = some d4)
    (s1 : ∀ y z, (L false y z).setIfInBounds i1 true = L true y z) (s3 : ∀ x, (L x false false).setIfInBounds i3 true = L x true false) (s4 : ∀ x, (L x true false).setIfInBounds i4 true = L x true true)
    (r0 : Region.ready md l.toArray (L false false false) = [i1, i3]) (r1 : Region.ready md l.toArray (L true false false) = [i3]) (r01 : Region.ready md l.toArray (L false true false) = [i1, i4]) (r11 : Region.ready md l.toArray (L true true false) = [i4]) (r02 : Region.ready md l.toArray (L false true true) = [i1])
    (u : Value) (F : FuncId) (args : Array Value) (M : Value → World → Prop) (G : Value → World → Value) (NW : Value → World → World)
    (hl0 : (execOp a.eval o1).run P w0 = .ok (.value u) w0) (hl1 : ∀ v w', M v w' → (execOp (a.put (some d3) v).eval o1).run P w' = .ok (.value u) w') (hl2 : ∀ v w', M v w' → (execOp ((a.put (some d3) v).put (some d4) (G v w')).eval o1).run P (NW v w') = .ok (.value u) (NW v w'))
    (hc0 : (execOp a.eval o3).run P w0 = .ok (.enter F args) w0) (hc1 : (execOp (a.put (some d1) u).eval o3).run P w0 = .ok (.enter F args) w0) (hC : Calls P F args w0 fun e w' => ∃ v, e = .returned v ∧ M v w')
    (hb0 : ∀ v w', M v w' → (execOp (a.put (some d3) v).eval o4).run P w' = .ok (.value (G v w')) (NW v w')) (hb1 : ∀ v w', M v w' → (execOp ((a.put (some d1) u).put (some d3) v).eval o4).run P w' = .ok (.value (G v w')) (NW v w'))
    (hS0 : S w0) (hSM : ∀ v w', M v w' → S w') (hSN : ∀ v w', M v w' → S (NW v w'))
    (h : ∀ v w', M v w' → wpAnyH P md l.toArray (NoPanic Q) S f (L true true true) (((a.put (some d1) u).put (some d3) v).put (some d4) (G v w')) (NW v w')) :
    wpAnyH P md l.toArray (NoPanic Q) S (f + 3) (L false false false) a w0 := by
  -- behind load and call
  have k11 : ∀ v w', M v w' → wpAnyH P md l.toArray (NoPanic Q) S (f + 1) (L true true false) ((a.put (some d1) u).put (some d3) v) w' := fun v w' hM => by
    refine oneS i4 o4 (G v w') l4 g4 r11 (hb1 v w' hM) (hSN v w' hM) ?_
    rw [e4, s4]; exact h v w' hM
  have k10 : wpAnyH P md l.toArray (NoPanic Q) S (f + 2) (L true false false) (a.put (some d1) u) w0 := by
    refine twoS i3 i3 (by rw [r1]; simp) (by rw [r1]; simp) ?_ ?_ <;>
    · refine ⟨o3, l3, g3, .inr ⟨F, args, hc1, hC.mono ?_⟩⟩
      rintro e w' ⟨v, rfl, hM⟩
      refine ⟨v, rfl, hSM v w' hM, ?_⟩
      rw [e3, s3]; exact k11 v w' hM
  have k02 : ∀ v w', M v w' → wpAnyH P md l.toArray (NoPanic Q) S (f + 1) (L false true true) ((a.put (some d3) v).put (some d4) (G v w')) (NW v w') := fun v w' hM => by
    refine oneS i1 o1 u l1 g1 r02 (hl2 v w' hM) (hSN v w' hM) ?_
    rw [e1, s1, put_comm _ d4 d1 _ _ (Ne.symm n14), put_comm _ d3 d1 _ _ (Ne.symm n13)]; exact h v w' hM
  have k01 : ∀ v w', M v w' → wpAnyH P md l.toArray (NoPanic Q) S (f + 2) (L false true false) (a.put (some d3) v) w' := fun v w' hM => by
    refine twoS i1 i4 (by rw [r01]; simp) (by rw [r01]; simp) ?_ ?_
    · refine ⟨o1, l1, g1, .inl ⟨u, w', hl1 v w' hM, hSM v w' hM, ?_⟩⟩
      rw [e1, s1, put_comm _ d3 d1 _ _ (Ne.symm n13)]; exact k11 v w' hM
    · refine ⟨o4, l4, g4, .inl ⟨_, _, hb0 v w' hM, hSN v w' hM, ?_⟩⟩
      rw [e4, s4]; exact k02 v w' hM
  refine twoS i1 i3 (by rw [r0]; simp) (by rw [r0]; simp) ?_ ?_
  · refine ⟨o1, l1, g1, .inl ⟨u, w0, hl0, hS0, ?_⟩⟩
    rw [e1, s1]; exact k10
  · refine ⟨o3, l3, g3, .inr ⟨F, args, hc0, hC.mono ?_⟩⟩
    rintro e w' ⟨v, rfl, hM⟩
    refine ⟨v, rfl, hSM v w' hM, ?_⟩
    rw [e3, s3]; exact k01 v w' hM
theorem oneES {S : World → Prop} {f : Nat} {listed : Array Bool} {a : Act} {w : World} (i : Nat) (o : Oper) (Pr : Value → World → Prop) (hi : l[i]? = some o) (hg : o.guard = none) (hr : Region.ready md l.toArray listed = [i])
    (hv : ∃ v w1, (execOp a.eval o).run P w = .ok (.value v) w1 ∧ Pr v w1) (hS : ∀ v w1, Pr v w1 → S w1) (h : ∀ v w1, Pr v w1 → wpAnyH P md l.toArray (NoPanic Q) S f (listed.setIfInBounds i true) (a.put o.dst v) w1) : wpAnyH P md l.toArray (NoPanic Q) S (f + 1) listed a w := by
  obtain ⟨v, w1, h1, h2⟩ := hv
  exact oneS i o v hi hg hr h1 (hS v w1 h2) (h v w1 h2)
theorem toLS {S : World → Prop} {n : Nat} {listed : Array Bool} {a : Act} {w : World} (f : Nat) (L : Bool → Bool → Bool → Array Bool) (hf : n = f + 3) (hl : listed = L false false false)
    (h : wpAnyH P md l.toArray (NoPanic Q) S (f + 3) (L false false false) a w) : wpAnyH P md l.toArray (NoPanic Q) S n listed a w := by
  subst hf hl
  exact h
end
end Go.Proofs.Ytpdnfiofjkbeiaa.plan
/- Contract of layer 15 (step): parseMember. No condition. -/
namespace Go.Proofs.Ytpdnfiofjkbeiaa.step
open Go.RowKit Go.Proofs.Ytpdnfiofjkbeiaa.pen
open Go.Proofs.Ytpdnfiofjkbeiaa.field (newB)
open Go.Proofs.Ytpdnfiofjkbeiaa.schema (eCount_le StayT stay_but stay_grown stay_store stay_below EyeAt.blk fdV fdC exec_push_fd exec_put_fd exec_cell_slice')
set_option linter.unusedVariables false

variable {Ty : TypeId} {b T : Nat} {w0 : World} {s : Sp} {e : Sight} {ta la : Option Addr} {tc lc : Nat}
/-- rows of members stay -/
abbrev StayM (w w' : World) : Prop := StayT 49 w w'
theorem stay_eye {w w' : World} (hE : EyeAt Ty b e w) (hT : Ty ≠ 49) (hu : But w.heap.size b w w') : StayM w w' := by
  obtain ⟨cs, hB⟩ := Go.Proofs.Ytpdnfiofjkbeiaa.schema.EyeAt.blk hE
  exact stay_but _ hu hB hT
theorem stay_put {w : World} (h : TS Ty b T w0 s e ta tc la lc w) (j : Nat) (v : Value) : StayM w (w.setCell ⟨T, j, none⟩ v) := stay_store _ h.f (by decide) j v
theorem eye_ty : (98 : TypeId) ≠ 49 := by decide
theorem TS.putF {w : World} (h : TS Ty b T w0 s e ta tc la lc w) (p : field.Fd) : TS Ty b T w0 { s with f := p } e ta tc la lc (((((w.setCell ⟨T, 7, none⟩ (.int .i64 p.id)).setCell ⟨T, 8, none⟩ (.int .i64 p.kind)).setCell ⟨T, 9, none⟩ (.int .i64 p.lo)).setCell ⟨T, 10, none⟩ (.int .i64 p.hi)).setCell ⟨T, 11, none⟩ (.int .i64 p.most)) ∧
    StayM w (((((w.setCell ⟨T, 7, none⟩ (.int .i64 p.id)).setCell ⟨T, 8, none⟩ (.int .i64 p.kind)).setCell ⟨T, 9, none⟩ (.int .i64 p.lo)).setCell ⟨T, 10, none⟩ (.int .i64 p.hi)).setCell ⟨T, 11, none⟩ (.int .i64 p.most)) := by
  have h1 := h.put 7 (.int .i64 p.id) { s with f := { s.f with id := p.id } } rfl rfl rfl
  have h2 := h1.put 8 (.int .i64 p.kind) { s with f := { s.f with id := p.id, kind := p.kind } } rfl rfl rfl
  have h3 := h2.put 9 (.int .i64 p.lo) { s with f := { s.f with id := p.id, kind := p.kind, lo := p.lo } } rfl rfl rfl
  have h4 := h3.put 10 (.int .i64 p.hi) { s with f := { s.f with id := p.id, kind := p.kind, lo := p.lo, hi := p.hi } } rfl rfl rfl
  have h5 := h4.put 11 (.int .i64 p.most) { s with f := p } rfl rfl rfl
  exact ⟨h5, (stay_put h _ _).trans ((stay_put h1 _ _).trans ((stay_put h2 _ _).trans ((stay_put h3 _ _).trans (stay_put h4 _ _))))⟩
theorem TS.putV {w : World} (h : TS Ty b T w0 s e ta tc la lc w) (p : field.Va) : TS Ty b T w0 { s with v := p } e ta tc la lc ((w.setCell ⟨T, 12, none⟩ (.int .i64 p.n)).setCell ⟨T, 13, none⟩ (.string p.s)) ∧
    StayM w ((w.setCell ⟨T, 12, none⟩ (.int .i64 p.n)).setCell ⟨T, 13, none⟩ (.string p.s)) := by
  have h1 := h.put 12 (.int .i64 p.n) { s with v := { s.v with n := p.n } } rfl rfl rfl
  have h2 := h1.put 13 (.string p.s) { s with v := p } rfl rfl rfl
  exact ⟨h2, (stay_put h _ _).trans (stay_put h1 _ _)⟩
/-- the member m is read -/
def TakesM (b T : Nat) (w0 : World) (s : Sp) (e : Sight) (m : Nat) (w : World) (en : Ending) (w' : World) : Prop :=
  en = .returned (.tuple #[]) ∧ (∃ ta tc la lc, TS 98 b T w0 (run (lets m) (s, e)).1 (run (lets m) (s, e)).2 ta tc la lc w') ∧ StayM w w'

set_option maxRecDepth 20000 in
set_option maxHeartbeats 1600000 in
theorem tm0 (w : World) (h : TS 98 b T w0 s e ta tc la lc w) : Calls Try.prog 65 #[.pointer (some ⟨b, 0, none⟩), .pointer (some ⟨T, 0, none⟩), .int .i64 0] w (TakesM b T w0 s e 0 w) := by
  have H0 := hid h
  obtain ⟨A, e1, hA⟩ : ∃ A q, eCount 200 e = (A, q) := ⟨_, _, rfl⟩
  have hT : run (lets 0) (s, e) = ({ s with fm := (A : Int) }, e1) := by
    show (({ s with fm := ((eCount 200 e).1 : Int) } : Sp), (eCount 200 e).2) = _
    rw [hA]
  have c1 := eyeCount_any b e w h.eye 200 (by omega) (by omega)
  rw [hA] at c1
  have HTT := hid hT
  clear hT
  unfold TakesM
  unfold Saw at c1
  clear hA h
  go_enter Try.func65, Try.ntmps65
  go_wp2_with (go_at_call 40; ((with_reducible refine c1.mono ?_); clear c1; rintro en w1 ⟨rfl, hE1, hu1⟩; have hT1 := H0.out.call hE1 hu1; have hf1 := hT1.f; have x1 := hf1.cell 1; have p1 := hf1.frozen 1; have HT1 := hid hT1; have HE1 := hid hE1; have HU1 := hid hu1; clear hT1 hf1 hE1 hu1))
  exact ret0 rfl rfl ⟨rfl, ⟨_, _, _, _, by rw [HTT.out]; exact HT1.out.put 1 (.int .i64 (A : Int)) _ rfl rfl rfl⟩, (stay_eye H0.out.eye eye_ty HU1.out).trans (stay_put HT1.out _ _)⟩
set_option maxRecDepth 20000 in
set_option maxHeartbeats 1600000 in
theorem tm1 (w : World) (h : TS 98 b T w0 s e ta tc la lc w) : Calls Try.prog 65 #[.pointer (some ⟨b, 0, none⟩), .pointer (some ⟨T, 0, none⟩), .int .i64 1] w (TakesM b T w0 s e 1 w) := by
  have H0 := hid h
  obtain ⟨A, e1, hA⟩ : ∃ A q, eCount 255 e = (A, q) := ⟨_, _, rfl⟩
  have hT : run (lets 1) (s, e) = ({ s with fd := (A : Int) }, e1) := by
    show (({ s with fd := ((eCount 255 e).1 : Int) } : Sp), (eCount 255 e).2) = _
    rw [hA]
  have c1 := eyeCount_any b e w h.eye 255 (by omega) (by omega)
  rw [hA] at c1
  have HTT := hid hT
  clear hT
  unfold TakesM
  unfold Saw at c1
  clear hA h
  go_enter Try.func65, Try.ntmps65
  go_wp2_with (go_at_call 40; ((with_reducible refine c1.mono ?_); clear c1; rintro en w1 ⟨rfl, hE1, hu1⟩; have hT1 := H0.out.call hE1 hu1; have hf1 := hT1.f; have x2 := hf1.cell 2; have p2 := hf1.frozen 2; have HT1 := hid hT1; have HE1 := hid hE1; have HU1 := hid hu1; clear hT1 hf1 hE1 hu1))
  exact ret0 rfl rfl ⟨rfl, ⟨_, _, _, _, by rw [HTT.out]; exact HT1.out.put 2 (.int .i64 (A : Int)) _ rfl rfl rfl⟩, (stay_eye H0.out.eye eye_ty HU1.out).trans (stay_put HT1.out _ _)⟩
set_option maxRecDepth 20000 in
set_option maxHeartbeats 1600000 in
theorem tm2 (w : World) (h : TS 98 b T w0 s e ta tc la lc w) : Calls Try.prog 65 #[.pointer (some ⟨b, 0, none⟩), .pointer (some ⟨T, 0, none⟩), .int .i64 2] w (TakesM b T w0 s e 2 w) := by
  have H0 := hid h
  obtain ⟨A, e1, hA⟩ : ∃ A q, eCount 8 e = (A, q) := ⟨_, _, rfl⟩
  have hT : run (lets 2) (s, e) = ({ s with pl := (A : Int) }, e1) := by
    show (({ s with pl := ((eCount 8 e).1 : Int) } : Sp), (eCount 8 e).2) = _
    rw [hA]
  have c1 := eyeCount_any b e w h.eye 8 (by omega) (by omega)
  rw [hA] at c1
  have HTT := hid hT
  clear hT
  unfold TakesM
  unfold Saw at c1
  clear hA h
  go_enter Try.func65, Try.ntmps65
  go_wp2_with (go_at_call 40; ((with_reducible refine c1.mono ?_); clear c1; rintro en w1 ⟨rfl, hE1, hu1⟩; have hT1 := H0.out.call hE1 hu1; have hf1 := hT1.f; have x3 := hf1.cell 3; have p3 := hf1.frozen 3; have HT1 := hid hT1; have HE1 := hid hE1; have HU1 := hid hu1; clear hT1 hf1 hE1 hu1))
  exact ret0 rfl rfl ⟨rfl, ⟨_, _, _, _, by rw [HTT.out]; exact HT1.out.put 3 (.int .i64 (A : Int)) _ rfl rfl rfl⟩, (stay_eye H0.out.eye eye_ty HU1.out).trans (stay_put HT1.out _ _)⟩
set_option maxRecDepth 20000 in
set_option maxHeartbeats 1600000 in
theorem tm3 (w : World) (h : TS 98 b T w0 s e ta tc la lc w) : Calls Try.prog 65 #[.pointer (some ⟨b, 0, none⟩), .pointer (some ⟨T, 0, none⟩), .int .i64 3] w (TakesM b T w0 s e 3 w) := by
  have H0 := hid h
  obtain ⟨A, e1, hA⟩ : ∃ A q, eCount 255 e = (A, q) := ⟨_, _, rfl⟩
  have hT : run (lets 3) (s, e) = ({ s with tt := (A : Int) }, e1) := by
    show (({ s with tt := ((eCount 255 e).1 : Int) } : Sp), (eCount 255 e).2) = _
    rw [hA]
  have c1 := eyeCount_any b e w h.eye 255 (by omega) (by omega)
  rw [hA] at c1
  have HTT := hid hT
  clear hT
  unfold TakesM
  unfold Saw at c1
  clear hA h
  go_enter Try.func65, Try.ntmps65
  go_wp2_with (go_at_call 40; ((with_reducible refine c1.mono ?_); clear c1; rintro en w1 ⟨rfl, hE1, hu1⟩; have hT1 := H0.out.call hE1 hu1; have hf1 := hT1.f; have x4 := hf1.cell 4; have p4 := hf1.frozen 4; have HT1 := hid hT1; have HE1 := hid hE1; have HU1 := hid hu1; clear hT1 hf1 hE1 hu1))
  exact ret0 rfl rfl ⟨rfl, ⟨_, _, _, _, by rw [HTT.out]; exact HT1.out.put 4 (.int .i64 (A : Int)) _ rfl rfl rfl⟩, (stay_eye H0.out.eye eye_ty HU1.out).trans (stay_put HT1.out _ _)⟩
set_option maxRecDepth 20000 in
set_option maxHeartbeats 1600000 in
theorem tm4 (w : World) (h : TS 98 b T w0 s e ta tc la lc w) : Calls Try.prog 65 #[.pointer (some ⟨b, 0, none⟩), .pointer (some ⟨T, 0, none⟩), .int .i64 4] w (TakesM b T w0 s e 4 w) := by
  have H0 := hid h
  obtain ⟨A, e1, hA⟩ : ∃ A q, eCount 1048576 e = (A, q) := ⟨_, _, rfl⟩
  have hT : run (lets 4) (s, e) = ({ s with a := (A : Int) }, e1) := by
    show (({ s with a := ((eCount 1048576 e).1 : Int) } : Sp), (eCount 1048576 e).2) = _
    rw [hA]
  have c1 := eyeCount_any b e w h.eye 1048576 (by omega) (by omega)
  rw [hA] at c1
  have HTT := hid hT
  clear hT
  unfold TakesM
  unfold Saw at c1
  clear hA h
  go_enter Try.func65, Try.ntmps65
  go_wp2_with (go_at_call 40; ((with_reducible refine c1.mono ?_); clear c1; rintro en w1 ⟨rfl, hE1, hu1⟩; have hT1 := H0.out.call hE1 hu1; have hf1 := hT1.f; have x5 := hf1.cell 5; have p5 := hf1.frozen 5; have HT1 := hid hT1; have HE1 := hid hE1; have HU1 := hid hu1; clear hT1 hf1 hE1 hu1))
  exact ret0 rfl rfl ⟨rfl, ⟨_, _, _, _, by rw [HTT.out]; exact HT1.out.put 5 (.int .i64 (A : Int)) _ rfl rfl rfl⟩, (stay_eye H0.out.eye eye_ty HU1.out).trans (stay_put HT1.out _ _)⟩
set_option maxRecDepth 20000 in
set_option maxHeartbeats 1600000 in
theorem tm5 (w : World) (h : TS 98 b T w0 s e ta tc la lc w) : Calls Try.prog 65 #[.pointer (some ⟨b, 0, none⟩), .pointer (some ⟨T, 0, none⟩), .int .i64 5] w (TakesM b T w0 s e 5 w) := by
  have H0 := hid h
  obtain ⟨A, e1, hA⟩ : ∃ A q, eInt e = (A, q) := ⟨_, _, rfl⟩
  obtain ⟨B, e2, hB⟩ : ∃ A q, eInt e1 = (A, q) := ⟨_, _, rfl⟩
  have hT : run (lets 5) (s, e) = ({ s with a := A, b := B }, e2) := by
    show (({ s with a := (eInt e).1, b := (eInt (eInt e).2).1 } : Sp), (eInt (eInt e).2).2) = _
    rw [hA]; simp only; rw [hB]
  have c1 := eyeNum_any b e w h.eye
  have c2 := fun w' hE => eyeNum_any b e1 w' hE
  rw [hA] at c1
  rw [hB] at c2
  have HTT := hid hT
  clear hT
  unfold TakesM
  unfold Saw at c1 c2
  clear hA hB h
  go_enter Try.func65, Try.ntmps65
  go_wp2_with (first
    | (go_at_call 84; ((with_reducible refine c1.mono ?_); clear c1; rintro en w1 ⟨rfl, hE1, hu1⟩; have HT1 := hid (H0.out.call hE1 hu1); have HE1 := hid hE1; have HU1 := hid hu1; clear hE1 hu1))
    | (go_at_call 84; ((with_reducible refine (c2 _ HE1.out).mono ?_); clear c2; rintro en w2 ⟨rfl, hE2, hu2⟩; have hT2 := HT1.out.call hE2 hu2; have hf2 := hT2.f; have x5 := hf2.cell 5; have p5 := hf2.frozen 5; have x6 := hf2.cell 6; have p6 := hf2.frozen 6; have HT2 := hid hT2; have HU2 := hid hu2; clear hT2 hf2 hE2 hu2)))
  have h3 := HT2.out.put 5 (.int .i64 A) { s with a := A } rfl rfl rfl
  exact ret0 rfl rfl ⟨rfl, ⟨_, _, _, _, by rw [HTT.out]; exact h3.put 6 (.int .i64 B) _ rfl rfl rfl⟩, (stay_eye H0.out.eye eye_ty HU1.out).trans ((stay_eye HE1.out eye_ty HU2.out).trans ((stay_put HT2.out _ _).trans (stay_put h3 _ _)))⟩
set_option maxRecDepth 20000 in
set_option maxHeartbeats 1600000 in
theorem tm8 (w : World) (h : TS 98 b T w0 s e ta tc la lc w) : Calls Try.prog 65 #[.pointer (some ⟨b, 0, none⟩), .pointer (some ⟨T, 0, none⟩), .int .i64 8] w (TakesM b T w0 s e 8 w) := by
  have H0 := hid h
  obtain ⟨p, e1, hA⟩ : ∃ A q, takeA e = (A, q) := ⟨_, _, rfl⟩
  have hT : run (lets 8) (s, e) = ({ s with f := p }, e1) := by
    show (({ s with f := (takeA e).1 } : Sp), (takeA e).2) = _
    rw [hA]
  have c1 := parseField_any b e w h.eye
  rw [hA] at c1
  have HTT := hid hT
  clear hT
  unfold TakesM
  unfold Saw at c1
  simp only [field.Fd.val] at c1
  clear hA h
  go_enter Try.func65, Try.ntmps65
  go_wp2_with (go_at_call 85; ((with_reducible refine c1.mono ?_); clear c1; rintro en w1 ⟨rfl, hE1, hu1⟩; have hT1 := H0.out.call hE1 hu1; have hf1 := hT1.f; have x7 := hf1.cell 7; have p7 := hf1.frozen 7; have x8 := hf1.cell 8; have p8 := hf1.frozen 8; have x9 := hf1.cell 9; have p9 := hf1.frozen 9; have x10 := hf1.cell 10; have p10 := hf1.frozen 10; have x11 := hf1.cell 11; have p11 := hf1.frozen 11; have HT1 := hid hT1; have HE1 := hid hE1; have HU1 := hid hu1; clear hT1 hf1 hE1 hu1))
  exact ret0 rfl rfl ⟨rfl, ⟨_, _, _, _, by rw [HTT.out]; exact (HT1.out.putF p).1⟩, (stay_eye H0.out.eye eye_ty HU1.out).trans (HT1.out.putF p).2⟩
set_option maxRecDepth 20000 in
set_option maxHeartbeats 1600000 in
theorem tm10 (w : World) (h : TS 98 b T w0 s e ta tc la lc w) : Calls Try.prog 65 #[.pointer (some ⟨b, 0, none⟩), .pointer (some ⟨T, 0, none⟩), .int .i64 10] w (TakesM b T w0 s e 10 w) := by
  have H0 := hid h
  obtain ⟨n, e1, hB⟩ : ∃ A q, eInt e = (A, q) := ⟨_, _, rfl⟩
  obtain ⟨t, e2, hC⟩ : ∃ A q, eText 32 e1 = (A, q) := ⟨_, _, rfl⟩
  have hT : run (lets 10) (s, e) = ({ s with v := ⟨n, strOf t⟩ }, e2) := by
    show (({ s with v := ⟨(eInt e).1, strOf (eText 32 (eInt e).2).1⟩ } : Sp), (eText 32 (eInt e).2).2) = _
    rw [hB]; simp only; rw [hC]
  have c1 := eyeNum_any b e w h.eye
  have c2 := fun w' hE => eyeText_any b e1 w' hE 32 (by omega) (by omega)
  rw [hB] at c1
  rw [hC] at c2
  have HTT := hid hT
  clear hT
  unfold TakesM
  unfold Saw at c1 c2
  clear hB hC h
  go_enter Try.func65, Try.ntmps65
  go_wp2_with (first
    | (go_at_call 84; ((with_reducible refine c1.mono ?_); clear c1; rintro en w1 ⟨rfl, hE1, hu1⟩; have HT1 := hid (H0.out.call hE1 hu1); have HE1 := hid hE1; have HU1 := hid hu1; clear hE1 hu1))
    | (go_at_call 86; ((with_reducible refine (c2 _ HE1.out).mono ?_); clear c2; rintro en w2 ⟨rfl, hE2, hu2⟩; have hT2 := HT1.out.call hE2 hu2; have hf2 := hT2.f; have x12 := hf2.cell 12; have p12 := hf2.frozen 12; have x13 := hf2.cell 13; have p13 := hf2.frozen 13; have HT2 := hid hT2; have HU2 := hid hu2; clear hT2 hf2 hE2 hu2)))
  exact ret0 rfl rfl ⟨rfl, ⟨_, _, _, _, by rw [HTT.out]; exact (HT2.out.putV ⟨n, strOf t⟩).1⟩, (stay_eye H0.out.eye eye_ty HU1.out).trans ((stay_eye HE1.out eye_ty HU2.out).trans (HT2.out.putV ⟨n, strOf t⟩).2)⟩
set_option maxRecDepth 20000 in
set_option maxHeartbeats 1600000 in
theorem tm9 (w : World) (h : TS 98 b T w0 s e ta tc la lc w) : Calls Try.prog 65 #[.pointer (some ⟨b, 0, none⟩), .pointer (some ⟨T, 0, none⟩), .int .i64 9] w (TakesM b T w0 s e 9 w) := by
  have H0 := hid h
  obtain ⟨p, e1, hA⟩ : ∃ A q, takeA e = (A, q) := ⟨_, _, rfl⟩
  obtain ⟨n, e2, hB⟩ : ∃ A q, eInt e1 = (A, q) := ⟨_, _, rfl⟩
  obtain ⟨t, e3, hC⟩ : ∃ A q, eText 32 e2 = (A, q) := ⟨_, _, rfl⟩
  have hT : run (lets 9) (s, e) = ({ s with f := p, v := ⟨n, strOf t⟩ }, e3) := by
    show (({ s with f := (takeA e).1, v := ⟨(eInt (takeA e).2).1, strOf (eText 32 (eInt (takeA e).2).2).1⟩ } : Sp), (eText 32 (eInt (takeA e).2).2).2) = _
    rw [hA]; simp only; rw [hB]; simp only; rw [hC]
  have c1 := parseField_any b e w h.eye
  have c2 := fun w' hE => eyeNum_any b e1 w' hE
  have c3 := fun w' hE => eyeText_any b e2 w' hE 32 (by omega) (by omega)
  rw [hA] at c1
  rw [hB] at c2
  rw [hC] at c3
  have HTT := hid hT
  clear hT
  unfold TakesM
  unfold Saw at c1 c2 c3
  simp only [field.Fd.val] at c1
  clear hA hB hC h
  go_enter Try.func65, Try.ntmps65
  go_wp2_with (first
    | (go_at_call 85; ((with_reducible refine c1.mono ?_); clear c1; rintro en w1 ⟨rfl, hE1, hu1⟩; have hT1 := H0.out.call hE1 hu1; have hf1 := hT1.f; have x7 := hf1.cell 7; have p7 := hf1.frozen 7; have x8 := hf1.cell 8; have p8 := hf1.frozen 8; have x9 := hf1.cell 9; have p9 := hf1.frozen 9; have x10 := hf1.cell 10; have p10 := hf1.frozen 10; have x11 := hf1.cell 11; have p11 := hf1.frozen 11; have HT1 := hid hT1; have HU1 := hid hu1; have HTF := hid (HT1.out.putF p); clear hT1 hf1 hE1 hu1))
    | (go_at_call 84; ((with_reducible refine (c2 _ HTF.out.1.eye).mono ?_); clear c2; rintro en w2 ⟨rfl, hE2, hu2⟩; have HT2 := hid (HTF.out.1.call hE2 hu2); have HE2 := hid hE2; have HU2 := hid hu2; clear hE2 hu2))
    | (go_at_call 86; ((with_reducible refine (c3 _ HE2.out).mono ?_); clear c3; rintro en w3 ⟨rfl, hE3, hu3⟩; have hT3 := HT2.out.call hE3 hu3; have hf3 := hT3.f; have x12 := hf3.cell 12; have p12 := hf3.frozen 12; have x13 := hf3.cell 13; have p13 := hf3.frozen 13; have HT3 := hid hT3; have HU3 := hid hu3; clear hT3 hf3 hE3 hu3)))
  exact ret0 rfl rfl ⟨rfl, ⟨_, _, _, _, by rw [HTT.out]; exact (HT3.out.putV ⟨n, strOf t⟩).1⟩, (stay_eye H0.out.eye eye_ty HU1.out).trans (HTF.out.2.trans ((stay_eye HTF.out.1.eye eye_ty HU2.out).trans ((stay_eye HE2.out eye_ty HU3.out).trans (HT3.out.putV ⟨n, strOf t⟩).2)))⟩
set_option maxRecDepth 20000 in
set_option maxHeartbeats 1600000 in
theorem tm7 (w : World) (hsl : s.t.length ≤ 900) (h : TS 98 b T w0 s e ta tc la lc w) : Calls Try.prog 65 #[.pointer (some ⟨b, 0, none⟩), .pointer (some ⟨T, 0, none⟩), .int .i64 7] w (TakesM b T w0 s e 7 w) := by
  have H0 := hid h
  obtain ⟨N, e1, hN⟩ : ∃ A q, eCount 64 e = (A, q) := ⟨_, _, rfl⟩
  have hNl : N ≤ 64 := by have := eCount_le 64 e; rw [show ((64 : Nat) : Int) = 64 from rfl, hN] at this; exact this
  have HLL : Hid (s.t.length ≤ 900) := hid hsl
  have hT : run (lets 7) (s, e) = ({ s with t := s.t ++ (takeNs N e1).1 }, (takeNs N e1).2) := by
    show (({ s with t := s.t ++ (takeNs (eCount 64 e).1 (eCount 64 e).2).1 } : Sp), (takeNs (eCount 64 e).1 (eCount 64 e).2).2) = _
    rw [hN]
  have c1 := eyeCount_any b e w h.eye 64 (by omega) (by omega)
  rw [hN] at c1
  have HTT := hid hT
  clear hT
  unfold TakesM
  unfold Saw at c1
  clear hN h hsl
  go_enter Try.func65, Try.ntmps65
  go_wp2_with (go_at_call 40; ((with_reducible refine c1.mono ?_); clear c1; rintro en w1 ⟨rfl, hE1, hu1⟩; have HT1 := hid (H0.out.call hE1 hu1); have HU1 := hid (stay_eye H0.out.eye eye_ty hu1); clear hE1 hu1))
  go_loopw [73] (fun m wr => ∃ k : Nat, k ≤ N ∧ m = .int .i64 (k : Int) ∧ Hid (∃ ta tc la lc, TS 98 b T w0 { s with t := s.t ++ (takeNs k e1).1 } (takeNs k e1).2 ta tc la lc wr) ∧ Hid (StayM w wr)) (fun m _ => N - (intOf m).toNat)
  case atStart => exact ⟨0, Nat.zero_le _, rfl, hid ⟨_, _, _, _, by simpa [takeNs] using HT1.out⟩, HU1⟩
  case round =>
    obtain ⟨k, hk, rfl, HS, HK⟩ := hrel
    obtain ⟨ta', tc', la', lc', hS⟩ := HS.out
    by_cases hlt : k < N
    · have i1 : (k : Int) < N := by omega
      obtain ⟨p, e9, hp⟩ : ∃ p q, eCount 1000 (takeNs k e1).2 = (p, q) := ⟨_, _, rfl⟩
      have HT1 : Hid ((takeNs (k + 1) e1).1 = (takeNs k e1).1 ++ [(p : Int)]) := hid (by rw [takeNs, hp])
      have HT2 : Hid ((takeNs (k + 1) e1).2 = e9) := hid (by rw [takeNs, hp])
      have hxl : (takeNs k e1).1.length = k := takeNs_len k e1
      have cP := fun w' hE => eyeCount_any b (takeNs k e1).2 w' hE 1000 (by omega) (by omega)
      rw [hp] at cP
      skip
      unfold Saw at cP
      clear hp HS
      generalize (takeNs k e1).1 = X at *
      generalize (takeNs k e1).2 = sk at *
      have hS1 := hS.later (w' := wr.drew) (below_drewN (Below.refl _ _) 1)
      have HS := hid hS1
      have hlen : (s.t ++ X).length ≤ 1000 := by have := HLL.out; rw [List.length_append, hxl]; omega
      have HLEN := hid hlen
      clear hS hS1 hlen hxl
      obtain ⟨Z, hZ⟩ : ∃ Z, Hid (s.t ++ X = Z) := ⟨_, hid rfl⟩
      rw [hZ.out] at HS HLEN
      go_wp2
      refine plan.regionT (by kernel_rfl) ?_
      have hS := HS.out
      refine plan.free 0 _ (.pointer (some ⟨T, 0, none⟩)) rfl (by kernel_rfl) (by kernel_rfl) (by kernel_rfl) (by kernel_rfl) (fun w' => (by kernel_rfl)) ?_
      refine plan.free 1 _ (.pointer (some ⟨T, 0, none⟩)) rfl (by kernel_rfl) (by kernel_rfl) (by kernel_rfl) (by kernel_rfl) (fun w' => (by kernel_rfl)) ?_
      refine plan.free 2 _ (.pointer (some ⟨T, 0, none⟩)) rfl (by kernel_rfl) (by kernel_rfl) (by kernel_rfl) (by kernel_rfl) (fun w' => (by kernel_rfl)) ?_
      refine plan.free 3 _ (.pointer (some ⟨T, 14, none⟩)) rfl (by kernel_rfl) (by kernel_rfl) (by kernel_rfl) (by kernel_rfl) (fun w' => (by kernel_rfl)) ?_
      refine plan.free 5 _ (.pointer (some ⟨b, 0, none⟩)) rfl (by kernel_rfl) (by kernel_rfl) (by kernel_rfl) (by kernel_rfl) (fun w' => (by kernel_rfl)) ?_
      refine plan.toL 4 (fun x y z => #[true, true, true, true, x, true, y, z, false, false, false, false]) rfl (by kernel_rfl) ?_
      refine plan.late 4 6 7 79 81 82 (by decide) (by decide) _ _ _ (fun x y z => #[true, true, true, true, x, true, y, z, false, false, false, false]) rfl rfl rfl rfl rfl rfl rfl rfl rfl (by intro y z; cases y <;> cases z <;> rfl) (by intro x; cases x <;> rfl) (by intro x; cases x <;> rfl)
        (by kernel_rfl) (by kernel_rfl) (by kernel_rfl) (by kernel_rfl) (by kernel_rfl) (.slice ta' Z.length tc') 40 #[.pointer (some ⟨b, 0, none⟩), .int .i64 1000]
        (fun v w' => v = (.int .i64 (p : Int)) ∧ TS 98 b T w0 { s with t := Z } e9 ta' tc' la' lc' w' ∧ StayM wr w') (fun v w' => .slice (some ⟨w'.heap.size, 0, none⟩) 1 1) (fun v w' => w'.alloc (.cells #[.int .i64 (p : Int)] 3))
        (exec_cell_slice' (ad := ⟨T, 14, none⟩) rfl (by kernel_rfl) (hS.f.cell 14) Try.isAgg26)
        (fun v w' hM => exec_cell_slice' (ad := ⟨T, 14, none⟩) rfl (by kernel_rfl) (hM.2.1.f.cell 14) Try.isAgg26)
        (fun v w' hM => exec_cell_slice' (ad := ⟨T, 14, none⟩) rfl (by kernel_rfl) ((hM.2.1.f.alloc _).cell 14) Try.isAgg26)
        (by kernel_rfl) (by kernel_rfl) ((cP _ hS.eye).mono ?_) (fun v w' hM => by obtain ⟨rfl, _⟩ := hM; kernel_rfl) (fun v w' hM => by obtain ⟨rfl, _⟩ := hM; kernel_rfl) ?_
      · rintro en w3 ⟨rfl, hE3, hu3⟩
        exact ⟨_, rfl, rfl, hS.call hE3 hu3, stay_eye hS.eye eye_ty hu3⟩
      · rintro v w3 ⟨rfl, hS3, hK3⟩
        have hS4 := hS3.later (newB w3 (.cells #[.int .i64 (p : Int)] 3))
        have hK4 : StayM wr (w3.alloc (.cells #[.int .i64 (p : Int)] 3)) := hK3.trans (stay_below _ (newB w3 (.cells #[.int .i64 (p : Int)] 3)))
        refine plan.oneE 8 _ (fun q w5 => w5.ownsRow (T + 1) 3 1 q (Z.length + 1) (intV (Z ++ [(p : Int)])) ∧ (w3.alloc (.cells #[.int .i64 (p : Int)] 3)).grownBy w5 (Value.slice ta' Z.length tc').ownBlock) rfl rfl (by kernel_rfl)
          (exec_push_int (g := w3.heap.size) rfl (by kernel_rfl) (by kernel_rfl) hS4.rt (Block.new w3 3 [.int .i64 (p : Int)]) HLEN.out hS4.f.lt) ?_
        rintro q w5 ⟨ho5, hg5⟩
        have hF5 := hS4.held (B := 0) hS4.rt hg5
        obtain ⟨qa, qc, rfl, _⟩ := ownsRow_slice ho5
        have hS6 := hS4.pushT hg5 ho5
        have hK6 : StayM wr (w5.setCell ⟨T, 14, none⟩ (.slice qa (Z.length + 1) qc)) := hK4.trans ((stay_grown _ hS4.rt hg5 (by decide)).trans (stay_store _ hF5 (by decide) 14 _))
        refine plan.oneT (w1 := w5) 9 _ (.pointer (some ⟨T, 0, none⟩)) rfl rfl (by kernel_rfl) (by kernel_rfl) ?_
        refine plan.oneT (w1 := w5) 10 _ (.pointer (some ⟨T, 14, none⟩)) rfl rfl (by kernel_rfl) (by kernel_rfl) ?_
        refine plan.lastT (w1 := w5.setCell ⟨T, 14, none⟩ (.slice qa (Z.length + 1) qc)) 11 _ rfl rfl rfl (by kernel_rfl) (by kernel_rfl) (exec_put_int (ad := ⟨T, 14, none⟩) rfl (by kernel_rfl) (by kernel_rfl) (hF5.cell 14) (hF5.frozen 14)) ?_
        have HS6 := hid hS6
        have HK6 := hid hK6
        clear hS6 hF5 ho5 hg5 hS4 hS3 hS hK3 hK4 hK6
        walk_nrm
        go_wp2
        exact ⟨⟨k + 1, by omega, by go_num, hid ⟨_, _, _, _, by rw [HT1.out, HT2.out, ← List.append_assoc, hZ.out]; exact HS6.out⟩, hid (HK.out.trans HK6.out)⟩, by simp [intOf]; omega⟩
    · obtain rfl : k = N := by omega
      have HSE := hid hS
      clear hS HS
      go_wp2
      exact ret0 rfl rfl ⟨rfl, ⟨_, _, _, _, by rw [HTT.out]; exact HSE.out⟩, HK.out⟩
set_option maxRecDepth 20000 in
set_option maxHeartbeats 1600000 in
theorem tm6 (w : World) (hsl : s.t.length ≤ 900) (h : TS 98 b T w0 s e ta tc la lc w) : Calls Try.prog 65 #[.pointer (some ⟨b, 0, none⟩), .pointer (some ⟨T, 0, none⟩), .int .i64 6] w (TakesM b T w0 s e 6 w) := by
  have H0 := hid h
  obtain ⟨A, e1, hA⟩ : ∃ A q, eCount 1048576 e = (A, q) := ⟨_, _, rfl⟩
  obtain ⟨N, e2, hN⟩ : ∃ A q, eCount 64 e1 = (A, q) := ⟨_, _, rfl⟩
  have hNl : N ≤ 64 := by have := eCount_le 64 e1; rw [show ((64 : Nat) : Int) = 64 from rfl, hN] at this; exact this
  have HLL : Hid (s.t.length ≤ 900) := hid hsl
  have hT : run (lets 6) (s, e) = ({ s with a := (A : Int), t := s.t ++ (takeNs N e2).1 }, (takeNs N e2).2) := by
    show (({ s with a := ((eCount 1048576 e).1 : Int), t := s.t ++ (takeNs (eCount 64 (eCount 1048576 e).2).1 (eCount 64 (eCount 1048576 e).2).2).1 } : Sp), (takeNs (eCount 64 (eCount 1048576 e).2).1 (eCount 64 (eCount 1048576 e).2).2).2) = _
    rw [hA]; simp only; rw [hN]
  have c1 := eyeCount_any b e w h.eye 1048576 (by omega) (by omega)
  have c2 := fun w' hE => eyeCount_any b e1 w' hE 64 (by omega) (by omega)
  rw [hA] at c1
  rw [hN] at c2
  have HTT := hid hT
  clear hT
  unfold TakesM
  unfold Saw at c1 c2
  clear hA hN h hsl
  go_enter Try.func65, Try.ntmps65
  go_wp2_with (first
    | (go_at_call 40; ((with_reducible refine c1.mono ?_); clear c1; rintro en w1 ⟨rfl, hE1, hu1⟩; have hT1 := H0.out.call hE1 hu1; have hf1 := hT1.f; have x5 := hf1.cell 5; have p5 := hf1.frozen 5; have HU1 := hid ((stay_eye H0.out.eye eye_ty hu1).trans (stay_put hT1 5 (.int .i64 (A : Int)))); have HT1 := hid (hT1.put 5 (.int .i64 (A : Int)) { s with a := (A : Int) } rfl rfl rfl); clear hT1 hf1 hE1 hu1))
    | (go_at_call 40; ((with_reducible refine (c2 _ HT1.out.eye).mono ?_); clear c2; rintro en w2 ⟨rfl, hE2, hu2⟩; have HT2 := hid (HT1.out.call hE2 hu2); have HU2 := hid (HU1.out.trans (stay_eye HT1.out.eye eye_ty hu2)); clear hE2 hu2)))
  go_loopw [73] (fun m wr => ∃ k : Nat, k ≤ N ∧ m = .int .i64 (k : Int) ∧ Hid (∃ ta tc la lc, TS 98 b T w0 { s with a := (A : Int), t := s.t ++ (takeNs k e2).1 } (takeNs k e2).2 ta tc la lc wr) ∧ Hid (StayM w wr)) (fun m _ => N - (intOf m).toNat)
  case atStart => exact ⟨0, Nat.zero_le _, rfl, hid ⟨_, _, _, _, by simpa [takeNs] using HT2.out⟩, HU2⟩
  case round =>
    obtain ⟨k, hk, rfl, HS, HK⟩ := hrel
    obtain ⟨ta', tc', la', lc', hS⟩ := HS.out
    by_cases hlt : k < N
    · have i1 : (k : Int) < N := by omega
      obtain ⟨p, e9, hp⟩ : ∃ p q, eCount 1000 (takeNs k e2).2 = (p, q) := ⟨_, _, rfl⟩
      have HT1 : Hid ((takeNs (k + 1) e2).1 = (takeNs k e2).1 ++ [(p : Int)]) := hid (by rw [takeNs, hp])
      have HT2 : Hid ((takeNs (k + 1) e2).2 = e9) := hid (by rw [takeNs, hp])
      have hxl : (takeNs k e2).1.length = k := takeNs_len k e2
      have cP := fun w' hE => eyeCount_any b (takeNs k e2).2 w' hE 1000 (by omega) (by omega)
      rw [hp] at cP
      skip
      unfold Saw at cP
      clear hp HS
      generalize (takeNs k e2).1 = X at *
      generalize (takeNs k e2).2 = sk at *
      have hS1 := hS.later (w' := wr.drew) (below_drewN (Below.refl _ _) 1)
      have HS := hid hS1
      have hlen : (s.t ++ X).length ≤ 1000 := by have := HLL.out; rw [List.length_append, hxl]; omega
      have HLEN := hid hlen
      clear hS hS1 hlen hxl
      obtain ⟨Z, hZ⟩ : ∃ Z, Hid (s.t ++ X = Z) := ⟨_, hid rfl⟩
      rw [hZ.out] at HS HLEN
      go_wp2
      refine plan.regionT (by kernel_rfl) ?_
      have hS := HS.out
      refine plan.free 0 _ (.pointer (some ⟨T, 0, none⟩)) rfl (by kernel_rfl) (by kernel_rfl) (by kernel_rfl) (by kernel_rfl) (fun w' => (by kernel_rfl)) ?_
      refine plan.free 1 _ (.pointer (some ⟨T, 0, none⟩)) rfl (by kernel_rfl) (by kernel_rfl) (by kernel_rfl) (by kernel_rfl) (fun w' => (by kernel_rfl)) ?_
      refine plan.free 2 _ (.pointer (some ⟨T, 0, none⟩)) rfl (by kernel_rfl) (by kernel_rfl) (by kernel_rfl) (by kernel_rfl) (fun w' => (by kernel_rfl)) ?_
      refine plan.free 3 _ (.pointer (some ⟨T, 14, none⟩)) rfl (by kernel_rfl) (by kernel_rfl) (by kernel_rfl) (by kernel_rfl) (fun w' => (by kernel_rfl)) ?_
      refine plan.free 5 _ (.pointer (some ⟨b, 0, none⟩)) rfl (by kernel_rfl) (by kernel_rfl) (by kernel_rfl) (by kernel_rfl) (fun w' => (by kernel_rfl)) ?_
      refine plan.toL 4 (fun x y z => #[true, true, true, true, x, true, y, z, false, false, false, false]) rfl (by kernel_rfl) ?_
      refine plan.late 4 6 7 79 81 82 (by decide) (by decide) _ _ _ (fun x y z => #[true, true, true, true, x, true, y, z, false, false, false, false]) rfl rfl rfl rfl rfl rfl rfl rfl rfl (by intro y z; cases y <;> cases z <;> rfl) (by intro x; cases x <;> rfl) (by intro x; cases x <;> rfl)
        (by kernel_rfl) (by kernel_rfl) (by kernel_rfl) (by kernel_rfl) (by kernel_rfl) (.slice ta' Z.length tc') 40 #[.pointer (some ⟨b, 0, none⟩), .int .i64 1000]
        (fun v w' => v = (.int .i64 (p : Int)) ∧ TS 98 b T w0 { s with a := (A : Int), t := Z } e9 ta' tc' la' lc' w' ∧ StayM wr w') (fun v w' => .slice (some ⟨w'.heap.size, 0, none⟩) 1 1) (fun v w' => w'.alloc (.cells #[.int .i64 (p : Int)] 3))
        (exec_cell_slice' (ad := ⟨T, 14, none⟩) rfl (by kernel_rfl) (hS.f.cell 14) Try.isAgg26)
        (fun v w' hM => exec_cell_slice' (ad := ⟨T, 14, none⟩) rfl (by kernel_rfl) (hM.2.1.f.cell 14) Try.isAgg26)
        (fun v w' hM => exec_cell_slice' (ad := ⟨T, 14, none⟩) rfl (by kernel_rfl) ((hM.2.1.f.alloc _).cell 14) Try.isAgg26)
        (by kernel_rfl) (by kernel_rfl) ((cP _ hS.eye).mono ?_) (fun v w' hM => by obtain ⟨rfl, _⟩ := hM; kernel_rfl) (fun v w' hM => by obtain ⟨rfl, _⟩ := hM; kernel_rfl) ?_
      · rintro en w3 ⟨rfl, hE3, hu3⟩
        exact ⟨_, rfl, rfl, hS.call hE3 hu3, stay_eye hS.eye eye_ty hu3⟩
      · rintro v w3 ⟨rfl, hS3, hK3⟩
        have hS4 := hS3.later (newB w3 (.cells #[.int .i64 (p : Int)] 3))
        have hK4 : StayM wr (w3.alloc (.cells #[.int .i64 (p : Int)] 3)) := hK3.trans (stay_below _ (newB w3 (.cells #[.int .i64 (p : Int)] 3)))
        refine plan.oneE 8 _ (fun q w5 => w5.ownsRow (T + 1) 3 1 q (Z.length + 1) (intV (Z ++ [(p : Int)])) ∧ (w3.alloc (.cells #[.int .i64 (p : Int)] 3)).grownBy w5 (Value.slice ta' Z.length tc').ownBlock) rfl rfl (by kernel_rfl)
          (exec_push_int (g := w3.heap.size) rfl (by kernel_rfl) (by kernel_rfl) hS4.rt (Block.new w3 3 [.int .i64 (p : Int)]) HLEN.out hS4.f.lt) ?_
        rintro q w5 ⟨ho5, hg5⟩
        have hF5 := hS4.held (B := 0) hS4.rt hg5
        obtain ⟨qa, qc, rfl, _⟩ := ownsRow_slice ho5
        have hS6 := hS4.pushT hg5 ho5
        have hK6 : StayM wr (w5.setCell ⟨T, 14, none⟩ (.slice qa (Z.length + 1) qc)) := hK4.trans ((stay_grown _ hS4.rt hg5 (by decide)).trans (stay_store _ hF5 (by decide) 14 _))
        refine plan.oneT (w1 := w5) 9 _ (.pointer (some ⟨T, 0, none⟩)) rfl rfl (by kernel_rfl) (by kernel_rfl) ?_
        refine plan.oneT (w1 := w5) 10 _ (.pointer (some ⟨T, 14, none⟩)) rfl rfl (by kernel_rfl) (by kernel_rfl) ?_
        refine plan.lastT (w1 := w5.setCell ⟨T, 14, none⟩ (.slice qa (Z.length + 1) qc)) 11 _ rfl rfl rfl (by kernel_rfl) (by kernel_rfl) (exec_put_int (ad := ⟨T, 14, none⟩) rfl (by kernel_rfl) (by kernel_rfl) (hF5.cell 14) (hF5.frozen 14)) ?_
        have HS6 := hid hS6
        have HK6 := hid hK6
        clear hS6 hF5 ho5 hg5 hS4 hS3 hS hK3 hK4 hK6
        walk_nrm
        go_wp2
        exact ⟨⟨k + 1, by omega, by go_num, hid ⟨_, _, _, _, by rw [HT1.out, HT2.out, ← List.append_assoc, hZ.out]; exact HS6.out⟩, hid (HK.out.trans HK6.out)⟩, by simp [intOf]; omega⟩
    · obtain rfl : k = N := by omega
      have HSE := hid hS
      clear hS HS
      go_wp2
      exact ret0 rfl rfl ⟨rfl, ⟨_, _, _, _, by rw [HTT.out]; exact HSE.out⟩, HK.out⟩
set_option maxRecDepth 20000 in
set_option maxHeartbeats 1600000 in
theorem tm11 (w : World) (hsl : s.l.length ≤ 900) (h : TS 98 b T w0 s e ta tc la lc w) : Calls Try.prog 65 #[.pointer (some ⟨b, 0, none⟩), .pointer (some ⟨T, 0, none⟩), .int .i64 11] w (TakesM b T w0 s e 11 w) := by
  have H0 := hid h
  obtain ⟨N, e1, hN⟩ : ∃ A q, eCount 8 e = (A, q) := ⟨_, _, rfl⟩
  have hNl : N ≤ 8 := by have := eCount_le 8 e; rw [show ((8 : Nat) : Int) = 8 from rfl, hN] at this; exact this
  have HLL : Hid (s.l.length ≤ 900) := hid hsl
  have hT : run (lets 11) (s, e) = ({ s with l := s.l ++ (takeAs N e1).1 }, (takeAs N e1).2) := by
    show (({ s with l := s.l ++ (takeAs (eCount 8 e).1 (eCount 8 e).2).1 } : Sp), (takeAs (eCount 8 e).1 (eCount 8 e).2).2) = _
    rw [hN]
  have c1 := eyeCount_any b e w h.eye 8 (by omega) (by omega)
  rw [hN] at c1
  have HTT := hid hT
  clear hT
  unfold TakesM
  unfold Saw at c1
  clear hN h hsl
  go_enter Try.func65, Try.ntmps65
  go_wp2_with (go_at_call 40; ((with_reducible refine c1.mono ?_); clear c1; rintro en w1 ⟨rfl, hE1, hu1⟩; have HT1 := hid (H0.out.call hE1 hu1); have HU1 := hid (stay_eye H0.out.eye eye_ty hu1); clear hE1 hu1))
  go_loopw [107] (fun m wr => ∃ k : Nat, k ≤ N ∧ m = .int .i64 (k : Int) ∧ Hid (∃ ta tc la lc, TS 98 b T w0 { s with l := s.l ++ (takeAs k e1).1 } (takeAs k e1).2 ta tc la lc wr) ∧ Hid (StayM w wr)) (fun m _ => N - (intOf m).toNat)
  case atStart => exact ⟨0, Nat.zero_le _, rfl, hid ⟨_, _, _, _, by simpa [takeAs] using HT1.out⟩, HU1⟩
  case round =>
    obtain ⟨k, hk, rfl, HS, HK⟩ := hrel
    obtain ⟨ta', tc', la', lc', hS⟩ := HS.out
    by_cases hlt : k < N
    · have i1 : (k : Int) < N := by omega
      obtain ⟨p, e9, hp⟩ : ∃ p q, takeA (takeAs k e1).2 = (p, q) := ⟨_, _, rfl⟩
      have HT1 : Hid ((takeAs (k + 1) e1).1 = (takeAs k e1).1 ++ [p]) := hid (by rw [takeAs, hp])
      have HT2 : Hid ((takeAs (k + 1) e1).2 = e9) := hid (by rw [takeAs, hp])
      have hxl : (takeAs k e1).1.length = k := takeAs_len k e1
      have cP := fun w' hE => parseField_any b (takeAs k e1).2 w' hE
      rw [hp] at cP
      simp only [field.Fd.val] at cP
      unfold Saw at cP
      clear hp HS
      generalize (takeAs k e1).1 = X at *
      generalize (takeAs k e1).2 = sk at *
      have hS1 := hS.later (w' := wr.drew) (below_drewN (Below.refl _ _) 1)
      have HS := hid hS1
      have hlen : (s.l ++ X).length ≤ 1000 := by have := HLL.out; rw [List.length_append, hxl]; omega
      have HLEN := hid hlen
      clear hS hS1 hlen hxl
      obtain ⟨Z, hZ⟩ : ∃ Z, Hid (s.l ++ X = Z) := ⟨_, hid rfl⟩
      rw [hZ.out] at HS HLEN
      go_wp2
      refine plan.regionT (by kernel_rfl) ?_
      have hS := HS.out
      refine plan.free 0 _ (.pointer (some ⟨T, 0, none⟩)) rfl (by kernel_rfl) (by kernel_rfl) (by kernel_rfl) (by kernel_rfl) (fun w' => (by kernel_rfl)) ?_
      refine plan.free 1 _ (.pointer (some ⟨T, 0, none⟩)) rfl (by kernel_rfl) (by kernel_rfl) (by kernel_rfl) (by kernel_rfl) (fun w' => (by kernel_rfl)) ?_
      refine plan.free 2 _ (.pointer (some ⟨T, 0, none⟩)) rfl (by kernel_rfl) (by kernel_rfl) (by kernel_rfl) (by kernel_rfl) (fun w' => (by kernel_rfl)) ?_
      refine plan.free 3 _ (.pointer (some ⟨T, 15, none⟩)) rfl (by kernel_rfl) (by kernel_rfl) (by kernel_rfl) (by kernel_rfl) (fun w' => (by kernel_rfl)) ?_
      refine plan.free 5 _ (.pointer (some ⟨b, 0, none⟩)) rfl (by kernel_rfl) (by kernel_rfl) (by kernel_rfl) (by kernel_rfl) (fun w' => (by kernel_rfl)) ?_
      refine plan.toL 4 (fun x y z => #[true, true, true, true, x, true, y, z, false, false, false, false]) rfl (by kernel_rfl) ?_
      refine plan.late 4 6 7 113 115 116 (by decide) (by decide) _ _ _ (fun x y z => #[true, true, true, true, x, true, y, z, false, false, false, false]) rfl rfl rfl rfl rfl rfl rfl rfl rfl (by intro y z; cases y <;> cases z <;> rfl) (by intro x; cases x <;> rfl) (by intro x; cases x <;> rfl)
        (by kernel_rfl) (by kernel_rfl) (by kernel_rfl) (by kernel_rfl) (by kernel_rfl) (.slice la' Z.length lc') 85 #[.pointer (some ⟨b, 0, none⟩)]
        (fun v w' => v = (.agg #[.int .i64 p.id, .int .i64 p.kind, .int .i64 p.lo, .int .i64 p.hi, .int .i64 p.most]) ∧ TS 98 b T w0 { s with l := Z } e9 ta' tc' la' lc' w' ∧ StayM wr w') (fun v w' => .slice (some ⟨w'.heap.size, 0, none⟩) 1 1) (fun v w' => w'.alloc (.cells #[.int .i64 p.id, .int .i64 p.kind, .int .i64 p.lo, .int .i64 p.hi, .int .i64 p.most] 23))
        (exec_cell_slice' (ad := ⟨T, 15, none⟩) rfl (by kernel_rfl) (hS.f.cell 15) Try.isAgg27)
        (fun v w' hM => exec_cell_slice' (ad := ⟨T, 15, none⟩) rfl (by kernel_rfl) (hM.2.1.f.cell 15) Try.isAgg27)
        (fun v w' hM => exec_cell_slice' (ad := ⟨T, 15, none⟩) rfl (by kernel_rfl) ((hM.2.1.f.alloc _).cell 15) Try.isAgg27)
        (by kernel_rfl) (by kernel_rfl) ((cP _ hS.eye).mono ?_) (fun v w' hM => by obtain ⟨rfl, _⟩ := hM; kernel_rfl) (fun v w' hM => by obtain ⟨rfl, _⟩ := hM; kernel_rfl) ?_
      · rintro en w3 ⟨rfl, hE3, hu3⟩
        exact ⟨_, rfl, rfl, hS.call hE3 hu3, stay_eye hS.eye eye_ty hu3⟩
      · rintro v w3 ⟨rfl, hS3, hK3⟩
        have hS4 := hS3.later (newB w3 (.cells #[.int .i64 p.id, .int .i64 p.kind, .int .i64 p.lo, .int .i64 p.hi, .int .i64 p.most] 23))
        have hK4 : StayM wr (w3.alloc (.cells #[.int .i64 p.id, .int .i64 p.kind, .int .i64 p.lo, .int .i64 p.hi, .int .i64 p.most] 23)) := hK3.trans (stay_below _ (newB w3 (.cells #[.int .i64 p.id, .int .i64 p.kind, .int .i64 p.lo, .int .i64 p.hi, .int .i64 p.most] 23)))
        refine plan.oneE 8 _ (fun q w5 => w5.ownsRow (T + 1) 23 5 q (Z.length + 1) (fdV (Z ++ [p])) ∧ (w3.alloc (.cells #[.int .i64 p.id, .int .i64 p.kind, .int .i64 p.lo, .int .i64 p.hi, .int .i64 p.most] 23)).grownBy w5 (Value.slice la' Z.length lc').ownBlock) rfl rfl (by kernel_rfl)
          (exec_push_fd (g := w3.heap.size) rfl (by kernel_rfl) (by kernel_rfl) hS4.rl (Block.new w3 23 (fdC p)) HLEN.out hS4.f.lt) ?_
        rintro q w5 ⟨ho5, hg5⟩
        have hF5 := hS4.held (B := 0) hS4.rl hg5
        obtain ⟨qa, qc, rfl, _⟩ := ownsRow_slice ho5
        have hS6 := hS4.pushL hg5 ho5
        have hK6 : StayM wr (w5.setCell ⟨T, 15, none⟩ (.slice qa (Z.length + 1) qc)) := hK4.trans ((stay_grown _ hS4.rl hg5 (by decide)).trans (stay_store _ hF5 (by decide) 15 _))
        refine plan.oneT (w1 := w5) 9 _ (.pointer (some ⟨T, 0, none⟩)) rfl rfl (by kernel_rfl) (by kernel_rfl) ?_
        refine plan.oneT (w1 := w5) 10 _ (.pointer (some ⟨T, 15, none⟩)) rfl rfl (by kernel_rfl) (by kernel_rfl) ?_
        refine plan.lastT (w1 := w5.setCell ⟨T, 15, none⟩ (.slice qa (Z.length + 1) qc)) 11 _ rfl rfl rfl (by kernel_rfl) (by kernel_rfl) (exec_put_fd (ad := ⟨T, 15, none⟩) rfl (by kernel_rfl) (by kernel_rfl) (hF5.cell 15) (hF5.frozen 15)) ?_
        have HS6 := hid hS6
        have HK6 := hid hK6
        clear hS6 hF5 ho5 hg5 hS4 hS3 hS hK3 hK4 hK6
        walk_nrm
        go_wp2
        exact ⟨⟨k + 1, by omega, by go_num, hid ⟨_, _, _, _, by rw [HT1.out, HT2.out, ← List.append_assoc, hZ.out]; exact HS6.out⟩, hid (HK.out.trans HK6.out)⟩, by simp [intOf]; omega⟩
    · obtain rfl : k = N := by omega
      have HSE := hid hS
      clear hS HS
      go_wp2
      exact ret0 rfl rfl ⟨rfl, ⟨_, _, _, _, by rw [HTT.out]; exact HSE.out⟩, HK.out⟩
theorem parseMember_any (m : Nat) (hm : m < 12) (w : World) (ht : s.t.length ≤ 900) (hl : s.l.length ≤ 900) (h : TS 98 b T w0 s e ta tc la lc w) : Calls Try.prog 65 #[.pointer (some ⟨b, 0, none⟩), .pointer (some ⟨T, 0, none⟩), .int .i64 (m : Int)] w (TakesM b T w0 s e m w) := by
  match m, hm with
  | 0, _ => exact tm0 w h
  | 1, _ => exact tm1 w h
  | 2, _ => exact tm2 w h
  | 3, _ => exact tm3 w h
  | 4, _ => exact tm4 w h
  | 5, _ => exact tm5 w h
  | 6, _ => exact tm6 w ht h
  | 7, _ => exact tm7 w ht h
  | 8, _ => exact tm8 w h
  | 9, _ => exact tm9 w h
  | 10, _ => exact tm10 w h
  | 11, _ => exact tm11 w hl h
end Go.Proofs.Ytpdnfiofjkbeiaa.step
/- Contract of layer 15 (step): parseStep. No condition. -/
namespace Go.Proofs.Ytpdnfiofjkbeiaa.step
open Go.RowKit Go.Proofs.Ytpdnfiofjkbeiaa.pen
open Go.Proofs.Ytpdnfiofjkbeiaa.field (newB)
open Go.Proofs.Ytpdnfiofjkbeiaa.schema (eCount_le blk_but but_store eye_past own_low own_fds own_cap fdV take_succ_at)
set_option linter.unusedVariables false

/-! how long the lists grow -/
theorem takeL_long {c : UInt8} (hc : Letter c) (s : Sp) (e : Sight) : (takeL c s e).1.t.length ≤ s.t.length + 64 ∧ (takeL c s e).1.l.length ≤ s.l.length + 64 := by
  rcases hc with rfl | rfl | rfl | rfl | rfl | rfl | rfl | rfl | rfl | rfl
  · exact ⟨Nat.le_add_right _ _, Nat.le_add_right _ _⟩
  · exact ⟨Nat.le_add_right _ _, Nat.le_add_right _ _⟩
  · exact ⟨Nat.le_add_right _ _, Nat.le_add_right _ _⟩
  · exact ⟨Nat.le_add_right _ _, Nat.le_add_right _ _⟩
  · exact ⟨Nat.le_add_right _ _, Nat.le_add_right _ _⟩
  · exact ⟨Nat.le_add_right _ _, Nat.le_add_right _ _⟩
  · exact ⟨Nat.le_add_right _ _, Nat.le_add_right _ _⟩
  · exact ⟨Nat.le_add_right _ _, Nat.le_add_right _ _⟩
  · refine ⟨?_, Nat.le_add_right _ _⟩
    show (s.t ++ (takeNs (eCount 64 e).1 (eCount 64 e).2).1).length ≤ _
    rw [List.length_append, takeNs_len]
    have := eCount_le 64 e
    have h2 : (eCount 64 e).1 ≤ 64 := this
    omega
  · refine ⟨Nat.le_add_right _ _, ?_⟩
    show (s.l ++ (takeAs (eCount 8 e).1 (eCount 8 e).2).1).length ≤ _
    rw [List.length_append, takeAs_len]
    have := eCount_le 8 e
    have h2 : (eCount 8 e).1 ≤ 8 := this
    omega
theorem run_long : ∀ (cs : List UInt8) (s : Sp) (e : Sight), (∀ c ∈ cs, Letter c) → (run cs (s, e)).1.t.length ≤ s.t.length + 64 * cs.length ∧ (run cs (s, e)).1.l.length ≤ s.l.length + 64 * cs.length
  | [], s, e, _ => ⟨Nat.le_refl _, Nat.le_refl _⟩
  | c :: cs, s, e, h => by
    have h1 := takeL_long (h c (by simp)) s e
    have h2 := run_long cs (takeL c s e).1 (takeL c s e).2 (fun d hd => h d (by simp [hd]))
    have h3 : run (c :: cs) (s, e) = run cs ((takeL c s e).1, (takeL c s e).2) := rfl
    rw [h3]
    simp only [List.length_cons]
    omega
/-- what has been read behind k members -/
def runK (op : Int) (e : Sight) (k : Nat) : Sp × Sight := run (((mem op).take k).map lets).flatten (startS op, e)
theorem runK_succ {op : Int} {e : Sight} {k m : Nat} (h : (mem op)[k]? = some m) : runK op e (k + 1) = run (lets m) ((runK op e k).1, (runK op e k).2) := by
  unfold runK
  rw [take_succ_at h, List.map_append, List.flatten_append, run_app]
  simp
theorem runK_all (op : Int) (e : Sight) : runK op e (mem op).length = run (uses op) (startS op, e) := by
  unfold runK
  rw [List.take_of_length_le (Nat.le_refl _), ← uses_mem]
theorem lets_letter : ∀ m, m < 12 → ∀ c ∈ lets m, Letter c := by decide
theorem runK_long (op : Int) (e : Sight) (k : Nat) : (runK op e k).1.t.length ≤ 900 ∧ (runK op e k).1.l.length ≤ 900 := by
  have hL : ∀ c ∈ (((mem op).take k).map lets).flatten, Letter c := by
    intro c hc
    obtain ⟨l, hl, hcl⟩ := List.mem_flatten.1 hc
    obtain ⟨m, hm, rfl⟩ := List.mem_map.1 hl
    exact lets_letter m (mem_lt op m (List.mem_of_mem_take hm)) c hcl
  have h1 := run_long _ (startS op) e hL
  have h2 : ((((mem op).take k).map lets).flatten).length ≤ 2 * ((mem op).take k).length := by
    have h0 : ∀ M : List Nat, (∀ m ∈ M, m < 12) → ((M.map lets).flatten).length ≤ 2 * M.length := by
      intro M
      induction M with
      | nil => intro _; simp
      | cons m M ih =>
        intro h
        have h3 : ∀ m, m < 12 → (lets m).length ≤ 2 := by decide
        have h4 := h3 m (h m (by simp))
        have h5 := ih (fun q hq => h q (by simp [hq]))
        simp only [List.map_cons, List.flatten_cons, List.length_append, List.length_cons]
        omega
    exact h0 _ (fun m hm => mem_lt op m (List.mem_of_mem_take hm))
  have h3 : ((mem op).take k).length ≤ 5 := by have := mem_len op; simp; omega
  have h4 : (startS op).t.length = 0 := rfl
  have h5 : (startS op).l.length = 0 := rfl
  unfold runK
  omega
/-! memory -/
theorem MRow.stayM {w w' : World} {a : Option Addr} {op : Int} (h : MRow w a op) (hs : StayM w w') : MRow w' a op := by
  rcases h with h | ⟨q, rfl, hB⟩
  · exact .inl h
  · exact .inr ⟨q, rfl, hs.block hB⟩
/-- a step's lists lie in rows of the call's own -/
def OwnS (B : Nat) (w : World) (p : St) : Prop := w.ownsRow B 3 1 (.slice p.ta p.s.t.length p.tc) p.s.t.length (intV p.s.t) ∧ w.ownsRow B 23 5 (.slice p.la p.s.l.length p.lc) p.s.l.length (fdV p.s.l)
theorem OwnS.lists {B : Nat} {w : World} {p : St} (h : OwnS B w p) : Lists w p.s p.ta p.la :=
  ⟨(own_ints h.1).1, (own_fds h.2).1, Nat.le_trans (own_cap h.1).1 (own_cap h.1).2, Nat.le_trans (own_cap h.2).1 (own_cap h.2).2⟩
theorem OwnS.low {B B' : Nat} {w : World} {p : St} (h : OwnS B w p) (hB : B' ≤ B) : OwnS B' w p := ⟨own_low h.1 hB, own_low h.2 hB⟩
theorem past_setCells {S : Nat} (Q : World → Prop) (hq : ∀ w o v, Q w → Q (w.setCell ⟨S, o, none⟩ v)) : ∀ (vs : List Value) (o : Nat) (w : World), Q w → Q (w.setCells S o vs)
  | [], _, _, h => h
  | v :: vs, o, w, h => past_setCells Q hq vs (o + 1) _ (hq w o v h)
theorem OwnS.past {B S : Nat} {w : World} {p : St} (h : OwnS B w p) (hS : S < B) (o : Nat) (vs : List Value) : OwnS B (w.setCells S o vs) p :=
  past_setCells (fun w => OwnS B w p) (fun w o v h => ⟨own_past h.1 hS, own_past h.2 hS⟩) vs o w h
theorem eye_setCells {Ty : TypeId} {b S : Nat} {e : Sight} {w : World} (h : EyeAt Ty b e w) (hS : b < S) (o : Nat) (vs : List Value) : EyeAt Ty b e (w.setCells S o vs) :=
  past_setCells (fun w => EyeAt Ty b e w) (fun w o v h => eye_past h hS ((But.refl _ S w).setCell o v)) vs o w h
theorem but_setCells {B b S : Nat} {a w : World} (h : But B b a w) (hS : B ≤ S) (o : Nat) (vs : List Value) : But B b a (w.setCells S o vs) :=
  past_setCells (fun w => But B b a w) (fun w o v h => but_store h hS o v) vs o w h
theorem st_info16 (v0 v1 v2 v3 v4 v5 v6 v7 v8 v9 v10 v11 v12 v13 v14 v15 : Value) : (Try.prog.info? 29).map (·.size) = some [v0, v1, v2, v3, v4, v5, v6, v7, v8, v9, v10, v11, v12, v13, v14, v15].length := by kernel_rfl
def TakesS (b : Nat) (e : Sight) (Ty : TypeId) (w : World) (en : Ending) (w' : World) : Prop :=
  ∃ p : St, en = .returned p.val ∧ p.s = (takeS e).1 ∧ OwnS w.heap.size w' p ∧ EyeAt Ty b (takeS e).2 w' ∧ But w.heap.size b w w'
abbrev Z16 : List Value := [.int .i64 0, .int .i64 0, .int .i64 0, .int .i64 0, .int .i64 0, .int .i64 0, .int .i64 0, .int .i64 0, .int .i64 0, .int .i64 0, .int .i64 0, .int .i64 0, .int .i64 0, .string ⟨#[]⟩, .slice none 0 0, .slice none 0 0]
/-- the result: the variable's cells stored in the result's -/
theorem takeS_end {Ty : TypeId} {b T : Nat} {w w1 wr : World} {s : Sp} {e : Sight} {ta la : Option Addr} {tc lc : Nat} (h : TS Ty b T w1 s e ta tc la lc wr) (hR : Block wr w.heap.size 29 Z16) (hb1 : But w.heap.size b w w1) (hlt : b < w.heap.size) (hRT : w.heap.size < T) :
    Block (wr.setCells w.heap.size 0 [.int .i64 s.op, .int .i64 s.fm, .int .i64 s.fd, .int .i64 s.pl, .int .i64 s.tt, .int .i64 s.a, .int .i64 s.b, .int .i64 s.f.id, .int .i64 s.f.kind, .int .i64 s.f.lo, .int .i64 s.f.hi, .int .i64 s.f.most, .int .i64 s.v.n, .string s.v.s, .slice ta s.t.length tc, .slice la s.l.length lc]) w.heap.size 29 [.int .i64 s.op, .int .i64 s.fm, .int .i64 s.fd, .int .i64 s.pl, .int .i64 s.tt, .int .i64 s.a, .int .i64 s.b, .int .i64 s.f.id, .int .i64 s.f.kind, .int .i64 s.f.lo, .int .i64 s.f.hi, .int .i64 s.f.most, .int .i64 s.v.n, .string s.v.s, .slice ta s.t.length tc, .slice la s.l.length lc] ∧ OwnS w.heap.size (wr.setCells w.heap.size 0 [.int .i64 s.op, .int .i64 s.fm, .int .i64 s.fd, .int .i64 s.pl, .int .i64 s.tt, .int .i64 s.a, .int .i64 s.b, .int .i64 s.f.id, .int .i64 s.f.kind, .int .i64 s.f.lo, .int .i64 s.f.hi, .int .i64 s.f.most, .int .i64 s.v.n, .string s.v.s, .slice ta s.t.length tc, .slice la s.l.length lc]) ⟨s, ta, tc, la, lc⟩ ∧ EyeAt Ty b e (wr.setCells w.heap.size 0 [.int .i64 s.op, .int .i64 s.fm, .int .i64 s.fd, .int .i64 s.pl, .int .i64 s.tt, .int .i64 s.a, .int .i64 s.b, .int .i64 s.f.id, .int .i64 s.f.kind, .int .i64 s.f.lo, .int .i64 s.f.hi, .int .i64 s.f.most, .int .i64 s.v.n, .string s.v.s, .slice ta s.t.length tc, .slice la s.l.length lc]) ∧ But w.heap.size b w (wr.setCells w.heap.size 0 [.int .i64 s.op, .int .i64 s.fm, .int .i64 s.fd, .int .i64 s.pl, .int .i64 s.tt, .int .i64 s.a, .int .i64 s.b, .int .i64 s.f.id, .int .i64 s.f.kind, .int .i64 s.f.lo, .int .i64 s.f.hi, .int .i64 s.f.most, .int .i64 s.v.n, .string s.v.s, .slice ta s.t.length tc, .slice la s.l.length lc]) :=
  ⟨hR.setCells, ((show OwnS (T + 1) wr ⟨s, ta, tc, la, lc⟩ from ⟨h.rt, h.rl⟩).past (by omega) 0 _).low (by omega), eye_setCells h.eye hlt 0 _, but_setCells (hb1.trans (h.but.mono (Nat.le_of_lt hRT))) (Nat.le_refl _) 0 _⟩
set_option maxRecDepth 20000 in
set_option maxHeartbeats 3200000 in
theorem parseStep_any (b : Nat) (e : Sight) (w : World) (h : EyeAt 98 b e w) : Calls Try.prog 41 #[.pointer (some ⟨b, 0, none⟩)] w (TakesS b e 98 w) := by
  obtain ⟨A, e1, hA⟩ : ∃ A q, eCount 30 e = (A, q) := ⟨_, _, rfl⟩
  have hT : takeS e = runK (A : Int) e1 (mem (A : Int)).length := by rw [runK_all]; unfold takeS; rw [hA]
  have hlt := h.lt
  have hb0 := newB w (.cells #[.int .i64 0, .int .i64 0, .int .i64 0, .int .i64 0, .int .i64 0, .int .i64 0, .int .i64 0, .int .i64 0, .int .i64 0, .int .i64 0, .int .i64 0, .int .i64 0, .int .i64 0, .string ⟨#[]⟩, .slice none 0 0, .slice none 0 0] 29)
  have c1 := eyeCount_any b e _ (h.later hb0) 30 (by omega) (by omega)
  rw [hA] at c1
  have HR0 := hid (Block.new w 29 Z16)
  have HB0 := hid hb0
  have hne : w.heap.size ≠ b := by omega
  have cM := fun w' => members_any (A : Int) w'
  have HTT := hid hT
  unfold TakesS
  clear hT hA h hb0
  unfold Saw at c1
  unfold Members at cM
  go_enter Try.func41, Try.ntmps41
  go_wp2_with (first
    | (go_at_call 40; ((with_reducible refine c1.mono ?_); clear c1; rintro en w1 ⟨rfl, hE1, hu1⟩; have HR1 := hid (blk_but HR0.out hu1 hne); have HTS := hid (TS.start hE1 (A : Int)); have HU1 := hid hu1; clear hE1 hu1))
    | (go_at_call 18; ((with_reducible refine (cM _).mono ?_); rintro en w2 ⟨aM, cMx, rfl, hM, hb2⟩; have HTS2 := hid (HTS.out.later hb2); have HM := hid hM; clear hM hb2)))
  clear cM
  have HB1 := hid ((Below.but HB0.out).trans (HU1.out.mono HB0.out.size))
  have HSZ := hid (show w.heap.size < w1.heap.size from HR1.out.lt)
  obtain ⟨T, hTe⟩ : ∃ T, Hid (w1.heap.size = T) := ⟨_, hid rfl⟩
  rw [hTe.out] at HTS2 HSZ ⊢
  obtain ⟨N, hN⟩ : ∃ N : Nat, Hid ((mem (A : Int)).length = N) := ⟨_, hid rfl⟩
  have hN5 : N ≤ 5 := by rw [← hN.out]; exact mem_len _
  rw [hN.out] at HTT ⊢
  go_loopw [13] (fun m wr => ∃ k : Nat, k ≤ N ∧ m = .int .i64 (k : Int) ∧ Hid (∃ ta tc la lc, TS 98 b T w1 (runK (A : Int) e1 k).1 (runK (A : Int) e1 k).2 ta tc la lc wr) ∧ Hid (MRow wr aM (A : Int))) (fun m _ => N - (intOf m).toNat)
  case atStart => exact ⟨0, Nat.zero_le _, rfl, hid ⟨_, _, _, _, HTS2.out⟩, HM⟩
  case round =>
    obtain ⟨k, hk, rfl, HS, HMK⟩ := hrel
    obtain ⟨ta, tc, la, lc, hS⟩ := HS.out
    by_cases hltk : k < N
    · obtain ⟨b2, off2, m, rfl, hbl2, hm, hm12, e0⟩ := memI_cell HMK.out.ins (Below.refl _ _) (k := k) (by rw [hN.out]; exact hltk)
      have i1 : (k : Int) < N := by omega
      have HSUC := hid (runK_succ (e := e1) hm)
      have hlg := runK_long (A : Int) e1 k
      have cP := parseMember_any m hm12 _ hlg.1 hlg.2 hS
      unfold TakesM at cP
      clear hm hlg hS HS
      go_wp2_with (go_at_call 65; ((with_reducible refine cP.mono ?_); clear cP; rintro en w3 ⟨rfl, hT3, hK3⟩; have HT3 := hid hT3; have HK3 := hid hK3; clear hT3 hK3))
      exact ⟨⟨k + 1, by omega, by go_num, hid (by rw [HSUC.out]; exact HT3.out), hid (HMK.out.stayM HK3.out)⟩, by simp [intOf]; omega⟩
    · obtain rfl : k = N := by omega
      have HR2 := hid (HR1.out.but hS.but HSZ.out hne)
      obtain ⟨s, hs⟩ : ∃ s, Hid ((runK (A : Int) e1 k).1 = s) := ⟨_, hid rfl⟩
      rw [hs.out] at hS
      have HS2 := hid hS
      have hR2 := HR2.out
      have hf := hS.f
      have x0 := hR2.cell 0
      have p0 := hR2.frozen 0
      have y0 := hf.cell 0
      have x1 := hR2.cell 1
      have p1 := hR2.frozen 1
      have y1 := hf.cell 1
      have x2 := hR2.cell 2
      have p2 := hR2.frozen 2
      have y2 := hf.cell 2
      have x3 := hR2.cell 3
      have p3 := hR2.frozen 3
      have y3 := hf.cell 3
      have x4 := hR2.cell 4
      have p4 := hR2.frozen 4
      have y4 := hf.cell 4
      have x5 := hR2.cell 5
      have p5 := hR2.frozen 5
      have y5 := hf.cell 5
      have x6 := hR2.cell 6
      have p6 := hR2.frozen 6
      have y6 := hf.cell 6
      have x7 := hR2.cell 7
      have p7 := hR2.frozen 7
      have y7 := hf.cell 7
      have x8 := hR2.cell 8
      have p8 := hR2.frozen 8
      have y8 := hf.cell 8
      have x9 := hR2.cell 9
      have p9 := hR2.frozen 9
      have y9 := hf.cell 9
      have x10 := hR2.cell 10
      have p10 := hR2.frozen 10
      have y10 := hf.cell 10
      have x11 := hR2.cell 11
      have p11 := hR2.frozen 11
      have y11 := hf.cell 11
      have x12 := hR2.cell 12
      have p12 := hR2.frozen 12
      have y12 := hf.cell 12
      have x13 := hR2.cell 13
      have p13 := hR2.frozen 13
      have y13 := hf.cell 13
      have x14 := hR2.cell 14
      have p14 := hR2.frozen 14
      have y14 := hf.cell 14
      have x15 := hR2.cell 15
      have p15 := hR2.frozen 15
      have y15 := hf.cell 15
      clear hS HS hR2 hf
      go_wp2
      obtain ⟨k1, k2, k3, k4⟩ := takeS_end HS2.out HR2.out HB1.out hlt HSZ.out
      exact bodyPost_ret (results_cell (b := w.heap.size) (o := 0) rfl rfl k1.whole Try.underlying29 rfl (st_info16 _ _ _ _ _ _ _ _ _ _ _ _ _ _ _ _)) rfl ⟨⟨s, ta, tc, la, lc⟩, rfl, by rw [HTT.out]; exact hs.out.symm, k2, by rw [HTT.out]; exact k3, k4⟩
end Go.Proofs.Ytpdnfiofjkbeiaa.step
