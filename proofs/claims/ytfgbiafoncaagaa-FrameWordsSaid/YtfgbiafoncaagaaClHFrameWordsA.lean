/- Lemmas of the claim HFrameWords. Each says its own conditions. -/
import Derived.Test.YtfgbiafoncaagaaCmB
import Derived.Test.YtfgbiafoncaagaaCmC
import Derived.Deep.MidRow
import Derived.Laws.StructEq
import Derived.Below
import Derived.Maps.AppendAt
import Derived.Test.YtfgbiafoncaagaaCmA
/- What words are read as, told as the reference tells it. Plain lists, no condition. -/
namespace Go.Proofs.Ytfgbiafoncaagaa.frame
open Go.RowKit Go.Proofs.Ytfgbiafoncaagaa.word Go.Proofs.Ytfgbiafoncaagaa.zeros
set_option linter.unusedVariables false

theorem readN_few (xs : List Nat) (h : xs.length < 4) : readN xs = none := by
  unfold readN
  rcases toldS_cases xs with h0 | ⟨n, h1, h2, h3, h4, h5⟩
  · rw [if_pos h0]
  · omega
theorem readN_not (xs : List Nat) (h : (toldN (xs.getD 0 0)).1 < 1 ∨ 56 < (toldN (xs.getD 0 0)).1 ∨ xs.length < (toldN (xs.getD 0 0)).1 + 3) : readN xs = none := by
  unfold readN
  rcases toldS_cases xs with h0 | ⟨n, h1, h2, h3, h4, h5⟩
  · rw [if_pos h0]
  · rw [h4] at h
    simp only at h
    omega
theorem readN_eq (xs : List Nat) (n : Nat) (hn : (toldN (xs.getD 0 0)).1 = n) (n1 : 1 ≤ n) (n2 : n ≤ 56) (h5 : n + 3 ≤ xs.length) (K S : Nat) (L : List Nat)
    (hK : K = xs.getD 1 0 / 1073741824) (hS : S = xs.getD 1 0 % 1073741824) (hLd : L = (xs.take (n + 2)).drop 2) :
    readN xs = if okB K S n = true ∧ words K S L = xs.take (n + 3) then some (K, S, L) else none := by
  have hL : L.length = n := by rw [hLd]; simp; omega
  have ht : toldN (xs.getD 0 0) = (n, true) := by
    have h := toldN_fst (x := xs.getD 0 0) (n := n) (b := (toldN (xs.getD 0 0)).2) (Prod.ext hn rfl) (by omega)
    exact Prod.ext hn h.2
  have hx0 := twin_of ht (by omega)
  by_cases h : okB K S n = true ∧ words K S L = xs.take (n + 3)
  · rw [if_pos h]
    have e : xs = words K S L ++ xs.drop (n + 3) := by rw [h.2, List.take_append_drop]
    rw [e]
    exact readN_words K S L _ (by rw [hL]; exact h.1)
  · rw [if_neg h]
    cases hr : readN xs with
    | none => rfl
    | some q =>
      obtain ⟨k, s, M⟩ := q
      obtain ⟨r1, r2, r3⟩ := readN_some hr
      obtain ⟨o1, o2, o3, o4, o5⟩ := okB_true.1 r1
      exfalso
      have g0 : xs.getD 0 0 = twinN M.length := by
        have : (xs.take (M.length + 3)).getD 0 0 = xs.getD 0 0 := by simp [List.getD_eq_getElem?_getD]
        rw [← this, r2]; rfl
      have g1 : xs.getD 1 0 = k * 1073741824 + s := by
        have : (xs.take (M.length + 3)).getD 1 0 = xs.getD 1 0 := by simp [List.getD_eq_getElem?_getD]
        rw [← this, r2]; rfl
      rw [g0, told_twin _ (by omega), Prod.mk.injEq] at ht
      have hM := ht.1
      have gK : K = k := by rw [hK, g1]; omega
      have gS : S = s := by rw [hS, g1]; omega
      have gL : L = M := by
        have e2 : xs.take (n + 2) = body k s M := by
          have : xs.take (n + 2) = (xs.take (n + 3)).take (n + 2) := by rw [List.take_take]; congr 1; omega
          rw [this, ← hM, r2]
          unfold words
          rw [List.take_append_of_le_length (by rw [body_length]; omega), List.take_of_length_le (by rw [body_length]; omega)]
        rw [hLd, e2]
        rfl
      apply h
      rw [gK, gS, gL, ← hM]
      exact ⟨r1, r2.symm⟩
end Go.Proofs.Ytfgbiafoncaagaa.frame
/- A region whose order is open: operations that look at no memory are taken first, in an order that the prover names; the others stand in one row. No condition. -/
namespace Go.Proofs.Ytfgbiafoncaagaa.perm
open Go

section
variable {P : Program} {ops : Array Oper} {md : Region.Mode}

/-- an operation that yields a value, or nothing -/
def plainOp : Op → Bool
  | .move _ | .assign _ | .load _ _ | .binOp .. | .unOp .. | .slice .. | .fieldAddr .. | .indexAddr .. | .index .. | .extract .. | .convert .. => true
  | .nilCheck _ => true
  | _ => false
theorem plain_value {ρ : Operand → Value} {o : Oper} {w w' : World} {n : Next} (h : plainOp o.op = true) (hr : (execOp ρ o).run P w = .ok n w') : ∃ u, n = .value u := by
  have key : ∀ (s : Sem Value), (do let x ← s; pure (Next.value x) : Sem Next).run P w = .ok n w' → ∃ u, n = .value u := fun s hs => by
    rw [Sem.run_bind] at hs
    cases hq : s.run P w with
    | ok u w1 => rw [hq] at hs; simp [Result.andThen] at hs; exact ⟨u, hs.1.symm⟩
    | halt x w1 => rw [hq] at hs; simp [Result.andThen] at hs
  unfold execOp at hr
  cases ho : o.op <;> rw [ho] at h hr <;> simp only [plainOp] at h <;> try cases h
  case move x => simp at hr; exact ⟨_, hr.1.symm⟩
  case assign x => simp at hr; exact ⟨_, hr.1.symm⟩
  case nilCheck x =>
    dsimp only at hr
    split at hr
    · simp [runtimePanic, Sem.run_bind, Result.andThen] at hr
    · simp [runtimePanic] at hr
    · simp [runtimePanic] at hr
    · split at hr
      · simp [runtimePanic] at hr
      · simp only [Sem.run_bind] at hr
        generalize Sem.run P program _ = r1 at hr
        cases r1 with
        | halt x w1 => simp [Result.andThen] at hr
        | ok p w1 =>
          simp only [Result.andThen] at hr
          generalize Sem.run P (nilAhead _ _ _ _) _ = r2 at hr
          cases r2 with
          | halt x w2 => simp at hr
          | ok q w2 =>
            simp only at hr
            split at hr
            · simp [unsupported, Result.andThen] at hr
            · simp at hr; exact ⟨_, hr.1.symm⟩
      · simp at hr; exact ⟨_, hr.1.symm⟩
    · simp at hr; exact ⟨_, hr.1.symm⟩
  all_goals exact key _ hr

theorem yieldsIf_of_in {o : Oper} {v : Value} {a : Act} (hp : plainOp o.op = true) (hy : YieldsIn P ops (fun _ => True) o v a) : YieldsIf P ops (fun _ => True) o v a := by
  rcases hy with ⟨hw, hv⟩ | hy
  · refine .inl ⟨hw, fun w' _ => ?_⟩
    have h3 := hv w' trivial
    unfold Oper.quietAt at h3
    generalize hr : (execOp a.eval o).run P w' = r at h3
    cases r with
    | halt x w2 => simp only [Oper.quietUpon] at h3
    | ok n w2 =>
      obtain ⟨u, rfl⟩ := plain_value hp hr
      simp only [Oper.quietUpon] at h3
      rw [h3.1, h3.2]
  · exact .inr hy

def lexFirst (md : Region.Mode) (ops : Array Oper) (F : Array Bool → Bool) : List Nat → Array Bool → Bool
  | [], listed => F listed
  | k :: is, listed => (Region.ready md ops listed).contains k && Region.free md ops listed k && ((ops[k]?).map (fun o => plainOp o.op) == some true) && lexFirst md ops F is (listed.setIfInBounds k true)
def seqOf (md : Region.Mode) (ops : Array Oper) : List Nat → Array Bool → Bool
  | [], listed => (Region.ready md ops listed).isEmpty
  | k :: js, listed => decide (Region.ready md ops listed = [k]) && decide (k < ops.size) && seqOf md ops js (listed.setIfInBounds k true)
def permB (md : Region.Mode) (ops : Array Oper) (is js : List Nat) : Bool :=
  Region.noSelect ops && decide (is.length + js.length = ops.size) && lexFirst md ops (seqOf md ops js) is (Array.replicate ops.size false)
def nth : List Oper → Nat → List Oper
  | [], _ => []
  | o :: _, 0 => [o]
  | _ :: l, k + 1 => nth l k
def pickOps (ops : List Oper) : List Nat → List Oper
  | [] => []
  | k :: is => nth ops k ++ pickOps ops is
theorem nth_of : ∀ {l : List Oper} {k : Nat} {o : Oper}, l[k]? = some o → nth l k = [o]
  | [], k, o, h => by simp at h
  | _ :: _, 0, o, h => by simp at h; simp [nth, h]
  | _ :: l, k + 1, o, h => by simp only [nth]; exact nth_of (by simpa using h)

theorem wpAny_seqOf {Q : Exit → Act → World → Prop} {l : List Oper} : ∀ (js : List Nat) (listed : Array Bool) (a : Act) (w : World), seqOf md l.toArray js listed = true →
    wpList P l.toArray Q (pickOps l js) a w → wpAny P md l.toArray Q js.length listed a w
  | [], _, _, _, hB, h => ⟨by simpa [seqOf] using hB, h⟩
  | k :: js, listed, a, w, hB, h => by
    simp only [seqOf, Bool.and_eq_true, decide_eq_true_eq] at hB
    obtain ⟨⟨hr, hk⟩, hB'⟩ := hB
    have hk' : k < l.length := by simpa using hk
    have h0 : l.toArray[k]? = some l[k] := by simp [hk']
    have e : pickOps l (k :: js) = l[k] :: pickOps l js := by simp [pickOps, nth_of (show l[k]? = some l[k] by simp [hk'])]
    rw [e] at h
    refine ⟨fun h1 => (by rw [hr] at h1; cases h1), fun i hi => ?_⟩
    rw [hr] at hi
    have hik : i = k := by simpa using hi
    subst hik
    have hw : wpOp P l.toArray Q i (wpList P l.toArray Q (pickOps l js)) a w := by unfold wpOp; simp only [h0]; exact h
    exact wpOp_mono (fun a' w' h' => wpAny_seqOf js _ a' w' hB' h') hw

theorem first_ops {Q : Exit → Act → World → Prop} {Lq : Act → Prop} {l : List Oper} {w : World} (F : Array Bool → Bool) (g : Nat) (hsel : Region.noSelect l.toArray = true)
    (hQ : ∀ c a a' w, Q (.panic c) a w → Q (.panic c) a' w) (hK : ∀ listed a, F listed = true → Lq a → wpAny P md l.toArray Q g listed a w) :
    ∀ (is : List Nat) (listed : Array Bool) (a : Act), lexFirst md l.toArray F is listed = true → wpQuiet P l.toArray (fun _ => True) Lq (pickOps l is) a →
      wpAnyH P md l.toArray Q (fun _ => True) (is.length + g) listed a w
  | [], listed, a, hB, h => by
    simp only [List.length_nil, Nat.zero_add]
    exact tail.held_of_any _ _ _ _ (hK _ _ (by simpa [lexFirst] using hB) h)
  | k :: is, listed, a, hB, h => by
    simp only [lexFirst, Bool.and_eq_true] at hB
    obtain ⟨⟨⟨hr, hf⟩, hp⟩, hB'⟩ := hB
    have hp' : (l.toArray[k]?).map (fun o => plainOp o.op) = some true := by simpa using hp
    obtain ⟨o, h0, ho⟩ := Option.map_eq_some_iff.1 hp'
    have hl0 : l[k]? = some o := by simpa using h0
    have e : pickOps l (k :: is) = o :: pickOps l is := by simp [pickOps, nth_of hl0]
    rw [e] at h
    have hst : qOp P l.toArray (fun _ => True) k (wpQuiet P l.toArray (fun _ => True) Lq (pickOps l is)) a := by unfold qOp; simp only [h0]; exact h
    obtain ⟨v, hy, hK'⟩ := yieldsIn_of_qOp h0 hst
    rw [show (k :: is).length + g = (is.length + g) + 1 from by simp only [List.length_cons]; omega]
    exact wpAnyH_take h0 hsel hf hr (fun c a w h => hQ c _ _ w h) (yieldsIf_of_in ho hy) trivial (first_ops F g hsel hQ hK is _ _ hB' hK')

/-- the operations 'is' look at no memory and are taken first; the others, 'js', stand in one row; nothing panics -/
theorem region {id : Nat} {Q : Exit → Act → World → Prop} {a : Act} {w : World} {l : List Oper} (is js : List Nat) (hmx : P.follows .mixedOrders = true) (hB : permB .any l.toArray is js = true)
    (h : wpQuiet P l.toArray (fun _ => True) (fun a' => wpList P l.toArray (NoPanic Q) (pickOps l js) a' w.drew) (pickOps l is) a) : (Code.region id l.toArray true).wp P Q a w := by
  simp only [permB, Bool.and_eq_true, decide_eq_true_eq] at hB
  obtain ⟨⟨hsel, hlen⟩, hlex⟩ := hB
  refine wp_region_noPanic (wp_region_held (S := fun _ => True) hmx ?_)
  have key := first_ops (md := .any) (Q := NoPanic Q) (w := { w with drawn := w.drawn + 1 }) (seqOf .any l.toArray js) js.length hsel (fun c a a' w h => h)
    (fun listed a' hF hL => wpAny_seqOf js listed a' _ hF hL) is _ a hlex h
  rwa [hlen] at key
end
end Go.Proofs.Ytfgbiafoncaagaa.perm
/- A region whose order is open, walked by a schedule that the prover names: an operation that yields the same in every world in which what there was stands is taken first; else the one that may come up comes up. No condition. -/
namespace Go.Proofs.Ytfgbiafoncaagaa.plan
open Go Go.RowKit

section
variable {P : Program} {md : Region.Mode} {Q : Exit → Act → World → Prop} {l : List Oper}

/-- what is still to be shown, when 'listed' have come up -/
def Rest (P : Program) (md : Region.Mode) (l : List Oper) (Q : Exit → Act → World → Prop) (f : Nat) (listed : Array Bool) (a : Act) (w : World) : Prop :=
  wpAnyH P md l.toArray (NoPanic Q) (Below w.heap.size w) f listed a w

theorem weaken {S S' : World → Prop} (hS : ∀ w, S' w → S w) : ∀ (f : Nat) (listed : Array Bool) (a : Act) (w : World), wpAnyH P md l.toArray Q S' f listed a w → wpAnyH P md l.toArray Q S f listed a w
  | 0, _, _, _, h => h
  | f + 1, _, _, _, h => ⟨h.1, fun i hi => wpOp_mono (fun a' w' h' => ⟨hS _ h'.1, weaken hS f _ a' w' h'.2⟩) (h.2 i hi)⟩

theorem Rest.first {f : Nat} {listed : Array Bool} {a : Act} {w : World} (i : Nat) (o : Oper) (v : Value) (hi : l[i]? = some o) (hs : Region.noSelect l.toArray = true) (hf : Region.free md l.toArray listed i = true)
    (hr : (Region.ready md l.toArray listed).contains i = true) (hw : Region.wanted o (yielded l.toArray a.tmps) = true) (hv : ∀ w', Below w.heap.size w w' → (execOp a.eval o).run P w' = .ok (.value v) w')
    (h : Rest P md l Q f (listed.setIfInBounds i true) (a.put o.dst v) w) : Rest P md l Q (f + 1) listed a w :=
  wpAnyH_take (by simpa using hi) hs hf hr (fun c a' w' h => h) (.inl ⟨hw, hv⟩) (Below.refl _ _) h

theorem Rest.value {f : Nat} {listed : Array Bool} {a : Act} {w : World} (i : Nat) (o : Oper) (v : Value) (hi : l[i]? = some o) (hr : Region.ready md l.toArray listed = [i])
    (hw : Region.wanted o (yielded l.toArray a.tmps) = true) (hv : (execOp a.eval o).run P w = .ok (.value v) w)
    (h : Rest P md l Q f (listed.setIfInBounds i true) (a.put o.dst v) w) : Rest P md l Q (f + 1) listed a w := by
  refine wpAnyH_all hr (by simp) fun j hj => ?_
  obtain rfl : j = i := by simpa using hj
  have hi' : l.toArray[j]? = some o := by simpa using hi
  unfold wpOp
  simp only [hi', hw, if_true, Oper.wp, hv, Oper.upon_value]
  exact .inl ⟨Below.refl _ _, h⟩

theorem Rest.call {f : Nat} {listed : Array Bool} {a : Act} {w : World} (i : Nat) (o : Oper) (F : FuncId) (args : Array Value) (hi : l[i]? = some o) (hr : Region.ready md l.toArray listed = [i])
    (hw : Region.wanted o (yielded l.toArray a.tmps) = true) (hv : (execOp a.eval o).run P w = .ok (.enter F args) w)
    (h : Calls P F args w fun e w' => ∃ v, e = .returned v ∧ Below w.heap.size w w' ∧ Rest P md l Q f (listed.setIfInBounds i true) (a.put o.dst v) w') : Rest P md l Q (f + 1) listed a w := by
  refine wpAnyH_all hr (by simp) fun j hj => ?_
  obtain rfl : j = i := by simpa using hj
  have hi' : l.toArray[j]? = some o := by simpa using hi
  unfold wpOp
  simp only [hi', hw, if_true, Oper.wp, hv, Oper.upon]
  refine .inl (h.mono ?_)
  rintro e w' ⟨v, rfl, hb, hR⟩
  exact ⟨hb, weaken (fun w'' hb' => hb.trans (hb'.mono hb.size)) _ _ _ _ hR⟩

theorem Rest.done {listed : Array Bool} {a : Act} {w : World} (hr : Region.ready md l.toArray listed = []) (h : Q .normal a w) : Rest P md l Q 0 listed a w := ⟨hr, NoPanic.normal h⟩

theorem exec_load {o : Oper} {a : Act} {w : World} {ty : TypeId} {x : Operand} {b : Nat} {cs : List Value} {d : TypeDesc} (ho : o.op = .load ty x) (hx : a.eval x = .pointer (some ⟨b, 0, none⟩)) (hc : w.rangeAt b 0 cs)
    (hu : P.underlying ty = some d) (hd : d.isRow = true) (hi : (P.info? ty).map (·.size) = some cs.length) : (execOp a.eval o).run P w = .ok (.value (.agg cs.toArray)) w := by
  unfold execOp
  simp [ho, hx, run_loadAt_mid w b 0 ty cs d hc hu hd hi]
theorem exec_convert {o : Oper} {a : Act} {w : World} {s d : TypeId} {x : Operand} {v u : Value} (ho : o.op = .convert s d x) (hx : a.eval x = v) (hr : (convert s d v).run P w = .ok u w) : (execOp a.eval o).run P w = .ok (.value u) w := by
  unfold execOp
  simp [ho, hx, hr]
theorem exec_eql {o : Oper} {a : Act} {w : World} {t t' : TypeId} {x y : Operand} {vx vy u : Value} (ho : o.op = .binOp .eql t x y t') (hx : a.eval x = vx) (hy : a.eval y = vy)
    (hg : (eqGuard .eql t x y vx vy).run P w = .ok () w) (hr : (binOp .eql t vx vy).run P w = .ok u w) : (execOp a.eval o).run P w = .ok (.value u) w := by
  unfold execOp
  simp [ho, hx, hy, Sem.run_bind, hg, hr]
theorem region {id : Nat} {a : Act} {w : World} (hmx : P.follows .mixedOrders = true) (h : Rest P .any l Q l.length (Array.replicate l.length false) a w.drew) : (Code.region id l.toArray true).wp P Q a w := by
  refine wp_region_noPanic (wp_region_held (S := Below w.drew.heap.size w.drew) hmx ?_)
  have e : l.toArray.size = l.length := by simp
  rw [e]
  exact h
end
end Go.Proofs.Ytfgbiafoncaagaa.plan
/- A region whose order is open: two calls that make memory, one behind the other, and two new variables that may come up at any time. Whatever the order, behind the four the state is the same but for where the variables lie. No condition. -/
namespace Go.Proofs.Ytfgbiafoncaagaa.plan
open Go Go.RowKit
set_option linter.unusedVariables false

theorem put_same (a : Act) (d : Nat) (u v : Value) : (a.put (some d) u).put (some d) v = a.put (some d) v := by
  simp [Act.put]
theorem put_comm (a : Act) (d e : Nat) (u v : Value) (h : d ≠ e) : (a.put (some d) u).put (some e) v = (a.put (some e) v).put (some d) u := by
  simp only [Act.put, Act.mk.injEq, and_true]
  exact Array.setIfInBounds_comm u v h
theorem wanted_none {o : Oper} (h : o.guard = none) (y : Nat → Option Value) (hy : True) : ∀ t, Region.wanted o t = true := by
  intro t
  unfold Region.wanted
  rw [h]

section
variable {P : Program} {md : Region.Mode} {Q : Exit → Act → World → Prop} {l : List Oper}

theorem exec_load_int {o : Oper} {a : Act} {w : World} {ty : TypeId} {x : Operand} {ad : Addr} {k : IntKind} {n : Int} (ho : o.op = .load ty x) (hx : a.eval x = .pointer (some ad)) (hc : w.cell? ad = some (.int k n)) (hu : ∀ w', (isAgg ty).run P w' = .ok false w') :
    (execOp a.eval o).run P w = .ok (.value (.int k n)) w := by
  unfold execOp
  rw [ho]
  simp only [hx]
  go_simp
/-- each operation that may come up goes on -/
theorem every {S : World → Prop} {f : Nat} {listed : Array Bool} {a : Act} {w : World} (hne : Region.ready md l.toArray listed ≠ [])
    (h : ∀ i ∈ Region.ready md l.toArray listed, ∃ o, l[i]? = some o ∧ o.guard = none ∧
      ((∃ v w1, (execOp a.eval o).run P w = .ok (.value v) w1 ∧ S w1 ∧ wpAnyH P md l.toArray (NoPanic Q) S f (listed.setIfInBounds i true) (a.put o.dst v) w1) ∨
       (∃ F args, (execOp a.eval o).run P w = .ok (.enter F args) w ∧ Calls P F args w fun e w' => ∃ v, e = .returned v ∧ S w' ∧ wpAnyH P md l.toArray (NoPanic Q) S f (listed.setIfInBounds i true) (a.put o.dst v) w'))) :
    wpAnyH P md l.toArray (NoPanic Q) S (f + 1) listed a w := by
  refine wpAnyH_all rfl hne fun i hi => ?_
  obtain ⟨o, ho, hg, h⟩ := h i hi
  have hi' : l.toArray[i]? = some o := by simpa using ho
  have hw : Region.wanted o (yielded l.toArray a.tmps) = true := by unfold Region.wanted; rw [hg]
  unfold wpOp
  rcases h with ⟨v, w1, hv, hb, hR⟩ | ⟨F, args, hv, hc⟩
  · simp only [hi', hw, if_true, Oper.wp, hv, Oper.upon]
    exact .inl ⟨hb, hR⟩
  · simp only [hi', hw, if_true, Oper.wp, hv, Oper.upon]
    refine .inl (hc.mono ?_)
    rintro e w' ⟨v, rfl, hb, hR⟩
    exact ⟨hb, hR⟩

/-- a store of a row into a block of the call's own, the only operation that may come up -/
theorem store {f : Nat} {listed : Array Bool} {a : Act} {w0 w : World} (B i : Nat) (o : Oper) (ty : TypeId) (x y : Operand) (g : Nat) (t : TypeId) (cs : List Value) (cells : Array Value) (hi : l[i]? = some o) (hg : o.guard = none) (ho : o.op = .store ty x y) (hd : o.dst = none)
    (hr : Region.ready md l.toArray listed = [i]) (hx : a.eval x = .pointer (some ⟨g, 0, none⟩)) (hy : a.eval y = .agg cells) (hb : Block w g t cs) (hl : cs.length = cells.size) (hs : (P.info? ty).map (·.size) = some cells.size) (h1 : cells.all (·.oneCell') = true)
    (h0 : Below B w0 w) (hB : B ≤ g)
    (hS : ∀ w', Below B w0 w' → Block w' g t cells.toList → (∀ g' t' cs', g' ≠ g → Block w g' t' cs' → Block w' g' t' cs') → wpAnyH P md l.toArray (NoPanic Q) (Below B w0) f (listed.setIfInBounds i true) a w') :
    wpAnyH P md l.toArray (NoPanic Q) (Below B w0) (f + 1) listed a w := by
  refine wpAnyH_all hr (by simp) fun j hj => ?_
  obtain rfl : j = i := by simpa using hj
  have hi' : l.toArray[j]? = some o := by simpa using hi
  have hw : Region.wanted o (yielded l.toArray a.tmps) = true := by unfold Region.wanted; rw [hg]
  have hrun : (execOp a.eval o).run P w = .ok .skip (w.setCells g 0 cells.toList) := by
    unfold execOp
    simp [ho, hx, hy, run_storeAt_mid w g 0 ty cells (hb.there 0 cells.size (by omega)) hs h1]
  have hbl : Below B w0 (w.setCells g 0 cells.toList) := below_setCells h0 hB _ _
  unfold wpOp
  simp only [hi', hw, if_true, Oper.wp, hrun, Oper.upon]
  refine .inl ⟨hbl, ?_⟩
  rw [hd]
  refine hS _ hbl ?_ fun g' t' cs' hne h' => h'.aparts g 0 _ hne
  have := hb.setCells (vs := cells.toList) (o := 0)
  rwa [put_all _ _ (by simpa using hl)] at this

/-- the frame, with the two results and the two variables' addresses -/
def at4 (a0 : Act) (d2 d5 d6 d7 : Nat) (v2 v5 p6 p7 : Value) : Act := (((a0.put (some d2) v2).put (some d5) v5).put (some d6) p6).put (some d7) p7
/-- what is known when some of the four have come up -/
structure Inv4 (w0 : World) (t : TypeId) (Z : List Value) (V2 V5 : Value) (b2 b5 b6 b7 : Bool) (v2 v5 p6 p7 : Value) (w : World) : Prop where
  below : Below w0.heap.size w0 w
  c2 : b2 = true → v2 = V2
  c5 : b5 = true → v5 = V5
  a6 : b6 = true → ∃ g, p6 = .pointer (some ⟨g, 0, none⟩) ∧ w0.heap.size ≤ g ∧ Block w g t Z
  a7 : b7 = true → ∃ g, p7 = .pointer (some ⟨g, 0, none⟩) ∧ w0.heap.size ≤ g ∧ Block w g t Z
  ne : b6 = true → b7 = true → p6 ≠ p7
theorem Inv4.later {w0 w w' : World} {t : TypeId} {Z : List Value} {V2 V5 : Value} {b2 b5 b6 b7 : Bool} {v2 v5 p6 p7 : Value} (h : Inv4 w0 t Z V2 V5 b2 b5 b6 b7 v2 v5 p6 p7 w) (hb : Below w.heap.size w w') :
    Inv4 w0 t Z V2 V5 b2 b5 b6 b7 v2 v5 p6 p7 w' :=
  ⟨h.below.trans (hb.mono h.below.size), h.c2, h.c5, fun e => (h.a6 e).imp fun g ⟨h1, h2, h3⟩ => ⟨h1, h2, h3.later hb⟩, fun e => (h.a7 e).imp fun g ⟨h1, h2, h3⟩ => ⟨h1, h2, h3.later hb⟩, h.ne⟩

theorem four (a0 : Act) (w0 : World) (t : TypeId) (Z : List Value) (V2 V5 : Value) (d2 d5 d6 d7 : Nat) (o2 o5 o6 o7 : Oper) (F : FuncId) (x2 x5 : Array Value)
    (n25 : d2 ≠ d5) (n26 : d2 ≠ d6) (n27 : d2 ≠ d7) (n56 : d5 ≠ d6) (n57 : d5 ≠ d7) (n67 : d6 ≠ d7)
    (l2 : l[2]? = some o2) (l5 : l[5]? = some o5) (l6 : l[6]? = some o6) (l7 : l[7]? = some o7)
    (g2 : o2.guard = none) (g5 : o5.guard = none) (g6 : o6.guard = none) (g7 : o7.guard = none)
    (s2 : o2.dst = some d2) (s5 : o5.dst = some d5) (s6 : o6.dst = some d6) (s7 : o7.dst = some d7)
    (hready : ∀ b2 b5 b6 b7, (b5 = true → b2 = true) → (b2 && b5 && b6 && b7) = false →
      Region.ready md l.toArray #[true, true, b2, true, true, b5, b6, b7, false, false] = (if b2 = true then (if b5 = true then [] else [5]) else [2]) ++ ((if b6 = true then [] else [6]) ++ (if b7 = true then [] else [7])))
    (r2 : ∀ v2 v5 p6 p7 w, (execOp (at4 a0 d2 d5 d6 d7 v2 v5 p6 p7).eval o2).run P w = .ok (.enter F x2) w)
    (r5 : ∀ v2 v5 p6 p7 w, (execOp (at4 a0 d2 d5 d6 d7 v2 v5 p6 p7).eval o5).run P w = .ok (.enter F x5) w)
    (r6 : ∀ v2 v5 p6 p7 w, (execOp (at4 a0 d2 d5 d6 d7 v2 v5 p6 p7).eval o6).run P w = .ok (.value (.pointer (some ⟨w.heap.size, 0, none⟩))) (w.alloc (.cells Z.toArray t)))
    (r7 : ∀ v2 v5 p6 p7 w, (execOp (at4 a0 d2 d5 d6 d7 v2 v5 p6 p7).eval o7).run P w = .ok (.value (.pointer (some ⟨w.heap.size, 0, none⟩))) (w.alloc (.cells Z.toArray t)))
    (k2 : ∀ w, Calls P F x2 w fun e w' => e = .returned V2 ∧ Below w.heap.size w w') (k5 : ∀ w, Calls P F x5 w fun e w' => e = .returned V5 ∧ Below w.heap.size w w')
    (rest : ∀ g g' w', w0.heap.size ≤ g → w0.heap.size ≤ g' → g ≠ g' → Block w' g t Z → Block w' g' t Z → Below w0.heap.size w0 w' →
      wpAnyH P md l.toArray (NoPanic Q) (Below w0.heap.size w0) 2 #[true, true, true, true, true, true, true, true, false, false] (at4 a0 d2 d5 d6 d7 V2 V5 (.pointer (some ⟨g, 0, none⟩)) (.pointer (some ⟨g', 0, none⟩))) w') :
    ∀ (n : Nat) (b2 b5 b6 b7 : Bool) (v2 v5 p6 p7 : Value) (w : World), (b5 = true → b2 = true) → n = (if b2 = true then 0 else 1) + (if b5 = true then 0 else 1) + (if b6 = true then 0 else 1) + (if b7 = true then 0 else 1) →
      Inv4 w0 t Z V2 V5 b2 b5 b6 b7 v2 v5 p6 p7 w →
      wpAnyH P md l.toArray (NoPanic Q) (Below w0.heap.size w0) (n + 2) #[true, true, b2, true, true, b5, b6, b7, false, false] (at4 a0 d2 d5 d6 d7 v2 v5 p6 p7) w := by
  have e2 : ∀ v2 v5 p6 p7 v, (at4 a0 d2 d5 d6 d7 v2 v5 p6 p7).put (some d2) v = at4 a0 d2 d5 d6 d7 v v5 p6 p7 := by
    intro v2 v5 p6 p7 v
    unfold at4
    rw [put_comm _ d7 d2 _ _ n27.symm, put_comm _ d6 d2 _ _ n26.symm, put_comm _ d5 d2 _ _ n25.symm, put_same]
  have e5 : ∀ v2 v5 p6 p7 v, (at4 a0 d2 d5 d6 d7 v2 v5 p6 p7).put (some d5) v = at4 a0 d2 d5 d6 d7 v2 v p6 p7 := by
    intro v2 v5 p6 p7 v
    unfold at4
    rw [put_comm _ d7 d5 _ _ n57.symm, put_comm _ d6 d5 _ _ n56.symm, put_same]
  have e6 : ∀ v2 v5 p6 p7 v, (at4 a0 d2 d5 d6 d7 v2 v5 p6 p7).put (some d6) v = at4 a0 d2 d5 d6 d7 v2 v5 v p7 := by
    intro v2 v5 p6 p7 v
    unfold at4
    rw [put_comm _ d7 d6 _ _ n67.symm, put_same]
  have e7 : ∀ v2 v5 p6 p7 v, (at4 a0 d2 d5 d6 d7 v2 v5 p6 p7).put (some d7) v = at4 a0 d2 d5 d6 d7 v2 v5 p6 v := by
    intro v2 v5 p6 p7 v
    unfold at4
    rw [put_same]
  have hal : ∀ w : World, Below w.heap.size w (w.alloc (.cells Z.toArray t)) := fun w => (Below.refl _ w).alloc (Nat.le_refl _) _
  intro n
  induction n with
  | zero =>
    intro b2 b5 b6 b7 v2 v5 p6 p7 w h25 hn inv
    cases b2 <;> cases b5 <;> cases b6 <;> cases b7 <;> simp at hn
    obtain rfl := inv.c2 rfl
    obtain rfl := inv.c5 rfl
    obtain ⟨g, rfl, hg, hB⟩ := inv.a6 rfl
    obtain ⟨g', rfl, hg', hB'⟩ := inv.a7 rfl
    exact rest g g' w hg hg' (by rintro rfl; exact inv.ne rfl rfl rfl) hB hB' inv.below
  | succ n ih =>
    intro b2 b5 b6 b7 v2 v5 p6 p7 w h25 hn inv
    have hall : (b2 && b5 && b6 && b7) = false := by
      cases b2 <;> cases b5 <;> cases b6 <;> cases b7 <;> simp at hn ⊢
    have hr := hready b2 b5 b6 b7 h25 hall
    refine every ?_ ?_
    · rw [hr]
      cases b2 <;> cases b5 <;> cases b6 <;> cases b7 <;> simp at hall ⊢
    · rw [hr]
      intro i hi
      simp only [List.mem_append] at hi
      rcases hi with hi | hi | hi
      · cases b2 with
        | false =>
          obtain rfl : i = 2 := by simpa using hi
          obtain rfl : b5 = false := by cases b5 <;> simp at h25 ⊢
          refine ⟨o2, l2, g2, .inr ⟨F, x2, r2 _ _ _ _ _, (k2 w).mono ?_⟩⟩
          rintro e w' ⟨rfl, hb⟩
          refine ⟨V2, rfl, (inv.later hb).below, ?_⟩
          rw [s2, e2]
          have i' := inv.later hb
          exact ih true false b6 b7 V2 v5 p6 p7 w' (by simp) (by simp at hn ⊢; omega) ⟨i'.below, fun _ => rfl, i'.c5, i'.a6, i'.a7, i'.ne⟩
        | true =>
          cases b5 with
          | true => simp at hi
          | false =>
            obtain rfl : i = 5 := by simpa using hi
            refine ⟨o5, l5, g5, .inr ⟨F, x5, r5 _ _ _ _ _, (k5 w).mono ?_⟩⟩
            rintro e w' ⟨rfl, hb⟩
            refine ⟨V5, rfl, (inv.later hb).below, ?_⟩
            rw [s5, e5]
            have i' := inv.later hb
            exact ih true true b6 b7 v2 V5 p6 p7 w' (by simp) (by simp at hn ⊢; omega) ⟨i'.below, i'.c2, fun _ => rfl, i'.a6, i'.a7, i'.ne⟩
      · cases b6 with
        | true => simp at hi
        | false =>
          obtain rfl : i = 6 := by simpa using hi
          refine ⟨o6, l6, g6, .inl ⟨_, _, r6 _ _ _ _ _, (inv.later (hal w)).below, ?_⟩⟩
          rw [s6, e6]
          have i' := inv.later (hal w)
          refine ih b2 b5 true b7 v2 v5 _ p7 _ h25 (by simp at hn ⊢; omega) ⟨i'.below, i'.c2, i'.c5, fun _ => ⟨_, rfl, inv.below.size, Block.new w t Z⟩, i'.a7, fun _ e7 => ?_⟩
          obtain ⟨g, rfl, _, hB⟩ := inv.a7 e7
          have := hB.lt
          simp only [ne_eq, Value.pointer.injEq, Option.some.injEq, Addr.mk.injEq, and_true]
          omega
      · cases b7 with
        | true => simp at hi
        | false =>
          obtain rfl : i = 7 := by simpa using hi
          refine ⟨o7, l7, g7, .inl ⟨_, _, r7 _ _ _ _ _, (inv.later (hal w)).below, ?_⟩⟩
          rw [s7, e7]
          have i' := inv.later (hal w)
          refine ih b2 b5 b6 true v2 v5 p6 _ _ h25 (by simp at hn ⊢; omega) ⟨i'.below, i'.c2, i'.c5, i'.a6, fun _ => ⟨_, rfl, inv.below.size, Block.new w t Z⟩, fun e6 _ => ?_⟩
          obtain ⟨g, rfl, _, hB⟩ := inv.a6 e6
          have := hB.lt
          simp only [ne_eq, Value.pointer.injEq, Option.some.injEq, Addr.mk.injEq, and_true]
          omega
theorem Rest.to4 {f : Nat} {listed : Array Bool} {a : Act} {w : World} (d2 d5 d6 d7 : Nat) (hf : f = 6) (hl : listed = #[true, true, false, true, true, false, false, false, false, false]) (ha : at4 a d2 d5 d6 d7 undef undef undef undef = a)
    (h : wpAnyH P md l.toArray (NoPanic Q) (Below w.heap.size w) 6 #[true, true, false, true, true, false, false, false, false, false] (at4 a d2 d5 d6 d7 undef undef undef undef) w) : Rest P md l Q f listed a w := by
  subst hf hl
  rw [ha] at h
  exact h
end
end Go.Proofs.Ytfgbiafoncaagaa.plan
/- A region whose order is open: a row that is made (0), a call that reads it and makes memory (4), and another row (7), which may come up at any time. Whatever the order, behind the three the state is the same but for where the rows lie. No condition. -/
namespace Go.Proofs.Ytfgbiafoncaagaa.plan
open Go Go.RowKit
set_option linter.unusedVariables false

section
variable {P : Program} {md : Region.Mode} {Q : Exit → Act → World → Prop} {l : List Oper}

/-- the frame, with the three results -/
def at3 (a0 : Act) (d0 d4 d7 : Nat) (v0 v4 v7 : Value) : Act := ((a0.put (some d0) v0).put (some d4) v4).put (some d7) v7

theorem three (a0 : Act) (w0 : World) (i0 i4 i7 d0 d4 d7 f : Nat) (n04 : d0 ≠ d4) (n07 : d0 ≠ d7) (n47 : d4 ≠ d7) (o0 o4 o7 : Oper) (L : Bool → Bool → Bool → Array Bool)
    (l0 : l[i0]? = some o0) (l4 : l[i4]? = some o4) (l7 : l[i7]? = some o7) (g0 : o0.guard = none) (g4 : o4.guard = none) (g7 : o7.guard = none) (s0 : o0.dst = some d0) (s4 : o4.dst = some d4) (s7 : o7.dst = some d7)
    (e0 : ∀ b4 b7, (L false b4 b7).setIfInBounds i0 true = L true b4 b7) (e4 : ∀ b7, (L true false b7).setIfInBounds i4 true = L true true b7) (e7 : ∀ b0 b4, (L b0 b4 false).setIfInBounds i7 true = L b0 b4 true)
    (q1 : Region.ready md l.toArray (L false false false) = [i0, i7]) (q2 : Region.ready md l.toArray (L true false false) = [i4, i7]) (q3 : Region.ready md l.toArray (L false false true) = [i0])
    (q4 : Region.ready md l.toArray (L true false true) = [i4]) (q5 : Region.ready md l.toArray (L true true false) = [i7])
    (V0 V4 V7 : Nat → Value) (R0 R4 R7 : Nat → World → Prop) (F : FuncId) (x4 : Nat → Array Value)
    (t0 : ∀ g w w', R0 g w → Below w.heap.size w w' → R0 g w') (t4 : ∀ g w w', R4 g w → Below w.heap.size w w' → R4 g w') (t7 : ∀ g w w', R7 g w → Below w.heap.size w w' → R7 g w')
    (lt4 : ∀ g w, R4 g w → g < w.heap.size) (lt7 : ∀ g w, R7 g w → g < w.heap.size)
    (r0 : ∀ v0 v4 v7 w, ∃ w', (execOp (at3 a0 d0 d4 d7 v0 v4 v7).eval o0).run P w = .ok (.value (V0 w.heap.size)) w' ∧ Below w.heap.size w w' ∧ R0 w.heap.size w')
    (r7 : ∀ v0 v4 v7 w, ∃ w', (execOp (at3 a0 d0 d4 d7 v0 v4 v7).eval o7).run P w = .ok (.value (V7 w.heap.size)) w' ∧ Below w.heap.size w w' ∧ R7 w.heap.size w')
    (r4 : ∀ g v4 v7 w, (execOp (at3 a0 d0 d4 d7 (V0 g) v4 v7).eval o4).run P w = .ok (.enter F (x4 g)) w)
    (k4 : ∀ g w, R0 g w → Calls P F (x4 g) w fun e w' => ∃ g', e = .returned (V4 g') ∧ w.heap.size ≤ g' ∧ R4 g' w' ∧ Below w.heap.size w w')
    (rest : ∀ g g' g'' w', w0.heap.size ≤ g' → w0.heap.size ≤ g'' → g' ≠ g'' → R4 g' w' → R7 g'' w' → Below w0.heap.size w0 w' →
      wpAnyH P md l.toArray (NoPanic Q) (Below w0.heap.size w0) f (L true true true) (at3 a0 d0 d4 d7 (V0 g) (V4 g') (V7 g'')) w')
    (u0 u4 u7 : Value) :
    wpAnyH P md l.toArray (NoPanic Q) (Below w0.heap.size w0) (f + 3) (L false false false) (at3 a0 d0 d4 d7 u0 u4 u7) w0 := by
  have p0 : ∀ v0 v4 v7 v, (at3 a0 d0 d4 d7 v0 v4 v7).put (some d0) v = at3 a0 d0 d4 d7 v v4 v7 := by
    intro v0 v4 v7 v
    unfold at3
    rw [put_comm _ d7 d0 _ _ n07.symm, put_comm _ d4 d0 _ _ n04.symm, put_same]
  have p4 : ∀ v0 v4 v7 v, (at3 a0 d0 d4 d7 v0 v4 v7).put (some d4) v = at3 a0 d0 d4 d7 v0 v v7 := by
    intro v0 v4 v7 v
    unfold at3
    rw [put_comm _ d7 d4 _ _ n47.symm, put_same]
  have p7 : ∀ v0 v4 v7 v, (at3 a0 d0 d4 d7 v0 v4 v7).put (some d7) v = at3 a0 d0 d4 d7 v0 v4 v := by
    intro v0 v4 v7 v
    unfold at3
    rw [put_same]
  refine every (by rw [q1]; simp) fun i hi => ?_
  rw [q1] at hi
  rcases List.mem_cons.1 hi with rfl | hi
  · obtain ⟨w1, h1, b1, z1⟩ := r0 u0 u4 u7 w0
    refine ⟨o0, l0, g0, .inl ⟨_, w1, h1, b1, ?_⟩⟩
    rw [e0, s0, p0]
    refine every (by rw [q2]; simp) fun i hi => ?_
    rw [q2] at hi
    rcases List.mem_cons.1 hi with rfl | hi
    · refine ⟨o4, l4, g4, .inr ⟨F, _, r4 _ _ _ _, (k4 _ w1 z1).mono ?_⟩⟩
      rintro e w2 ⟨g', rfl, hg', hR, b2⟩
      have B2 := b1.trans (b2.mono b1.size)
      refine ⟨_, rfl, B2, ?_⟩
      rw [e4, s4, p4]
      refine every (by rw [q5]; simp) fun i hi => ?_
      rw [q5] at hi
      obtain rfl : i = i7 := by simpa using hi
      obtain ⟨w3, h3, b3, z3⟩ := r7 (V0 w0.heap.size) (V4 g') u7 w2
      have B3 := B2.trans (b3.mono B2.size)
      refine ⟨o7, l7, g7, .inl ⟨_, w3, h3, B3, ?_⟩⟩
      rw [e7, s7, p7]
      have := lt4 _ _ hR
      have := b1.size
      exact rest _ _ _ _ (by omega) B2.size (by omega) (t4 _ _ _ hR b3) z3 B3
    · obtain rfl : i = i7 := by simpa using hi
      obtain ⟨w2, h2, b2, z2⟩ := r7 (V0 w0.heap.size) u4 u7 w1
      have B2 := b1.trans (b2.mono b1.size)
      refine ⟨o7, l7, g7, .inl ⟨_, w2, h2, B2, ?_⟩⟩
      rw [e7, s7, p7]
      refine every (by rw [q4]; simp) fun i hi => ?_
      rw [q4] at hi
      obtain rfl : i = i4 := by simpa using hi
      refine ⟨o4, l4, g4, .inr ⟨F, _, r4 _ _ _ _, (k4 _ w2 (t0 _ _ _ z1 b2)).mono ?_⟩⟩
      rintro e w3 ⟨g', rfl, hg', hR, b3⟩
      have B3 := B2.trans (b3.mono B2.size)
      refine ⟨_, rfl, B3, ?_⟩
      rw [e4, s4, p4]
      have := lt7 _ _ z2
      exact rest _ _ _ _ (by have := B2.size; omega) b1.size (by omega) hR (t7 _ _ _ z2 b3) B3
  · obtain rfl : i = i7 := by simpa using hi
    obtain ⟨w1, h1, b1, z1⟩ := r7 u0 u4 u7 w0
    refine ⟨o7, l7, g7, .inl ⟨_, w1, h1, b1, ?_⟩⟩
    rw [e7, s7, p7]
    refine every (by rw [q3]; simp) fun i hi => ?_
    rw [q3] at hi
    obtain rfl : i = i0 := by simpa using hi
    obtain ⟨w2, h2, b2, z2⟩ := r0 u0 u4 (V7 w0.heap.size) w1
    have B2 := b1.trans (b2.mono b1.size)
    refine ⟨o0, l0, g0, .inl ⟨_, w2, h2, B2, ?_⟩⟩
    rw [e0, s0, p0]
    refine every (by rw [q4]; simp) fun i hi => ?_
    rw [q4] at hi
    obtain rfl : i = i4 := by simpa using hi
    refine ⟨o4, l4, g4, .inr ⟨F, _, r4 _ _ _ _, (k4 _ w2 z2).mono ?_⟩⟩
    rintro e w3 ⟨g', rfl, hg', hR, b3⟩
    have B3 := B2.trans (b3.mono B2.size)
    refine ⟨_, rfl, B3, ?_⟩
    rw [e4, s4, p4]
    have := lt7 _ _ z1
    exact rest _ _ _ _ (by have := B2.size; omega) (Nat.le_refl _) (by have := b2.size; omega) hR (t7 _ _ _ z1 (b2.trans (b3.mono b2.size))) B3
theorem one {S : World → Prop} {f : Nat} {listed : Array Bool} {a : Act} {w w1 : World} (i : Nat) (o : Oper) (v : Value) (hi : l[i]? = some o) (hg : o.guard = none) (hr : Region.ready md l.toArray listed = [i])
    (hv : (execOp a.eval o).run P w = .ok (.value v) w1) (hS : S w1) (h : wpAnyH P md l.toArray (NoPanic Q) S f (listed.setIfInBounds i true) (a.put o.dst v) w1) : wpAnyH P md l.toArray (NoPanic Q) S (f + 1) listed a w := by
  refine every (by rw [hr]; simp) fun j hj => ?_
  rw [hr] at hj
  obtain rfl : j = i := by simpa using hj
  exact ⟨o, hi, hg, .inl ⟨v, w1, hv, hS, h⟩⟩
theorem Rest.to3 {n : Nat} {listed : Array Bool} {a : Act} {w : World} (d0 d4 d7 f : Nat) (L : Bool → Bool → Bool → Array Bool) (hf : n = f + 3) (hl : listed = L false false false) (ha : at3 a d0 d4 d7 undef undef undef = a)
    (h : wpAnyH P md l.toArray (NoPanic Q) (Below w.heap.size w) (f + 3) (L false false false) (at3 a d0 d4 d7 undef undef undef) w) : Rest P md l Q n listed a w := by
  subst hf hl
  rw [ha] at h
  exact h
end
end Go.Proofs.Ytfgbiafoncaagaa.plan
/- A region whose order is open: a row that is made (A), a new variable (B), and a value that is built of the row (C). Whatever the order, behind the three the state is the same but for where the row and the variable lie. No condition. -/
namespace Go.Proofs.Ytfgbiafoncaagaa.plan
open Go Go.RowKit
set_option linter.unusedVariables false

section
variable {P : Program} {md : Region.Mode} {Q : Exit → Act → World → Prop} {l : List Oper}
theorem two (a0 : Act) (w0 : World) (iA iB iC dA dB dC f : Nat) (nAB : dA ≠ dB) (nAC : dA ≠ dC) (nBC : dB ≠ dC) (oA oB oC : Oper) (L : Bool → Bool → Bool → Array Bool)
    (lA : l[iA]? = some oA) (lB : l[iB]? = some oB) (lC : l[iC]? = some oC) (gA : oA.guard = none) (gB : oB.guard = none) (gC : oC.guard = none) (sA : oA.dst = some dA) (sB : oB.dst = some dB) (sC : oC.dst = some dC)
    (eA : ∀ b c, (L false b c).setIfInBounds iA true = L true b c) (eB : ∀ a c, (L a false c).setIfInBounds iB true = L a true c) (eC : ∀ a b, (L a b false).setIfInBounds iC true = L a b true)
    (q0 : Region.ready md l.toArray (L false false false) = [iA, iB]) (q1 : Region.ready md l.toArray (L true false false) = [iC, iB]) (q2 : Region.ready md l.toArray (L false true false) = [iA])
    (q3 : Region.ready md l.toArray (L true true false) = [iC]) (q4 : Region.ready md l.toArray (L true false true) = [iB])
    (R : Nat → Value → World → Prop) (VC : Value → Value) (t : TypeId) (cs : List Value)
    (tR : ∀ g v w w', R g v w → Below w.heap.size w w' → R g v w') (lt : ∀ g v w, R g v w → g < w.heap.size)
    (rA : ∀ u v c w, Below w0.heap.size w0 w → ∃ g x w', (execOp (at3 a0 dA dB dC u v c).eval oA).run P w = .ok (.value x) w' ∧ Below w.heap.size w w' ∧ w.heap.size ≤ g ∧ R g x w')
    (rB : ∀ u v c w, (execOp (at3 a0 dA dB dC u v c).eval oB).run P w = .ok (.value (.pointer (some ⟨w.heap.size, 0, none⟩))) (w.alloc (.cells cs.toArray t)))
    (rC : ∀ g u v c w, R g u w → (execOp (at3 a0 dA dB dC u v c).eval oC).run P w = .ok (.value (VC u)) w)
    (rest : ∀ g g' x w', w0.heap.size ≤ g → w0.heap.size ≤ g' → g ≠ g' → R g x w' → Block w' g' t cs → Below w0.heap.size w0 w' →
      wpAnyH P md l.toArray (NoPanic Q) (Below w0.heap.size w0) f (L true true true) (at3 a0 dA dB dC x (.pointer (some ⟨g', 0, none⟩)) (VC x)) w')
    (u v c : Value) :
    wpAnyH P md l.toArray (NoPanic Q) (Below w0.heap.size w0) (f + 3) (L false false false) (at3 a0 dA dB dC u v c) w0 := by
  have pA : ∀ u v c x, (at3 a0 dA dB dC u v c).put (some dA) x = at3 a0 dA dB dC x v c := by
    intro u v c x
    unfold at3
    rw [put_comm _ dC dA _ _ nAC.symm, put_comm _ dB dA _ _ nAB.symm, put_same]
  have pB : ∀ u v c x, (at3 a0 dA dB dC u v c).put (some dB) x = at3 a0 dA dB dC u x c := by
    intro u v c x
    unfold at3
    rw [put_comm _ dC dB _ _ nBC.symm, put_same]
  have pC : ∀ u v c x, (at3 a0 dA dB dC u v c).put (some dC) x = at3 a0 dA dB dC u v x := by
    intro u v c x
    unfold at3
    rw [put_same]
  refine every (by rw [q0]; simp) fun i hi => ?_
  rw [q0] at hi
  rcases List.mem_cons.1 hi with rfl | hi
  · obtain ⟨g, x, w1, h1, b1, hg, z1⟩ := rA u v c w0 (Below.refl _ _)
    refine ⟨oA, lA, gA, .inl ⟨_, w1, h1, b1, ?_⟩⟩
    rw [eA, sA, pA]
    refine every (by rw [q1]; simp) fun i hi => ?_
    rw [q1] at hi
    have bN : Below w0.heap.size w0 (w1.alloc (.cells cs.toArray t)) := b1.trans (((Below.refl _ _).alloc (Nat.le_refl _) _).mono b1.size)
    have zN := tR _ _ _ _ z1 ((Below.refl w1.heap.size w1).alloc (Nat.le_refl _) (.cells cs.toArray t))
    have hne : g ≠ w1.heap.size := by have := lt _ _ _ z1; omega
    rcases List.mem_cons.1 hi with rfl | hi
    · refine ⟨oC, lC, gC, .inl ⟨_, w1, rC g x v c w1 z1, b1, ?_⟩⟩
      rw [eC, sC, pC]
      refine every (by rw [q4]; simp) fun i hi => ?_
      rw [q4] at hi
      obtain rfl : i = iB := by simpa using hi
      refine ⟨oB, lB, gB, .inl ⟨_, _, rB x v _ w1, bN, ?_⟩⟩
      rw [eB, sB, pB]
      exact rest _ _ _ _ hg b1.size hne zN (Block.new w1 t cs) bN
    · obtain rfl : i = iB := by simpa using hi
      refine ⟨oB, lB, gB, .inl ⟨_, _, rB x v c w1, bN, ?_⟩⟩
      rw [eB, sB, pB]
      refine every (by rw [q3]; simp) fun i hi => ?_
      rw [q3] at hi
      obtain rfl : i = iC := by simpa using hi
      refine ⟨oC, lC, gC, .inl ⟨_, _, rC g x _ c _ zN, bN, ?_⟩⟩
      rw [eC, sC, pC]
      exact rest _ _ _ _ hg b1.size hne zN (Block.new w1 t cs) bN
  · obtain rfl : i = iB := by simpa using hi
    have b1 : Below w0.heap.size w0 (w0.alloc (.cells cs.toArray t)) := (Below.refl _ _).alloc (Nat.le_refl _) _
    refine ⟨oB, lB, gB, .inl ⟨_, _, rB u v c w0, b1, ?_⟩⟩
    rw [eB, sB, pB]
    refine every (by rw [q2]; simp) fun i hi => ?_
    rw [q2] at hi
    obtain rfl : i = iA := by simpa using hi
    obtain ⟨g, x, w2, h2, b2, hg, z2⟩ := rA u (.pointer (some ⟨w0.heap.size, 0, none⟩)) c _ b1
    have b3 := b1.trans (b2.mono b1.size)
    have hB := (Block.new w0 t cs).later b2
    have hlt := (Block.new w0 t cs).lt
    refine ⟨oA, lA, gA, .inl ⟨_, w2, h2, b3, ?_⟩⟩
    rw [eA, sA, pA]
    refine every (by rw [q3]; simp) fun i hi => ?_
    rw [q3] at hi
    obtain rfl : i = iC := by simpa using hi
    refine ⟨oC, lC, gC, .inl ⟨_, _, rC g x _ c _ z2, b3, ?_⟩⟩
    rw [eC, sC, pC]
    exact rest _ _ _ _ (by have := b1.size; omega) (Nat.le_refl _) (by omega) z2 hB b3
end
end Go.Proofs.Ytfgbiafoncaagaa.plan
/- Single operations on slices and words, run by themselves; an append onto nothing. No condition. -/
namespace Go.Proofs.Ytfgbiafoncaagaa.frame
open Go Go.RowKit Go.Proofs.Ytfgbiafoncaagaa.zeros
set_option linter.unusedVariables false

section
variable {o : Oper} {a : Act} {w : World}
theorem exec_index {x y : Operand} {b off len cap i : Nat} (ho : o.op = .indexAddr 22 x y) (hx : a.eval x = .slice (some ⟨b, off, none⟩) len cap) (hy : a.eval y = .int .i64 (i : Int)) (hi : i < len) :
    (execOp a.eval o).run Try.prog w = .ok (.value (.pointer (some ⟨b, off + i, none⟩))) w := by
  unfold execOp
  rw [ho]
  simp only [hx, hy]
  go_simp
theorem exec_word {x : Operand} {ad : Addr} {n : Nat} (ho : o.op = .load 40 x) (hx : a.eval x = .pointer (some ad)) (hc : w.cell? ad = some (.int .u32 (n : Int))) :
    (execOp a.eval o).run Try.prog w = .ok (.value (.int .u32 (n : Int))) w := by
  unfold execOp
  rw [ho]
  simp only [hx]
  go_simp
theorem exec_quo {x y : Operand} {t : TypeId} {n : Nat} (ho : o.op = .binOp .quo 40 x y t) (hx : a.eval x = .int .u32 (n : Int)) (hy : a.eval y = .int .u32 1073741824) (hn : n < 4294967296) :
    (execOp a.eval o).run Try.prog w = .ok (.value (.int .u32 ((n : Int) / 1073741824))) w := by
  unfold execOp
  rw [ho]
  simp only [hx, hy]
  go_simp
  rw [IntKind.wrap_u32']
  omega
theorem exec_rem {x y : Operand} {t : TypeId} {n : Nat} (ho : o.op = .binOp .rem 40 x y t) (hx : a.eval x = .int .u32 (n : Int)) (hy : a.eval y = .int .u32 1073741824) (hn : n < 4294967296) :
    (execOp a.eval o).run Try.prog w = .ok (.value (.int .u32 ((n : Int) % 1073741824))) w := by
  unfold execOp
  rw [ho]
  simp only [hx, hy]
  go_simp
  exact Int.tmod_eq_emod_of_nonneg (by omega)
theorem exec_wide {x : Operand} {n : Int} (ho : o.op = .convert 40 3 x) (hx : a.eval x = .int .u32 n) (h0 : 0 ≤ n) (hn : n < 4294967296) :
    (execOp a.eval o).run Try.prog w = .ok (.value (.int .i64 n)) w := by
  unfold execOp
  rw [ho]
  simp only [hx]
  go_simp
  exact IntWalk.i64_in _ (by omega)
theorem exec_add2 {x y : Operand} {t : TypeId} {n : Nat} (ho : o.op = .binOp .add 3 x y t) (hx : a.eval x = .int .i64 2) (hy : a.eval y = .int .i64 (n : Int)) (hn : n ≤ 56) :
    (execOp a.eval o).run Try.prog w = .ok (.value (.int .i64 (2 + (n : Int)))) w := by
  unfold execOp
  rw [ho]
  simp only [hx, hy]
  go_simp
  exact IntWalk.i64_in _ (by omega)
theorem exec_cut {x y z : Operand} {b off len cap n : Nat} (ho : o.op = .slice 22 x (some y) (some z) none) (hx : a.eval x = .slice (some ⟨b, off, none⟩) len cap) (hy : a.eval y = .int .i64 2) (hz : a.eval z = .int .i64 (2 + (n : Int))) (hn : 2 + n ≤ cap) (hp : 0 < n) :
    (execOp a.eval o).run Try.prog w = .ok (.value (.slice (some ⟨b, off + 2, none⟩) n (cap - 2))) w := by
  unfold execOp
  rw [ho]
  simp only [hx, Option.map_some, hy, hz]
  go_simp
  rw [if_pos (by omega), if_pos (by omega), if_neg (by omega), show (2 + (n : Int)).toNat - 2 = n by omega]
theorem exec_new {t : TypeId} (ho : o.op = .alloc 24) :
    (execOp a.eval o).run Try.prog w = .ok (.value (.pointer (some ⟨w.heap.size, 0, none⟩))) (w.alloc (.cells #[.int .i64 0, .int .i64 0, .slice none 0 0] 24)) := by
  unfold execOp
  rw [ho]
  go_simp
theorem exec_append {x y : Operand} {ad : Addr} {n c : Nat} {L : List Nat} (ho : o.op = .call { callee := .builtin .append, args := #[x, y], argTypes := #[22, 22] }) (hx : a.eval x = .slice none 0 0) (hy : a.eval y = .slice (some ad) n c)
    (hr : Reads .u32 w (some ad) n L) (hn : 0 < n) (hs : n ≤ 1048576) :
    ∃ g cap w', (execOp a.eval o).run Try.prog w = .ok (.value (.slice (some ⟨g, 0, none⟩) n cap)) w' ∧ Below w.heap.size w w' ∧ w.heap.size ≤ g ∧ Row w' 40 .u32 g cap L := by
  obtain ⟨i0, hi, hz0, hz1, hz2⟩ := info_parts Tryinfo34
  obtain ⟨v, w', h1, h2, h3, _, _⟩ := run_append_own_at w w.heap.size 22 o.type 40 i0 (.int .u32 0) 1 4 Try.underlying22 hi hz0 hz1 hz2 rfl (by decide) (.slice none 0 0) 0 [] (World.ownsRow_nil _ _ _ _) ad n c (L.map fun x : Nat => Value.int .u32 (x : Int)) (by simp [hr.1]) (cells_of hr) (ints_one _ _) (by unfold maxLen; omega) (by omega) (Nat.le_refl _)
  rw [Nat.zero_add, List.nil_append] at h2
  obtain ⟨g, cap, rfl, hg, hrow⟩ := Row.own h2 hn
  refine ⟨g, cap, w', ?_, (Below.refl _ _).grown h3 (Nat.le_refl _) (fun k hk => by cases hk), hg, hrow⟩
  unfold execOp
  simp [ho, resolve, invoke, builtin, hx, hy, h1, Result.andThen]
theorem exec_row {x y : Operand} {ad : Addr} {n c : Nat} {L : List Nat} (ho : o.op = .call { callee := .builtin .append, args := #[x, y], argTypes := #[22, 22] }) (hx : a.eval x = .slice none 0 0) (hy : a.eval y = .slice (some ad) n c)
    (hr : Reads .u32 w (some ad) n L) (hn : 0 < n) (hs : n ≤ 1048576) :
    ∃ g u w', (execOp a.eval o).run Try.prog w = .ok (.value u) w' ∧ Below w.heap.size w w' ∧ w.heap.size ≤ g ∧ ∃ c, u = .slice (some ⟨g, 0, none⟩) n c ∧ Row w' 40 .u32 g c L := by
  obtain ⟨g, cap, w', h1, h2, h3, h4⟩ := exec_append ho hx hy hr hn hs
  exact ⟨g, _, w', h1, h2, h3, cap, rfl, h4⟩
theorem exec_add3 {x y : Operand} {t : TypeId} {n : Nat} (ho : o.op = .binOp .add 3 x y t) (hx : a.eval x = .int .i64 (n : Int)) (hy : a.eval y = .int .i64 3) (hn : n ≤ 56) :
    (execOp a.eval o).run Try.prog w = .ok (.value (.int .i64 ((n : Int) + 3))) w := by
  unfold execOp
  rw [ho]
  simp only [hx, hy]
  go_simp
  exact IntWalk.i64_in _ (by omega)
theorem exec_pre {x z : Operand} {b off len cap n : Nat} (ho : o.op = .slice 22 x none (some z) none) (hx : a.eval x = .slice (some ⟨b, off, none⟩) len cap) (hz : a.eval z = .int .i64 ((n : Int) + 3)) (hn : n + 3 ≤ cap) :
    (execOp a.eval o).run Try.prog w = .ok (.value (.slice (some ⟨b, off, none⟩) (n + 3) cap)) w := by
  unfold execOp
  rw [ho]
  simp only [hx, Option.map_some, Option.map_none, hz]
  go_simp
  rw [if_pos (by omega), show ((n : Int) + 3).toNat = n + 3 by omega]
end
end Go.Proofs.Ytfgbiafoncaagaa.frame
/- Contract of the reference's Same of layer 1 at two slices of the same length. -/
namespace Go.Proofs.Ytfgbiafoncaagaa.word
open Go.RowKit
set_option linter.unusedVariables false

theorem take_succ_getD (xs : List Nat) (k : Nat) (h : k < xs.length) : xs.take (k + 1) = xs.take k ++ [xs.getD k 0] := by
  rw [List.take_succ_eq_append_getElem h, List.getD_eq_getElem?_getD, List.getElem?_eq_getElem h]; rfl
set_option maxHeartbeats 1600000 in
theorem sameB_any (a b : Option Addr) (len ca cb : Nat) (xs ys : List Nat) (w : World) (ha : Reads .u32 w a len xs) (hb : Reads .u32 w b len ys) (hl : len * 4 ≤ 140737488355328) :
    Calls Try.prog 9 #[.slice a len ca, .slice b len cb] w (Quiet (.bool (decide (xs = ys))) w) := by
  have hq : ((len : Int) != len) = false := by simp
  have hlx := ha.1
  have hly := hb.1
  generalize hd : decide (xs = ys) = d
  have HD := hid hd
  clear hd
  go_enter Try.func9, Try.ntmps9
  go_wp2
  go_loopw [5] (fun i wr => ∃ k : Nat, k ≤ len ∧ i = .int .i64 k ∧ Hid (xs.take k = ys.take k) ∧ ∃ m, wr = w.drewN m) (fun i _ => len - (intOf i).toNat)
  case atStart => exact ⟨0, Nat.zero_le _, rfl, hid (by simp), 0, rfl⟩
  case round =>
    obtain ⟨k, hk, rfl, HT, m, rfl⟩ := hrel
    by_cases hlt : k < len
    · obtain ⟨b1, o1, rfl, _, hc1⟩ := ha.at hlt
      obtain ⟨b2, o2, rfl, _, hc2⟩ := hb.at hlt
      have c1 := hc1 k hlt
      have c2 := hc2 k hlt
      have i1 : (k : Int) < len := by omega
      have HX := hid (take_succ_getD xs k (by omega))
      have HY := hid (take_succ_getD ys k (by omega))
      have HN : Hid (xs.getD k 0 ≠ ys.getD k 0 → d = false) := hid (fun h => by
        rw [← HD.out, decide_eq_false_iff_not]; intro he; exact h (by rw [he]))
      clear hc1 hc2
      generalize xs.getD k 0 = x1 at *
      generalize ys.getD k 0 = y1 at *
      have c1' : (w.drewN m).cell? ⟨b1, o1 + k, none⟩ = some (.int .u32 (x1 : Int)) := c1
      have c2' : (w.drewN m).cell? ⟨b2, o2 + k, none⟩ = some (.int .u32 (y1 : Int)) := c2
      by_cases he : x1 = y1
      · subst he
        have hn : ((x1 : Int) != x1) = false := by simp
        go_wp2
        go_quiet (fail)
        go_wp2
        exact ⟨⟨k + 1, by omega, by go_num, hid (by rw [HX.out, HY.out, HT.out]), ⟨_, rfl⟩⟩, by simp [intOf]; omega⟩
      · have hn : ((x1 : Int) != y1) = true := by rw [bne_iff_ne]; omega
        have HE := hid he
        clear he
        go_wp2
        go_quiet (fail)
        go_wp2
        go_ret
        exact ⟨ret_bool (HN.out HE.out).symm, m + nq, by rw [World.drewN_drewN]⟩
    · go_wp2
      go_ret
      refine ⟨ret_bool ?_, _, rfl⟩
      rw [← HD.out]
      symm
      rw [decide_eq_true_eq]
      have := HT.out
      rwa [List.take_of_length_le (by omega), List.take_of_length_le (by omega)] at this
end Go.Proofs.Ytfgbiafoncaagaa.word
/- A region walked by a schedule that the prover names: an operation whose guard does not hold is passed by; comparisons of ints. No condition. -/
namespace Go.Proofs.Ytfgbiafoncaagaa.plan
open Go Go.RowKit

section
variable {P : Program} {md : Region.Mode} {Q : Exit → Act → World → Prop} {l : List Oper}
theorem Rest.skip {f : Nat} {listed : Array Bool} {a : Act} {w : World} (i : Nat) (o : Oper) (hi : l[i]? = some o) (hs : Region.noSelect l.toArray = true) (hf : Region.free md l.toArray listed i = true)
    (hr : (Region.ready md l.toArray listed).contains i = true) (hw : Region.wanted o (yielded l.toArray a.tmps) = false)
    (h : Rest P md l Q f (listed.setIfInBounds i true) (a.put o.dst undef) w) : Rest P md l Q (f + 1) listed a w :=
  wpAnyH_take (by simpa using hi) hs hf hr (fun c a' w' h => h) (.inr ⟨hw, rfl⟩) (Below.refl _ _) h
end
theorem eqg (t : TypeId) (x y : Operand) (k : IntKind) (n m : Int) (w : World) (P : Program) : (eqGuard .eql t x y (.int k n) (.int k m)).run P w = .ok () w := by simp [go_sem]
end Go.Proofs.Ytfgbiafoncaagaa.plan
