/- A region whose order is open: operations that look at no memory are taken first, in an order that the prover names; the others stand in one row. No condition. -/
import Derived.Test.YtccaibdklgkgeaaTail
namespace Go.Proofs.Ytccaibdklgkgeaa.perm
open Go

section
variable {P : Program} {ops : Array Oper} {md : Region.Mode}

/-- an operation that yields a value, or nothing -/
def plainOp : Op → Bool
  | .move _ | .assign _ | .load _ _ | .binOp .. | .unOp .. | .slice .. | .fieldAddr .. | .indexAddr .. | .index .. | .extract .. | .convert .. => true
  | .nilCheck _ => true
  | _ => false
theorem plain_value {ρ : Operand → Value} {o : Oper} {w w' : World} {n : Next} (h : plainOp o.op = true) (hr : (execOp ρ o).run P w = .ok n w') : ∃ u, n = .value u := by
  have key : ∀ (s : Sem Value), (do let x ← s; pure (Next.value x) : Sem Next).run P w = .ok n w' → ∃ u, n = .value u := fun s hs => by
    rw [Sem.run_bind] at hs
    cases hq : s.run P w with
    | ok u w1 => rw [hq] at hs; simp [Result.andThen] at hs; exact ⟨u, hs.1.symm⟩
    | halt x w1 => rw [hq] at hs; simp [Result.andThen] at hs
  unfold execOp at hr
  cases ho : o.op <;> rw [ho] at h hr <;> simp only [plainOp] at h <;> try cases h
  case move x => simp at hr; exact ⟨_, hr.1.symm⟩
  case assign x => simp at hr; exact ⟨_, hr.1.symm⟩
  case nilCheck x =>
    dsimp only at hr
    split at hr
    · simp [runtimePanic, Sem.run_bind, Result.andThen] at hr
    · simp [runtimePanic] at hr
    · simp [runtimePanic] at hr
    · split at hr
      · simp [runtimePanic] at hr
      · simp only [Sem.run_bind] at hr
        generalize Sem.run P program _ = r1 at hr
        cases r1 with
        | halt x w1 => simp [Result.andThen] at hr
        | ok p w1 =>
          simp only [Result.andThen] at hr
          generalize Sem.run P (nilAhead _ _ _ _) _ = r2 at hr
          cases r2 with
          | halt x w2 => simp at hr
          | ok q w2 =>
            simp only at hr
            split at hr
            · simp [unsupported, Result.andThen] at hr
            · simp at hr; exact ⟨_, hr.1.symm⟩
      · simp at hr; exact ⟨_, hr.1.symm⟩
    · simp at hr; exact ⟨_, hr.1.symm⟩
  all_goals exact key _ hr

theorem yieldsIf_of_in {o : Oper} {v : Value} {a : Act} (hp : plainOp o.op = true) (hy : YieldsIn P ops (fun _ => True) o v a) : YieldsIf P ops (fun _ => True) o v a := by
  rcases hy with ⟨hw, hv⟩ | hy
  · refine .inl ⟨hw, fun w' _ => ?_⟩
    have h3 := hv w' trivial
    unfold Oper.quietAt at h3
    generalize hr : (execOp a.eval o).run P w' = r at h3
    cases r with
    | halt x w2 => simp only [Oper.quietUpon] at h3
    | ok n w2 =>
      obtain ⟨u, rfl⟩ := plain_value hp hr
      simp only [Oper.quietUpon] at h3
      rw [h3.1, h3.2]
  · exact .inr hy

def lexFirst (md : Region.Mode) (ops : Array Oper) (F : Array Bool → Bool) : List Nat → Array Bool → Bool
  | [], listed => F listed
  | k :: is, listed => (Region.ready md ops listed).contains k && Region.free md ops listed k && ((ops[k]?).map (fun o => plainOp o.op) == some true) && lexFirst md ops F is (listed.setIfInBounds k true)
def seqOf (md : Region.Mode) (ops : Array Oper) : List Nat → Array Bool → Bool
  | [], listed => (Region.ready md ops listed).isEmpty
  | k :: js, listed => decide (Region.ready md ops listed = [k]) && decide (k < ops.size) && seqOf md ops js (listed.setIfInBounds k true)
def permB (md : Region.Mode) (ops : Array Oper) (is js : List Nat) : Bool :=
  Region.noSelect ops && decide (is.length + js.length = ops.size) && lexFirst md ops (seqOf md ops js) is (Array.replicate ops.size false)
def nth : List Oper → Nat → List Oper
  | [], _ => []
  | o :: _, 0 => [o]
  | _ :: l, k + 1 => nth l k
def pickOps (ops : List Oper) : List Nat → List Oper
  | [] => []
  | k :: is => nth ops k ++ pickOps ops is
theorem nth_of : ∀ {l : List Oper} {k : Nat} {o : Oper}, l[k]? = some o → nth l k = [o]
  | [], k, o, h => by simp at h
  | _ :: _, 0, o, h => by simp at h; simp [nth, h]
  | _ :: l, k + 1, o, h => by simp only [nth]; exact nth_of (by simpa using h)

theorem wpAny_seqOf {Q : Exit → Act → World → Prop} {l : List Oper} : ∀ (js : List Nat) (listed : Array Bool) (a : Act) (w : World), seqOf md l.toArray js listed = true →
    wpList P l.toArray Q (pickOps l js) a w → wpAny P md l.toArray Q js.length listed a w
  | [], _, _, _, hB, h => ⟨by simpa [seqOf] using hB, h⟩
  | k :: js, listed, a, w, hB, h => by
    simp only [seqOf, Bool.and_eq_true, decide_eq_true_eq] at hB
    obtain ⟨⟨hr, hk⟩, hB'⟩ := hB
    have hk' : k < l.length := by simpa using hk
    have h0 : l.toArray[k]? = some l[k] := by simp [hk']
    have e : pickOps l (k :: js) = l[k] :: pickOps l js := by simp [pickOps, nth_of (show l[k]? = some l[k] by simp [hk'])]
    rw [e] at h
    refine ⟨fun h1 => (by rw [hr] at h1; cases h1), fun i hi => ?_⟩
    rw [hr] at hi
    have hik : i = k := by simpa using hi
    subst hik
    have hw : wpOp P l.toArray Q i (wpList P l.toArray Q (pickOps l js)) a w := by unfold wpOp; simp only [h0]; exact h
    exact wpOp_mono (fun a' w' h' => wpAny_seqOf js _ a' w' hB' h') hw

theorem first_ops {Q : Exit → Act → World → Prop} {Lq : Act → Prop} {l : List Oper} {w : World} (F : Array Bool → Bool) (g : Nat) (hsel : Region.noSelect l.toArray = true)
    (hQ : ∀ c a a' w, Q (.panic c) a w → Q (.panic c) a' w) (hK : ∀ listed a, F listed = true → Lq a → wpAny P md l.toArray Q g listed a w) :
    ∀ (is : List Nat) (listed : Array Bool) (a : Act), lexFirst md l.toArray F is listed = true → wpQuiet P l.toArray (fun _ => True) Lq (pickOps l is) a →
      wpAnyH P md l.toArray Q (fun _ => True) (is.length + g) listed a w
  | [], listed, a, hB, h => by
    simp only [List.length_nil, Nat.zero_add]
    exact tail.held_of_any _ _ _ _ (hK _ _ (by simpa [lexFirst] using hB) h)
  | k :: is, listed, a, hB, h => by
    simp only [lexFirst, Bool.and_eq_true] at hB
    obtain ⟨⟨⟨hr, hf⟩, hp⟩, hB'⟩ := hB
    have hp' : (l.toArray[k]?).map (fun o => plainOp o.op) = some true := by simpa using hp
    obtain ⟨o, h0, ho⟩ := Option.map_eq_some_iff.1 hp'
    have hl0 : l[k]? = some o := by simpa using h0
    have e : pickOps l (k :: is) = o :: pickOps l is := by simp [pickOps, nth_of hl0]
    rw [e] at h
    have hst : qOp P l.toArray (fun _ => True) k (wpQuiet P l.toArray (fun _ => True) Lq (pickOps l is)) a := by unfold qOp; simp only [h0]; exact h
    obtain ⟨v, hy, hK'⟩ := yieldsIn_of_qOp h0 hst
    rw [show (k :: is).length + g = (is.length + g) + 1 from by simp only [List.length_cons]; omega]
    exact wpAnyH_take h0 hsel hf hr (fun c a w h => hQ c _ _ w h) (yieldsIf_of_in ho hy) trivial (first_ops F g hsel hQ hK is _ _ hB' hK')

/-- the operations 'is' look at no memory and are taken first; the others, 'js', stand in one row; nothing panics -/
theorem region {id : Nat} {Q : Exit → Act → World → Prop} {a : Act} {w : World} {l : List Oper} (is js : List Nat) (hmx : P.follows .mixedOrders = true) (hB : permB .any l.toArray is js = true)
    (h : wpQuiet P l.toArray (fun _ => True) (fun a' => wpList P l.toArray (NoPanic Q) (pickOps l js) a' w.drew) (pickOps l is) a) : (Code.region id l.toArray true).wp P Q a w := by
  simp only [permB, Bool.and_eq_true, decide_eq_true_eq] at hB
  obtain ⟨⟨hsel, hlen⟩, hlex⟩ := hB
  refine wp_region_noPanic (wp_region_held (S := fun _ => True) hmx ?_)
  have key := first_ops (md := .any) (Q := NoPanic Q) (w := { w with drawn := w.drawn + 1 }) (seqOf .any l.toArray js) js.length hsel (fun c a a' w h => h)
    (fun listed a' hF hL => wpAny_seqOf js listed a' _ hF hL) is _ a hlex h
  rwa [hlen] at key
end
end Go.Proofs.Ytccaibdklgkgeaa.perm
