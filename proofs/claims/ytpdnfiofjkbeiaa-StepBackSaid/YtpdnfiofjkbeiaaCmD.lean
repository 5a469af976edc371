/- Contracts and lemmas that the claims of this seat share: Tail, Arr, FieldRight, BitsLen, FieldTop, FieldSize. Each says its own conditions. -/
import Derived.StillTail
import Derived.Deep.RegionHeld3
import Derived.Deep.QuietTactic
import Derived.BigQuiet
import Derived.WalkKit
import Derived.Test.YtpdnfiofjkbeiaaRows
import Derived.Test.YtpdnfiofjkbeiaaCmA
import Derived.Deep.MidRow
import Derived.Deep.WholeRow
import Derived.Laws.OwnMore
import Derived.Test.YtpdnfiofjkbeiaaCmB
import Derived.IntWalk
import Derived.Handy
/- A region whose order is open: all its operations but the last ones in a forced row only read; one walk in the order of the text serves every order. No condition. -/
namespace Go.Proofs.Ytpdnfiofjkbeiaa.tail
open Go

section
variable {P : Program} {ops : Array Oper} {md : Region.Mode} {C : World → Prop}

def anyL (P : Program) (md : Region.Mode) (ops : Array Oper) (C : World → Prop) (n : Nat) (L : Array Bool → Act → Prop) : Nat → Array Bool → Act → Prop
  | 0, listed, a => L listed a
  | f + 1, listed, a =>
    Region.ready md ops listed ≠ [] ∧ ∀ i ∈ Region.ready md ops listed, i < n ∧ qOp P ops C i (anyL P md ops C n L f (listed.setIfInBounds i true)) a

theorem any_of_head {n g : Nat} {L : Array Bool → Act → Prop} {Q' : Exit → Act → World → Prop} (hL : ∀ listed a w, C w → L listed a → wpAny P md ops Q' g listed a w) :
    ∀ (f : Nat) (listed : Array Bool) (a : Act) (w : World), C w → anyL P md ops C n L f listed a → wpAny P md ops Q' (f + g) listed a w
  | 0, listed, a, w, hw, h => by rw [Nat.zero_add]; exact hL _ _ _ hw h
  | f + 1, listed, a, w, hw, h => by
    rw [show f + 1 + g = (f + g) + 1 by omega]
    exact ⟨fun h0 => absurd h0 h.1, fun i hi => wpOp_of_qOp hw (fun a' w' hw' h' => any_of_head hL f _ a' w' hw' h') (h.2 i hi).2⟩

theorem anyL_first {n i : Nat} {oi : Oper} {v : Value} {L : Array Bool → Act → Prop} (hi : ops[i]? = some oi) (hsel : ∀ (j : Nat) (o : Oper) cs b, ops[j]? = some o → o.op ≠ .select cs b)
    (hs : Region.sinkB md ops n = true) (hc : Region.chainB md ops n = true) (hn : n < ops.size) (hin : i < n)
    (hdone : ∀ listed a, L listed a → ∀ j ∈ Region.ready md ops listed, n ≤ j) :
    ∀ (f : Nat) (listed : Array Bool) (a : Act), HeadInv md ops n listed →
      (∀ j oj, ops[j]? = some oj → j ≠ i → listed.getD j true = false → (∀ e ∈ oj.after, Region.binds md e = true → e.on ≠ i) → oi.apart ops oj = true) →
      i ∈ Region.ready md ops listed → YieldsIn P ops C oi v a →
      anyL P md ops C n L f (listed.setIfInBounds i true) (a.put oi.dst v) → anyL P md ops C n L (f + 1) listed a := by
  intro f
  induction f with
  | zero =>
    intro listed a inv _ hr hy H
    have hun := (mem_ready.1 hr).1
    refine ⟨fun h => (by rw [h] at hr; cases hr), fun j hj => ?_⟩
    have hjn : j < n := by
      rcases Nat.lt_or_ge j n with h | h
      · exact h
      · exact absurd hj (tail_waits hs hc hn inv _ i rfl hin hun j h)
    refine ⟨hjn, ?_⟩
    by_cases hji : j = i
    · subst hji; exact hy.qOp hi H
    · have := hdone _ _ H j (ready_mono hj hji)
      omega
  | succ f ih =>
    intro listed a inv hfree hr hy H
    have hun := (mem_ready.1 hr).1
    refine ⟨fun h => (by rw [h] at hr; cases hr), fun j hj => ?_⟩
    have hjn : j < n := by
      rcases Nat.lt_or_ge j n with h | h
      · exact h
      · exact absurd hj (tail_waits hs hc hn inv _ i rfl hin hun j h)
    refine ⟨hjn, ?_⟩
    by_cases hji : j = i
    · subst hji; exact hy.qOp hi H
    · have h1 := (H.2 j (ready_mono hj hji)).2
      obtain ⟨hjun, oj, hoj, hall⟩ := mem_ready.1 hj
      have hnot : ∀ e ∈ oj.after, Region.binds md e = true → e.on ≠ i := fun e he hb heq => by
        have h1 := hall e he hb
        rw [heq, getD_both hun] at h1
        cases h1
      have h2 := qOp_put hoj (hfree j oj hoj hji hjun hnot) (fun cs b => hsel i oi cs b hi) (fun cs b => hsel j oj cs b hoj) hy h1
      have hfree' : ∀ k ok, ops[k]? = some ok → k ≠ i → (listed.setIfInBounds j true).getD k true = false →
          (∀ e ∈ ok.after, Region.binds md e = true → e.on ≠ i) → oi.apart ops ok = true := fun k ok hk hki hun hno => by
        refine hfree k ok hk hki ?_ hno
        by_cases hjk : j = k
        · subst hjk; exact hjun
        · rw [getD_set_ne true hjk] at hun; exact hun
      refine qOp_mono (fun a' h3 => ih (listed.setIfInBounds j true) a' (inv.set hj hjn) hfree' (ready_mono hr (Ne.symm hji)) h3.1 ?_) h2
      rw [Array.setIfInBounds_comm _ _ hji]
      exact h3.2

theorem anyL_lex {n g : Nat} {Lq : Act → Prop} (hsel : Region.noSelect ops = true) (hs : Region.sinkB md ops n = true) (hc : Region.chainB md ops n = true) (hn : n < ops.size) :
    ∀ (l : List Oper) (k : Nat) (listed : Array Bool) (a : Act), (∀ j, j < l.length → l[j]? = ops[k + j]?) → k + l.length = n → HeadInv md ops n listed →
    Region.lexHead md ops g l.length k listed = true → wpQuiet P ops C Lq l a →
    anyL P md ops C n (fun listed' a' => Region.seqB md ops g n listed' = true ∧ Lq a') l.length listed a
  | [], k, listed, a, _, hk, _, hB, h => by
    have : k = n := by simpa using hk
    subst this
    exact ⟨by simpa [Region.lexHead] using hB, h⟩
  | o :: l, k, listed, a, hl, hk, inv, hB, h => by
    have h0 : ops[k]? = some o := by simpa using (hl 0 (by simp)).symm
    simp only [List.length_cons, Region.lexHead, Bool.and_eq_true] at hB
    obtain ⟨⟨hr, hf⟩, hB'⟩ := hB
    have hkn : k < n := by simp only [List.length_cons] at hk; omega
    have hr' : k ∈ Region.ready md ops listed := by simpa using hr
    have hst : qOp P ops C k (wpQuiet P ops C Lq l) a := by unfold qOp; simp only [h0]; exact h
    obtain ⟨v, hy, hK⟩ := yieldsIn_of_qOp h0 hst
    exact anyL_first h0 (Region.noSelect_spec hsel) hs hc hn hkn (fun listed' a' hL => seqB_ready hL.1) l.length listed a inv (Region.free_spec h0 hf) hr' hy
      (anyL_lex hsel hs hc hn l (k + 1) _ _ (fun j hj => by have := hl (j + 1) (by simp; omega); simpa [Nat.add_assoc, Nat.add_comm 1 j] using this) (by simp only [List.length_cons] at hk; omega) (inv.set hr' hkn) hB' hK)

/-- the operations but the last ones only read, or call what only reads; the last ones stand in one row -/
theorem region {id : Nat} {Q : Exit → Act → World → Prop} {a : Act} {w : World} {l : List Oper} (n : Nat) (hm : P.follows .mixedOrders = true) (hB : Region.lexTailB .any l.toArray n = true)
    (h : wpQuiet P l.toArray (fun w' => ∃ n, w' = w.drewN n) (fun a' => ∀ w', (∃ n, w' = w.drewN n) → wpList P l.toArray Q (l.drop n) a' w') (l.take n) a) : (Code.region id l.toArray true).wp P Q a w := by
  simp only [Region.lexTailB, Bool.and_eq_true, decide_eq_true_eq] at hB
  obtain ⟨⟨⟨⟨hsel, hn⟩, hs⟩, hc⟩, hlex⟩ := hB
  have hn' : n < l.length := by simpa using hn
  have htl : (l.take n).length = n := by simp; omega
  have hdl : (l.drop n).length = l.toArray.size - n := by simp
  have inv0 : HeadInv .any l.toArray n (Array.replicate l.toArray.size false) :=
    ⟨by simp, fun j oj _ hl => (by rw [getD_replicate_false] at hl; cases hl), fun t _ ht => getD_in (by simpa using ht) (getD_replicate_false _ _)⟩
  have H := anyL_lex (md := .any) (g := l.toArray.size - n) hsel hs hc hn (l.take n) 0 _ a (fun j hj => by
    have hj' : j < n := by rw [htl] at hj; exact hj
    simp [hj']) (by simpa using htl) inv0 (by rw [htl]; exact hlex) h
  refine wp_region_any hm ?_
  have := any_of_head (C := fun w' => ∃ n, w' = w.drewN n) (Q' := Q) (g := l.toArray.size - n) (fun listed a' w' hw' hL => by
    have := wpAny_of_seq (md := .any) (Q' := Q) (l.drop n) n listed a' w' (fun j => by simp [List.getElem?_drop]) (by rw [hdl]; exact hL.1) (hL.2 w' hw')
    rwa [hdl] at this) _ _ _ _ ⟨1, rfl⟩ H
  rw [htl, show n + (l.toArray.size - n) = l.toArray.size by omega] at this
  exact this

/-! the same where the first m operations are plain moves, which may also come up late -/

def sinkFrom (md : Region.Mode) (ops : Array Oper) (m n : Nat) : Bool :=
  (List.range n).all fun i => decide (i < m) || (List.range (n + 1)).any fun j => decide (i < j) && Region.waitsFor md ops j i
theorem tail_waits_from {m n : Nat} {listed : Array Bool} (hs : sinkFrom md ops m n = true) (hc : Region.chainB md ops n = true) (hn : n < ops.size) (inv : HeadInv md ops n listed)
    (hm : ∀ i, i < m → listed.getD i true = true) :
    ∀ (d i : Nat), n - i = d → i < n → listed.getD i true = false → ∀ t, n ≤ t → t ∉ Region.ready md ops listed := by
  intro d
  induction d using Nat.strongRecOn with
  | _ d ih =>
    intro i hd hi hun t ht hr
    obtain ⟨_, ot, hot, hall⟩ := mem_ready.1 hr
    have htlt : t < ops.size := (Array.getElem?_eq_some_iff.1 hot).1
    by_cases htn : t = n
    · subst htn
      have h1 := List.all_eq_true.1 hs i (List.mem_range.2 hi)
      have hnm : ¬ i < m := fun h => by rw [hm i h] at hun; cases hun
      simp only [Bool.or_eq_true, decide_eq_true_eq, hnm, false_or] at h1
      obtain ⟨j, hj, hj2⟩ := List.any_eq_true.1 h1
      simp only [Bool.and_eq_true, decide_eq_true_eq] at hj2
      obtain ⟨oj, hoj, e, he, hb, hon⟩ := Region.waitsFor_spec hj2.2
      have hjle : j ≤ t := by have := List.mem_range.1 hj; omega
      by_cases hjt : j = t
      · subst hjt
        have : oj = ot := Option.some.inj (hoj.symm.trans hot)
        subst this
        have h2 := hall e he hb
        rw [hon, getD_both hun] at h2
        cases h2
      · cases hl : listed.getD j false with
        | true =>
          have h2 := inv.closed j oj hoj hl e he hb
          rw [hon, getD_both hun] at h2
          cases h2
        | false =>
          have hjs : j < listed.size := by rw [inv.size]; omega
          exact ih (t - j) (by omega) j rfl (by omega) (getD_in hjs hl) t (Nat.le_refl _) hr
    · have h1 := List.all_eq_true.1 hc t (List.mem_range.2 htlt)
      simp only [Bool.or_eq_true, decide_eq_true_eq] at h1
      rcases h1 with h1 | h1
      · omega
      · obtain ⟨o', ho', e, he, hb, hon⟩ := Region.waitsFor_spec h1
        have : o' = ot := Option.some.inj (ho'.symm.trans hot)
        subst this
        have h2 := hall e he hb
        rw [hon, getD_both (inv.tail (t - 1) (by omega) (by omega))] at h2
        cases h2

theorem anyL_first_from {m n i : Nat} {oi : Oper} {v : Value} {L : Array Bool → Act → Prop} (hi : ops[i]? = some oi) (hsel : ∀ (j : Nat) (o : Oper) cs b, ops[j]? = some o → o.op ≠ .select cs b)
    (hs : sinkFrom md ops m n = true) (hc : Region.chainB md ops n = true) (hn : n < ops.size) (hin : i < n)
    (hdone : ∀ listed a, L listed a → ∀ j ∈ Region.ready md ops listed, n ≤ j) :
    ∀ (f : Nat) (listed : Array Bool) (a : Act), HeadInv md ops n listed → (∀ i, i < m → listed.getD i true = true) →
      (∀ j oj, ops[j]? = some oj → j ≠ i → listed.getD j true = false → (∀ e ∈ oj.after, Region.binds md e = true → e.on ≠ i) → oi.apart ops oj = true) →
      i ∈ Region.ready md ops listed → YieldsIn P ops C oi v a →
      anyL P md ops C n L f (listed.setIfInBounds i true) (a.put oi.dst v) → anyL P md ops C n L (f + 1) listed a := by
  intro f
  induction f with
  | zero =>
    intro listed a inv hm _ hr hy H
    have hun := (mem_ready.1 hr).1
    refine ⟨fun h => (by rw [h] at hr; cases hr), fun j hj => ?_⟩
    have hjn : j < n := by
      rcases Nat.lt_or_ge j n with h | h
      · exact h
      · exact absurd hj (tail_waits_from hs hc hn inv hm _ i rfl hin hun j h)
    refine ⟨hjn, ?_⟩
    by_cases hji : j = i
    · subst hji; exact hy.qOp hi H
    · have := hdone _ _ H j (ready_mono hj hji)
      omega
  | succ f ih =>
    intro listed a inv hm hfree hr hy H
    have hun := (mem_ready.1 hr).1
    refine ⟨fun h => (by rw [h] at hr; cases hr), fun j hj => ?_⟩
    have hjn : j < n := by
      rcases Nat.lt_or_ge j n with h | h
      · exact h
      · exact absurd hj (tail_waits_from hs hc hn inv hm _ i rfl hin hun j h)
    refine ⟨hjn, ?_⟩
    by_cases hji : j = i
    · subst hji; exact hy.qOp hi H
    · have h1 := (H.2 j (ready_mono hj hji)).2
      obtain ⟨hjun, oj, hoj, hall⟩ := mem_ready.1 hj
      have hnot : ∀ e ∈ oj.after, Region.binds md e = true → e.on ≠ i := fun e he hb heq => by
        have h1 := hall e he hb
        rw [heq, getD_both hun] at h1
        cases h1
      have h2 := qOp_put hoj (hfree j oj hoj hji hjun hnot) (fun cs b => hsel i oi cs b hi) (fun cs b => hsel j oj cs b hoj) hy h1
      have hfree' : ∀ k ok, ops[k]? = some ok → k ≠ i → (listed.setIfInBounds j true).getD k true = false →
          (∀ e ∈ ok.after, Region.binds md e = true → e.on ≠ i) → oi.apart ops ok = true := fun k ok hk hki hun hno => by
        refine hfree k ok hk hki ?_ hno
        by_cases hjk : j = k
        · subst hjk; exact hjun
        · rw [getD_set_ne true hjk] at hun; exact hun
      have hm' : ∀ k, k < m → (listed.setIfInBounds j true).getD k true = true := fun k hk => by
        by_cases hjk : j = k
        · subst hjk; rw [hm j hk] at hjun; cases hjun
        · rw [getD_set_ne true hjk]; exact hm k hk
      refine qOp_mono (fun a' h3 => ih (listed.setIfInBounds j true) a' (inv.set hj hjn) hm' hfree' (ready_mono hr (Ne.symm hji)) h3.1 ?_) h2
      rw [Array.setIfInBounds_comm _ _ hji]
      exact h3.2

theorem anyL_lex_from {m n g : Nat} {Lq : Act → Prop} (hsel : Region.noSelect ops = true) (hs : sinkFrom md ops m n = true) (hc : Region.chainB md ops n = true) (hn : n < ops.size) :
    ∀ (l : List Oper) (k : Nat) (listed : Array Bool) (a : Act), (∀ j, j < l.length → l[j]? = ops[k + j]?) → k + l.length = n → m ≤ k → HeadInv md ops n listed → (∀ i, i < m → listed.getD i true = true) →
    Region.lexHead md ops g l.length k listed = true → wpQuiet P ops C Lq l a →
    anyL P md ops C n (fun listed' a' => Region.seqB md ops g n listed' = true ∧ Lq a') l.length listed a
  | [], k, listed, a, _, hk, _, _, _, hB, h => by
    have : k = n := by simpa using hk
    subst this
    exact ⟨by simpa [Region.lexHead] using hB, h⟩
  | o :: l, k, listed, a, hl, hk, hmk, inv, hm, hB, h => by
    have h0 : ops[k]? = some o := by simpa using (hl 0 (by simp)).symm
    simp only [List.length_cons, Region.lexHead, Bool.and_eq_true] at hB
    obtain ⟨⟨hr, hf⟩, hB'⟩ := hB
    have hkn : k < n := by simp only [List.length_cons] at hk; omega
    have hr' : k ∈ Region.ready md ops listed := by simpa using hr
    have hst : qOp P ops C k (wpQuiet P ops C Lq l) a := by unfold qOp; simp only [h0]; exact h
    obtain ⟨v, hy, hK⟩ := yieldsIn_of_qOp h0 hst
    have hm' : ∀ i, i < m → (listed.setIfInBounds k true).getD i true = true := fun i hi => by
      rw [getD_set_ne true (by omega)]; exact hm i hi
    exact anyL_first_from h0 (Region.noSelect_spec hsel) hs hc hn hkn (fun listed' a' hL => seqB_ready hL.1) l.length listed a inv hm (Region.free_spec h0 hf) hr' hy
      (anyL_lex_from hsel hs hc hn l (k + 1) _ _ (fun j hj => by have := hl (j + 1) (by simp; omega); simpa [Nat.add_assoc, Nat.add_comm 1 j] using this) (by simp only [List.length_cons] at hk; omega) (by omega) (inv.set hr' hkn) hm' hB' hK)

theorem held_of_any {Q : Exit → Act → World → Prop} : ∀ (fuel : Nat) (listed : Array Bool) (a : Act) (w : World), wpAny P md ops Q fuel listed a w → wpAnyH P md ops Q (fun _ => True) fuel listed a w
  | 0, _, _, _, h => h
  | fuel + 1, _, _, _, h => ⟨h.1, fun i hi => wpOp_mono (fun a' w' h' => ⟨trivial, held_of_any fuel _ a' w' h'⟩) (h.2 i hi)⟩

/-- a plain move -/
def isMove (o : Oper) : Bool := o.guard.isNone && match o.op with | .move _ => true | _ => false
theorem move_run {o : Oper} (h : isMove o = true) (a : Act) (w : World) : ∃ v, (execOp a.eval o).run P w = .ok (.value v) w ∧ ∀ w', (execOp a.eval o).run P w' = .ok (.value v) w' := by
  unfold isMove at h
  simp only [Bool.and_eq_true] at h
  obtain ⟨_, h2⟩ := h
  split at h2
  · rename_i x hx
    exact ⟨a.eval x, by simp [execOp, hx], fun w' => by simp [execOp, hx]⟩
  · cases h2

def lexMoves (md : Region.Mode) (ops : Array Oper) (F : Nat → Array Bool → Bool) : Nat → Nat → Array Bool → Bool
  | 0, k, listed => F k listed
  | f + 1, k, listed => (Region.ready md ops listed).contains k && Region.free md ops listed k && ((ops[k]?).map isMove == some true) && lexMoves md ops F f (k + 1) (listed.setIfInBounds k true)

theorem moves_first {m n : Nat} {Q : Exit → Act → World → Prop} {Lq : Act → Prop} {F : Nat → Array Bool → Bool} {w : World} (hsel : Region.noSelect ops = true) (hmn : m ≤ n) (hn : n < ops.size) (hC : C w)
    (hQ : ∀ c a a' w, Q (.panic c) a w → Q (.panic c) a' w) (g : Nat)
    (hK : ∀ listed a, HeadInv md ops n listed → (∀ i, i < m → listed.getD i true = true) → F m listed = true → Lq a → wpAny P md ops Q g listed a w) :
    ∀ (l : List Oper) (k : Nat) (listed : Array Bool) (a : Act), (∀ j, j < l.length → l[j]? = ops[k + j]?) → k + l.length = m → HeadInv md ops n listed → (∀ i, i < k → listed.getD i true = true) →
    lexMoves md ops F l.length k listed = true → wpQuiet P ops C Lq l a → wpAnyH P md ops Q (fun _ => True) (l.length + g) listed a w
  | [], k, listed, a, _, hk, inv, hm, hB, h => by
    have : k = m := by simpa using hk
    subst this
    simp only [List.length_nil, Nat.zero_add]
    exact held_of_any _ _ _ _ (hK _ _ inv hm (by simpa [lexMoves] using hB) h)
  | o :: l, k, listed, a, hl, hk, inv, hm, hB, h => by
    have h0 : ops[k]? = some o := by simpa using (hl 0 (by simp)).symm
    simp only [List.length_cons, lexMoves, Bool.and_eq_true] at hB
    obtain ⟨⟨⟨hr, hf⟩, hmv⟩, hB'⟩ := hB
    rw [h0] at hmv
    have hmv' : isMove o = true := by simpa using hmv
    have hkn : k < n := by simp only [List.length_cons] at hk; omega
    have hr' : k ∈ Region.ready md ops listed := by simpa using hr
    have hst : qOp P ops C k (wpQuiet P ops C Lq l) a := by unfold qOp; simp only [h0]; exact h
    obtain ⟨v, hy, hK'⟩ := yieldsIn_of_qOp h0 hst
    have hyI : YieldsIf P ops (fun _ => True) o v a := by
      rcases hy with ⟨hw, hv⟩ | hy
      · obtain ⟨u, hu, hu'⟩ := move_run (P := P) hmv' a w
        have h3 := hv w hC
        unfold Oper.quietAt at h3
        rw [hu] at h3
        simp only [Oper.quietUpon] at h3
        exact .inl ⟨hw, fun w' _ => by rw [hu' w', h3.2]⟩
      · exact .inr hy
    rw [show (o :: l).length + g = (l.length + g) + 1 from by simp only [List.length_cons]; omega]
    refine wpAnyH_take h0 hsel hf hr (fun c a w h => hQ c _ _ w h) hyI trivial ?_
    refine moves_first hsel hmn hn hC hQ g hK l (k + 1) _ _ (fun j hj => by have := hl (j + 1) (by simp; omega); simpa [Nat.add_assoc, Nat.add_comm 1 j] using this) (by simp only [List.length_cons] at hk; omega) (inv.set hr' hkn) ?_ hB' hK'
    intro i hi
    by_cases h : k = i
    · subst h
      have hks : k < listed.size := by rw [inv.size]; omega
      simp [hks]
    · rw [getD_set_ne true h]; exact hm i (by omega)

def lexTailFrom (md : Region.Mode) (ops : Array Oper) (m n : Nat) : Bool :=
  Region.noSelect ops && decide (n < ops.size) && decide (m ≤ n) && sinkFrom md ops m n && Region.chainB md ops n && lexMoves md ops (fun k listed => Region.lexHead md ops (ops.size - n) (n - m) k listed) m 0 (Array.replicate ops.size false)

theorem wpQuiet_append {Q : Act → Prop} : ∀ (l l' : List Oper) (a : Act), wpQuiet P ops C Q (l ++ l') a → wpQuiet P ops C (wpQuiet P ops C Q l') l a
  | [], _, _, h => h
  | o :: l, l', a, h => by
    simp only [List.cons_append, wpQuiet] at h ⊢
    split
    · rename_i hw
      simp only [hw, if_true] at h
      exact Oper.quiet_mono (fun a' h' => wpQuiet_append l l' a' h') h
    · rename_i hw
      simp only [hw] at h
      exact wpQuiet_append l l' _ h

/-- the first m operations are plain moves; those up to n only read; the last ones stand in one row; nothing panics -/
theorem regionFrom {id : Nat} {Q : Exit → Act → World → Prop} {a : Act} {w : World} {l : List Oper} (m n : Nat) (hmx : P.follows .mixedOrders = true) (hB : lexTailFrom .any l.toArray m n = true)
    (h : wpQuiet P l.toArray (fun w' => ∃ n, w' = w.drewN n) (fun a' => ∀ w', (∃ n, w' = w.drewN n) → wpList P l.toArray (NoPanic Q) (l.drop n) a' w') (l.take n) a) : (Code.region id l.toArray true).wp P Q a w := by
  simp only [lexTailFrom, Bool.and_eq_true, decide_eq_true_eq] at hB
  obtain ⟨⟨⟨⟨⟨hsel, hn⟩, hmn⟩, hs⟩, hc⟩, hlex⟩ := hB
  have hn' : n < l.length := by simpa using hn
  have htl : (l.take n).length = n := by simp; omega
  have hdl : (l.drop n).length = l.toArray.size - n := by simp
  have hsz : l.toArray.size = l.length := by simp
  have inv0 : HeadInv .any l.toArray n (Array.replicate l.toArray.size false) :=
    ⟨by simp, fun j oj _ hl => (by rw [getD_replicate_false] at hl; cases hl), fun t _ ht => getD_in (by simpa using ht) (getD_replicate_false _ _)⟩
  have hsplit : l.take n = l.take m ++ (l.take n).drop m := by
    have h2 := List.take_append_drop m (l.take n)
    rw [List.take_take, Nat.min_eq_left hmn] at h2
    exact h2.symm
  rw [hsplit] at h
  have h1 := wpQuiet_append _ _ _ h
  have hml : (l.take m).length = m := by simp; omega
  have hdl2 : ((l.take n).drop m).length = n - m := by simp; omega
  refine wp_region_noPanic (wp_region_held (S := fun _ => True) hmx ?_)
  have key := moves_first (md := .any) (C := fun w' => ∃ n, w' = w.drewN n) (w := { w with drawn := w.drawn + 1 }) (Q := NoPanic Q)
    (F := fun k listed => Region.lexHead .any l.toArray (l.toArray.size - n) (n - m) k listed) (g := (n - m) + (l.toArray.size - n)) hsel hmn hn ⟨1, rfl⟩ (fun c a a' w h => h)
    (fun listed a inv hm hF hL => by
      have H := anyL_lex_from (md := .any) (g := l.toArray.size - n) hsel hs hc hn ((l.take n).drop m) m listed a (fun j hj => by
        rw [hdl2] at hj
        rw [List.getElem?_drop, List.getElem?_take, if_pos (by omega)]
        simp) (by rw [hdl2]; omega) (Nat.le_refl _) inv hm (by rw [hdl2]; exact hF) hL
      have := any_of_head (C := fun w' => ∃ n, w' = w.drewN n) (Q' := NoPanic Q) (g := l.toArray.size - n) (fun listed a' w' hw' hL => by
        have := wpAny_of_seq (md := .any) (Q' := NoPanic Q) (l.drop n) n listed a' w' (fun j => by simp [List.getElem?_drop]) (by rw [hdl]; exact hL.1) (hL.2 w' hw')
        rwa [hdl] at this) _ _ _ { w with drawn := w.drawn + 1 } ⟨1, rfl⟩ H
      rwa [hdl2] at this)
    (l.take m) 0 _ a (fun j hj => by
      rw [hml] at hj
      rw [List.getElem?_take, if_pos hj]
      simp) (by rw [hml]; omega) inv0 (fun i hi => by omega) (by rw [hml]; exact hlex) h1
  rw [hml] at key
  rwa [show m + (n - m + (l.toArray.size - n)) = l.toArray.size from by omega] at key
end
end Go.Proofs.Ytpdnfiofjkbeiaa.tail
/- A block that is known whole: what its cells are before and behind stores. No condition. -/
namespace Go.Proofs.Ytpdnfiofjkbeiaa
open Go.RowKit
set_option linter.unusedVariables false

/-- block b holds just these cells, and may be written -/
def Block (w : World) (b : Nat) (t : TypeId) (cs : List Value) : Prop := w.heap[b]? = some (.cells cs.toArray t (0, 0))
theorem Block.lt {w : World} {b : Nat} {t : TypeId} {cs : List Value} (h : Block w b t cs) : b < w.heap.size := (Array.getElem?_eq_some_iff.1 h).1
theorem Block.cell {w : World} {b : Nat} {t : TypeId} {cs : List Value} (h : Block w b t cs) (j : Nat) : w.cell? ⟨b, j, none⟩ = cs[j]? := by
  rw [cell_of_row w b j cs.toArray t (0, 0) h]; simp
theorem Block.frozen {w : World} {b : Nat} {t : TypeId} {cs : List Value} (h : Block w b t cs) (j : Nat) : w.frozen? ⟨b, j, none⟩ = false := frozen_of_row w b j cs.toArray t h
theorem Block.range {w : World} {b : Nat} {t : TypeId} {cs : List Value} (h : Block w b t cs) (o : Nat) (vs : List Value) (hv : ∀ j v, vs[j]? = some v → cs[o + j]? = some v) : w.rangeAt b o vs :=
  fun j v hj => by rw [h.cell]; exact hv j v hj
theorem Block.whole {w : World} {b : Nat} {t : TypeId} {cs : List Value} (h : Block w b t cs) : w.rangeAt b 0 cs := h.range 0 cs (fun j v hj => by rw [Nat.zero_add]; exact hj)
theorem Block.there {w : World} {b : Nat} {t : TypeId} {cs : List Value} (h : Block w b t cs) (o n : Nat) (hn : o + n ≤ cs.length) : w.there b o n :=
  fun j hj => ⟨by rw [h.cell, List.getElem?_eq_getElem (by omega)]; rfl, h.frozen _⟩
theorem Block.setCell {w : World} {b : Nat} {t : TypeId} {cs : List Value} (h : Block w b t cs) (j : Nat) (v : Value) : Block (w.setCell ⟨b, j, none⟩ v) b t (cs.set j v) := by
  have := heap_setCell_same w b j cs.toArray t v h
  unfold Block
  rw [this]
  simp
/-- the cells from o on turned -/
def put (cs : List Value) : Nat → List Value → List Value
  | _, [] => cs
  | o, v :: r => put (cs.set o v) (o + 1) r
theorem put_mid (A X C Y : List Value) (h : X.length = Y.length) : put (A ++ X ++ C) A.length Y = A ++ Y ++ C := by
  induction Y generalizing A X with
  | nil => obtain rfl : X = [] := List.eq_nil_of_length_eq_zero (by simpa using h); rfl
  | cons y r ih =>
    cases X with
    | nil => simp at h
    | cons x X =>
      have e : (A ++ x :: X ++ C).set A.length y = (A ++ [y]) ++ X ++ C := by simp
      have := ih (A ++ [y]) X (by simpa using h)
      rw [put, e, show A.length + 1 = (A ++ [y]).length by simp, this]
      simp
theorem put_all (X Y : List Value) (h : X.length = Y.length) : put X 0 Y = Y := by
  have := put_mid [] X [] Y h
  simpa using this
theorem Block.setCells {b : Nat} {t : TypeId} : ∀ {vs : List Value} {o : Nat} {w : World} {cs : List Value}, Block w b t cs → Block (w.setCells b o vs) b t (put cs o vs)
  | [], _, _, _, h => h
  | v :: r, o, w, cs, h => Block.setCells (vs := r) (o := o + 1) (h.setCell o v)
theorem Block.alloc {w : World} {b : Nat} {t : TypeId} {cs : List Value} (h : Block w b t cs) (ob : Obj) : Block (w.alloc ob) b t cs := (Below.heap_alloc w ob b h.lt).trans h
theorem Block.new (w : World) (t : TypeId) (cs : List Value) : Block (w.alloc (.cells cs.toArray t)) w.heap.size t cs := heap_alloc_last w _
theorem Block.drewN {w : World} {b : Nat} {t : TypeId} {cs : List Value} (h : Block w b t cs) (n : Nat) : Block (w.drewN n) b t cs := h
theorem Block.below {w w' : World} {b B : Nat} {t : TypeId} {cs : List Value} (h : Block w b t cs) (hb : Below B w w') (hB : b < B) : Block w' b t cs := (hb.block b hB).trans h
theorem Block.later {w w' : World} {b : Nat} {t : TypeId} {cs : List Value} (h : Block w b t cs) (hb : Below w.heap.size w w') : Block w' b t cs := h.below hb h.lt
theorem Block.apart {w : World} {b : Nat} {t : TypeId} {cs : List Value} (h : Block w b t cs) (g o : Nat) (v : Value) (hg : b ≠ g) : Block (w.setCell ⟨g, o, none⟩ v) b t cs :=
  (Below.heap_setCell w ⟨g, o, none⟩ v b hg).trans h
theorem heap_setCells (g : Nat) : ∀ (vs : List Value) (o : Nat) (w : World) (k : Nat), k ≠ g → (w.setCells g o vs).heap[k]? = w.heap[k]?
  | [], _, _, _, _ => rfl
  | v :: r, o, w, k, h => (heap_setCells g r (o + 1) _ k h).trans (Below.heap_setCell w ⟨g, o, none⟩ v k h)
theorem size_setCells (g : Nat) : ∀ (vs : List Value) (o : Nat) (w : World), (w.setCells g o vs).heap.size = w.heap.size
  | [], _, _ => rfl
  | v :: r, o, w => (size_setCells g r (o + 1) _).trans (by simp)
theorem rest_setCells (g : Nat) : ∀ (vs : List Value) (o : Nat) (w : World), (w.setCells g o vs).os = w.os ∧ (w.setCells g o vs).tape = w.tape ∧ (w.setCells g o vs).output = w.output
  | [], _, _ => ⟨rfl, rfl, rfl⟩
  | v :: r, o, w => rest_setCells g r (o + 1) (w.setCell ⟨g, o, none⟩ v)
theorem Block.aparts {w : World} {b : Nat} {t : TypeId} {cs : List Value} (h : Block w b t cs) (g o : Nat) (vs : List Value) (hg : b ≠ g) : Block (w.setCells g o vs) b t cs :=
  (heap_setCells g vs o w b hg).trans h
theorem below_setCells {B g : Nat} {a w : World} (h : Below B a w) (hg : B ≤ g) (o : Nat) (vs : List Value) : Below B a (w.setCells g o vs) :=
  h.trans ⟨(rest_setCells g vs o w).1, (rest_setCells g vs o w).2.1, (rest_setCells g vs o w).2.2, by rw [size_setCells]; exact Nat.le_refl _, fun k hk => heap_setCells g vs o w k (by omega)⟩

/-- copy into a block -/
theorem wpList_copy_block {P : Program} {w : World} {ops : Array Oper} {rest : List Oper} {o : Oper} {a : Act} {Q : Exit → Act → World → Prop} (hgd : o.guard = none) (d s : Operand) (dT sT : TypeId)
    (ho : o.op = .call { callee := .builtin .copy, args := #[d, s], argTypes := #[dT, sT] }) (elem : TypeId) (hu : P.underlying dT = some (.slice elem)) (hsz : (P.info? elem).map (·.size) = some 1)
    (b off dLen dCap : Nat) (ad : Addr) (sLen sCap : Nat) (hd : a.eval d = .slice (some ⟨b, off, none⟩) dLen dCap) (hs : a.eval s = .slice (some ad) sLen sCap)
    (cs : List Value) (hn : cs.length = Nat.min sLen dLen) (hsrc : ∀ j v, cs[j]? = some v → w.cell? (ad.add j) = some v) (hth : w.there b off cs.length) (h1 : ∀ v ∈ cs, v.oneCell' = true)
    (h : wpList P ops Q rest (a.put o.dst (goInt cs.length)) (w.setCells b off cs)) : wpList P ops Q (o :: rest) a w := by
  refine wpList_plain hgd fun K hK => ?_
  have hrun := run_copy_cells (P := P) w dT sT o.type elem b off dLen dCap ad sLen sCap cs hu hsz hn hsrc (fun j hj => (hth j hj).1) (fun j hj => (hth j hj).2) h1
  unfold Oper.wp
  simp [execOp, ho, resolve, invoke, builtin, hd, hs, hrun, Result.andThen]
  exact hK _ _ h

/-- a store of a whole array; the world behind it gets a name -/
theorem wpList_store_named {P : Program} {w : World} {ops : Array Oper} {rest : List Oper} {op : Oper} {a : Act} {Q : Exit → Act → World → Prop} (hgd : op.guard = none) (ty : TypeId) (x y : Operand) (ho : op.op = .store ty x y)
    (b o : Nat) (cells : Array Value) (hx : a.eval x = .pointer (some ⟨b, o, none⟩)) (hy : a.eval y = .agg cells)
    (ht : w.there b o cells.size) (hi : (P.info? ty).map (·.size) = some cells.size) (h1 : cells.all (·.oneCell') = true)
    (h : ∀ w', Hid (w.setCells b o cells.toList = w') → wpList P ops Q rest (a.put op.dst undef) w') : wpList P ops Q (op :: rest) a w :=
  wpList_store_mid hgd ty x y ho b o cells hx hy ht hi h1 (h _ rfl)

/-- a result that is an array and lives in a variable -/
theorem results_cell {fn : Func} {p : Tmp} {ty : TypeId} {tmps : Array Value} {P : Program} {w : World} {b o : Nat} {cs : List Value} {d : TypeDesc} (h : fn.results = #[.cell p ty])
    (hp : tmps.getD p undef = .pointer (some ⟨b, o, none⟩)) (hc : w.rangeAt b o cs) (hu : P.underlying ty = some d) (hd : d.isRow = true) (hi : (P.info? ty).map (·.size) = some cs.length) :
    (results fn tmps).run P w = .ok (.agg cs.toArray) w := by
  simp only [results, h]
  simp at hp
  simp [hp, asAddr, run_loadVar_mid w b o ty cs d hc hu hd hi]

theorem ownsRow_later {w w' : World} {base e size n : Nat} {v : Value} {xs : List Value} (h : w.ownsRow base e size v n xs) (hb : Below w.heap.size w w') : w'.ownsRow base e size v n xs := by
  refine ⟨h.1, ?_⟩
  rcases h.2 with h0 | ⟨g, cap, cur, hv, h1, hg, h2, h3, h4, h5⟩
  · exact .inl h0
  · exact .inr ⟨g, cap, cur, hv, h1, (hb.block g (Array.getElem?_eq_some_iff.1 hg).1).trans hg, h2, h3, h4, h5⟩
/-- below B only block g may have changed -/
def But (B g : Nat) (w w' : World) : Prop :=
  w'.os = w.os ∧ w'.tape = w.tape ∧ w'.output = w.output ∧ w.heap.size ≤ w'.heap.size ∧ ∀ k, k < B → k ≠ g → w'.heap[k]? = w.heap[k]?
theorem But.refl (B g : Nat) (w : World) : But B g w w := ⟨rfl, rfl, rfl, Nat.le_refl _, fun _ _ _ => rfl⟩
theorem But.trans {B g : Nat} {a b c : World} (h : But B g a b) (k : But B g b c) : But B g a c :=
  ⟨k.1.trans h.1, k.2.1.trans h.2.1, k.2.2.1.trans h.2.2.1, Nat.le_trans h.2.2.2.1 k.2.2.2.1, fun j h1 h2 => (k.2.2.2.2 j h1 h2).trans (h.2.2.2.2 j h1 h2)⟩
theorem Below.but {B g : Nat} {a b : World} (h : Below B a b) : But B g a b := ⟨h.os, h.tape, h.output, h.size, fun k hk _ => h.block k hk⟩
theorem But.below {B B' g : Nat} {a b : World} (h : But B g a b) (hB : B' ≤ B) (hg : B' ≤ g) : Below B' a b := ⟨h.1, h.2.1, h.2.2.1, h.2.2.2.1, fun k hk => h.2.2.2.2 k (by omega) (by omega)⟩
theorem But.mono {B B' g : Nat} {a b : World} (h : But B g a b) (hB : B' ≤ B) : But B' g a b := ⟨h.1, h.2.1, h.2.2.1, h.2.2.2.1, fun k hk hg => h.2.2.2.2 k (by omega) hg⟩
theorem But.setCells {B g : Nat} {a w : World} (h : But B g a w) (o : Nat) (vs : List Value) : But B g a (w.setCells g o vs) :=
  h.trans ⟨(rest_setCells g vs o w).1, (rest_setCells g vs o w).2.1, (rest_setCells g vs o w).2.2, by rw [size_setCells]; exact Nat.le_refl _, fun k _ hg => heap_setCells g vs o w k hg⟩
theorem But.setCell {B g : Nat} {a w : World} (h : But B g a w) (o : Nat) (v : Value) : But B g a (w.setCell ⟨g, o, none⟩ v) := h.setCells o [v]
theorem But.step {B g : Nat} {a w w' : World} (h : But B g a w) (k : Below w.heap.size w w') (hB : B ≤ w.heap.size) : But B g a w' := h.trans (Below.but (k.mono hB))
theorem But.drewN {B g : Nat} {a w : World} (h : But B g a w) (n : Nat) : But B g a (w.drewN n) := h
theorem Block.but {w w' : World} {b B g : Nat} {t : TypeId} {cs : List Value} (h : Block w b t cs) (hb : But B g w w') (hB : b < B) (hg : b ≠ g) : Block w' b t cs := (hb.2.2.2.2 b hB hg).trans h
theorem Reads.but {k : IntKind} {w w' : World} {b off len B g : Nat} {xs : List Nat} (h : Reads k w (some ⟨b, off, none⟩) len xs) (hb : But B g w w') (hB : b < B) (hg : b ≠ g) : Reads k w' (some ⟨b, off, none⟩) len xs := by
  refine ⟨h.1, ?_⟩
  rcases h.2 with h | ⟨b', off', ha, hlt, hc⟩
  · exact .inl h
  · cases ha
    refine .inr ⟨b, off, rfl, Nat.lt_of_lt_of_le hlt hb.2.2.2.1, fun i hi => ?_⟩
    rw [World.cell?_of_block (w := w) (hb.2.2.2.2 b hB hg)]; exact hc i hi
/-- part of a block reads as numbers -/
theorem Block.reads {k : IntKind} {w : World} {b : Nat} {t : TypeId} {cs : List Value} (h : Block w b t cs) (o : Nat) (xs : List Nat) (hx : ∀ i, i < xs.length → cs[o + i]? = some (.int k ((xs.getD i 0 : Nat) : Int))) (n : Nat) (hn : xs.length = n) : Reads k w (some ⟨b, o, none⟩) n xs :=
  ⟨hn, .inr ⟨b, o, rfl, h.lt, fun i hi => by rw [h.cell]; exact hx i (by omega)⟩⟩
end Go.Proofs.Ytpdnfiofjkbeiaa
/- Contracts of layer 12 (field): within, unbounded, Right. No condition. -/
namespace Go.Proofs.Ytpdnfiofjkbeiaa.field
open Go.RowKit
set_option linter.unusedVariables false

/-- the call returns v, and nothing that was there has turned -/
def Gives (v : Value) (w : World) (e : Ending) (w' : World) : Prop := e = .returned v ∧ Below w.heap.size w w'
theorem newB (w : World) (d : Obj) : Below w.heap.size w (w.alloc d) := (Below.refl _ _).alloc (Nat.le_refl _) _
/-- a field that has just been boxed stays -/
theorem five (f : Fd) (w w' : World) (hb : Below (w.alloc (.cells #[.int .i64 f.id, .int .i64 f.kind, .int .i64 f.lo, .int .i64 f.hi, .int .i64 f.most] 23)).heap.size (w.alloc (.cells #[.int .i64 f.id, .int .i64 f.kind, .int .i64 f.lo, .int .i64 f.hi, .int .i64 f.most] 23)) w') : (w'.cell? ⟨w.heap.size, 0, none⟩ = some (.int .i64 f.id) ∧ w'.cell? ⟨w.heap.size, 1, none⟩ = some (.int .i64 f.kind) ∧ w'.cell? ⟨w.heap.size, 2, none⟩ = some (.int .i64 f.lo) ∧ w'.cell? ⟨w.heap.size, 3, none⟩ = some (.int .i64 f.hi) ∧ w'.cell? ⟨w.heap.size, 4, none⟩ = some (.int .i64 f.most)) := by
  have hB := (Block.new w 23 [.int .i64 f.id, .int .i64 f.kind, .int .i64 f.lo, .int .i64 f.hi, .int .i64 f.most]).later hb
  exact ⟨hB.cell 0, hB.cell 1, hB.cell 2, hB.cell 3, hB.cell 4⟩
theorem belowF (f : Fd) (w w' : World) (hb : Below (w.alloc (.cells #[.int .i64 f.id, .int .i64 f.kind, .int .i64 f.lo, .int .i64 f.hi, .int .i64 f.most] 23)).heap.size (w.alloc (.cells #[.int .i64 f.id, .int .i64 f.kind, .int .i64 f.lo, .int .i64 f.hi, .int .i64 f.most] 23)) w') : Below w.heap.size w w' := ((Below.refl _ _).alloc (Nat.le_refl _) _).trans (hb.mono (by simp))

theorem within_yes (n lo hi : Int) (w : World) (h1 : lo ≤ n) (h2 : n ≤ hi) : Calls Try.prog 72 #[.int .i64 n, .int .i64 lo, .int .i64 hi] w fun e w' => e = .returned (.bool true) ∧ w = w' := by
  go_enter Try.func72, Try.ntmps72
  go_wp2
  go_ret
  exact ⟨rfl, rfl⟩
theorem within_no (n lo hi : Int) (w : World) (h : n < lo ∨ hi < n) : Calls Try.prog 72 #[.int .i64 n, .int .i64 lo, .int .i64 hi] w fun e w' => e = .returned (.bool false) ∧ w = w' := by
  by_cases h1 : n < lo
  · clear h
    go_enter Try.func72, Try.ntmps72
    go_wp2
    go_ret
    exact ⟨rfl, rfl⟩
  · have h2 : hi < n := by omega
    have h3 : lo ≤ n := by omega
    have hd : decide (n ≤ hi) = false := decide_eq_false (by omega)
    clear h h1
    go_enter Try.func72, Try.ntmps72
    go_wp2
    go_ret
    exact ⟨rfl, rfl⟩
theorem unbounded_yes (i k m : Int) (w : World) : Calls Try.prog 73 #[.agg #[.int .i64 i, .int .i64 k, .int .i64 0, .int .i64 0, .int .i64 m]] w (Gives (.bool true) w) := by
  unfold Gives
  go_enter Try.func73, Try.ntmps73
  go_wp2
  go_ret
  exact ⟨rfl, newB _ _⟩
theorem unbounded_no (i k lo hi m : Int) (h : lo ≠ 0 ∨ hi ≠ 0) (w : World) : Calls Try.prog 73 #[.agg #[.int .i64 i, .int .i64 k, .int .i64 lo, .int .i64 hi, .int .i64 m]] w (Gives (.bool false) w) := by
  unfold Gives
  by_cases h1 : lo = 0
  · have h2 : (hi == 0) = false := by rw [beq_eq_false_iff_ne]; omega
    subst h1
    clear h
    go_enter Try.func73, Try.ntmps73
    go_wp2
    go_ret
    exact ⟨rfl, newB _ _⟩
  · have h2 : (lo == 0) = false := by rw [beq_eq_false_iff_ne]; omega
    clear h h1
    go_enter Try.func73, Try.ntmps73
    go_wp2
    go_ret
    exact ⟨rfl, newB _ _⟩
theorem right_yes (f : Fd) (h : f.Right) (w : World) : Calls Try.prog 48 #[.agg #[.int .i64 f.id, .int .i64 f.kind, .int .i64 f.lo, .int .i64 f.hi, .int .i64 f.most]] w (Gives (.bool true) w) := by
  have HB := hid (belowF f w)
  have HS := hid (five f w)
  obtain ⟨i, k, lo, hi, m⟩ := f
  obtain ⟨⟨h1, h2⟩, h⟩ := h
  simp only at h h1 h2 HB HS ⊢
  have hw0 := within_yes i 0 255 (w.alloc (.cells #[.int .i64 i, .int .i64 k, .int .i64 lo, .int .i64 hi, .int .i64 m] 23)) h1 h2
  clear h1 h2
  unfold Gives
  rcases h with ⟨rfl, h1, h2, h3, rfl⟩ | ⟨rfl, ⟨rfl, rfl⟩, rfl⟩ | ⟨rfl, ⟨rfl, rfl⟩, h1, h2⟩ | ⟨rfl, ⟨rfl, rfl⟩, h1, h2⟩
  all_goals
    go_enter Try.func48, Try.ntmps48
    go_wp2_with (first
      | (go_at_call 72; (with_reducible refine hw0.mono ?_); rintro e w' ⟨rfl, rfl⟩; clear hw0)
      | (go_at_call 72; (with_reducible refine (within_yes _ _ _ _ h1 h2).mono ?_); rintro e w' ⟨rfl, rfl⟩)
      | (go_at_call 73; (with_reducible refine (unbounded_yes _ _ _ _).mono ?_); rintro e w1 ⟨rfl, hb1⟩; have hk1 := HS.out w1 hb1))
    go_ret
    exact ⟨rfl, HB.out _ (by first | assumption | exact Below.refl _ _)⟩
/-- why a field is not right -/
theorem Fd.wrong {i k lo hi m : Int} (h : ¬ (⟨i, k, lo, hi, m⟩ : Fd).Right) : (i < 0 ∨ 255 < i) ∨ ((0 ≤ i ∧ i ≤ 255) ∧ (
    (k = 1 ∧ ((lo > hi) ∨ (lo ≤ hi ∧ lo < -1099511627776) ∨ (lo ≤ hi ∧ -1099511627776 ≤ lo ∧ 1099511627776 < hi) ∨ (lo ≤ hi ∧ -1099511627776 ≤ lo ∧ hi ≤ 1099511627776 ∧ m ≠ 0))) ∨
    (k = 2 ∧ ((lo ≠ 0 ∨ hi ≠ 0) ∨ ((lo = 0 ∧ hi = 0) ∧ m ≠ 0))) ∨
    (k = 3 ∧ ((lo ≠ 0 ∨ hi ≠ 0) ∨ ((lo = 0 ∧ hi = 0) ∧ (m < 1 ∨ 1000 < m)))) ∨
    (k = 4 ∧ ((lo ≠ 0 ∨ hi ≠ 0) ∨ ((lo = 0 ∧ hi = 0) ∧ (m < 0 ∨ 32 < m)))) ∨
    (k ≠ 1 ∧ k ≠ 2 ∧ k ≠ 3 ∧ k ≠ 4))) := by
  unfold Fd.Right at h
  simp only at h
  omega
theorem right_no (f : Fd) (h : ¬ f.Right) (w : World) : Calls Try.prog 48 #[.agg #[.int .i64 f.id, .int .i64 f.kind, .int .i64 f.lo, .int .i64 f.hi, .int .i64 f.most]] w (Gives (.bool false) w) := by
  have HB := hid (belowF f w)
  have HS := hid (five f w)
  obtain ⟨i, k, lo, hi, m⟩ := f
  replace h := Fd.wrong h
  simp only at h HB HS ⊢
  unfold Gives
  rcases h with hn | ⟨⟨h1, h2⟩, h⟩
  · have hw0 := within_no i 0 255 (w.alloc (.cells #[.int .i64 i, .int .i64 k, .int .i64 lo, .int .i64 hi, .int .i64 m] 23)) hn
    clear hn
    go_enter Try.func48, Try.ntmps48
    go_wp2_with (go_at_call 72; (with_reducible refine hw0.mono ?_); rintro e w' ⟨rfl, rfl⟩; clear hw0)
    go_ret
    exact ⟨rfl, HB.out _ (Below.refl _ _)⟩
  have hw0 := within_yes i 0 255 (w.alloc (.cells #[.int .i64 i, .int .i64 k, .int .i64 lo, .int .i64 hi, .int .i64 m] 23)) h1 h2
  clear h1 h2
  rcases h with ⟨rfl, h⟩ | ⟨rfl, h⟩ | ⟨rfl, h⟩ | ⟨rfl, h⟩ | ⟨n1, n2, n3, n4⟩
  · rcases h with h | ⟨h1, h⟩ | ⟨h1, h2, h⟩ | ⟨h1, h2, h3, h⟩
    · have hd : decide (lo ≤ hi) = false := decide_eq_false (by omega)
      clear h
      go_enter Try.func48, Try.ntmps48
      go_wp2_with (first
        | (go_at_call 72; (with_reducible refine hw0.mono ?_); rintro e w' ⟨rfl, rfl⟩; clear hw0)
        | (go_at_call 72; (with_reducible refine (within_no _ _ _ _ hn).mono ?_); rintro e w' ⟨rfl, rfl⟩)
        | (go_at_call 73; (with_reducible refine (unbounded_yes _ _ _ _).mono ?_); rintro e w1 ⟨rfl, hb1⟩; have hk1 := HS.out w1 hb1)
        | (go_at_call 73; (with_reducible refine (unbounded_no _ _ _ _ _ hn _).mono ?_); rintro e w1 ⟨rfl, hb1⟩; have hk1 := HS.out w1 hb1))
      go_ret
      exact ⟨rfl, HB.out _ (by first | assumption | exact Below.refl _ _)⟩
    · have hd : decide (lo ≥ -1099511627776) = false := decide_eq_false (by omega)
      clear h
      go_enter Try.func48, Try.ntmps48
      go_wp2_with (first
        | (go_at_call 72; (with_reducible refine hw0.mono ?_); rintro e w' ⟨rfl, rfl⟩; clear hw0)
        | (go_at_call 72; (with_reducible refine (within_no _ _ _ _ hn).mono ?_); rintro e w' ⟨rfl, rfl⟩)
        | (go_at_call 73; (with_reducible refine (unbounded_yes _ _ _ _).mono ?_); rintro e w1 ⟨rfl, hb1⟩; have hk1 := HS.out w1 hb1)
        | (go_at_call 73; (with_reducible refine (unbounded_no _ _ _ _ _ hn _).mono ?_); rintro e w1 ⟨rfl, hb1⟩; have hk1 := HS.out w1 hb1))
      go_ret
      exact ⟨rfl, HB.out _ (by first | assumption | exact Below.refl _ _)⟩
    · have hd : decide (hi ≤ 1099511627776) = false := decide_eq_false (by omega)
      have h2' : lo ≥ -1099511627776 := h2
      clear h
      go_enter Try.func48, Try.ntmps48
      go_wp2_with (first
        | (go_at_call 72; (with_reducible refine hw0.mono ?_); rintro e w' ⟨rfl, rfl⟩; clear hw0)
        | (go_at_call 72; (with_reducible refine (within_no _ _ _ _ hn).mono ?_); rintro e w' ⟨rfl, rfl⟩)
        | (go_at_call 73; (with_reducible refine (unbounded_yes _ _ _ _).mono ?_); rintro e w1 ⟨rfl, hb1⟩; have hk1 := HS.out w1 hb1)
        | (go_at_call 73; (with_reducible refine (unbounded_no _ _ _ _ _ hn _).mono ?_); rintro e w1 ⟨rfl, hb1⟩; have hk1 := HS.out w1 hb1))
      go_ret
      exact ⟨rfl, HB.out _ (by first | assumption | exact Below.refl _ _)⟩
    · have hd : (m == 0) = false := by rw [beq_eq_false_iff_ne]; exact h
      have h2' : lo ≥ -1099511627776 := h2
      clear h
      go_enter Try.func48, Try.ntmps48
      go_wp2_with (first
        | (go_at_call 72; (with_reducible refine hw0.mono ?_); rintro e w' ⟨rfl, rfl⟩; clear hw0)
        | (go_at_call 72; (with_reducible refine (within_no _ _ _ _ hn).mono ?_); rintro e w' ⟨rfl, rfl⟩)
        | (go_at_call 73; (with_reducible refine (unbounded_yes _ _ _ _).mono ?_); rintro e w1 ⟨rfl, hb1⟩; have hk1 := HS.out w1 hb1)
        | (go_at_call 73; (with_reducible refine (unbounded_no _ _ _ _ _ hn _).mono ?_); rintro e w1 ⟨rfl, hb1⟩; have hk1 := HS.out w1 hb1))
      go_ret
      exact ⟨rfl, HB.out _ (by first | assumption | exact Below.refl _ _)⟩
  · rcases h with hn | ⟨⟨rfl, rfl⟩, h⟩
    · go_enter Try.func48, Try.ntmps48
      go_wp2_with (first
        | (go_at_call 72; (with_reducible refine hw0.mono ?_); rintro e w' ⟨rfl, rfl⟩; clear hw0)
        | (go_at_call 72; (with_reducible refine (within_no _ _ _ _ hn).mono ?_); rintro e w' ⟨rfl, rfl⟩)
        | (go_at_call 73; (with_reducible refine (unbounded_yes _ _ _ _).mono ?_); rintro e w1 ⟨rfl, hb1⟩; have hk1 := HS.out w1 hb1)
        | (go_at_call 73; (with_reducible refine (unbounded_no _ _ _ _ _ hn _).mono ?_); rintro e w1 ⟨rfl, hb1⟩; have hk1 := HS.out w1 hb1))
      go_ret
      exact ⟨rfl, HB.out _ (by first | assumption | exact Below.refl _ _)⟩
    · have hd : (m == 0) = false := by rw [beq_eq_false_iff_ne]; exact h
      clear h
      go_enter Try.func48, Try.ntmps48
      go_wp2_with (first
        | (go_at_call 72; (with_reducible refine hw0.mono ?_); rintro e w' ⟨rfl, rfl⟩; clear hw0)
        | (go_at_call 72; (with_reducible refine (within_no _ _ _ _ hn).mono ?_); rintro e w' ⟨rfl, rfl⟩)
        | (go_at_call 73; (with_reducible refine (unbounded_yes _ _ _ _).mono ?_); rintro e w1 ⟨rfl, hb1⟩; have hk1 := HS.out w1 hb1)
        | (go_at_call 73; (with_reducible refine (unbounded_no _ _ _ _ _ hn _).mono ?_); rintro e w1 ⟨rfl, hb1⟩; have hk1 := HS.out w1 hb1))
      go_ret
      exact ⟨rfl, HB.out _ (by first | assumption | exact Below.refl _ _)⟩
  · rcases h with hn | ⟨⟨rfl, rfl⟩, hn⟩
    · go_enter Try.func48, Try.ntmps48
      go_wp2_with (first
        | (go_at_call 72; (with_reducible refine hw0.mono ?_); rintro e w' ⟨rfl, rfl⟩; clear hw0)
        | (go_at_call 72; (with_reducible refine (within_no _ _ _ _ hn).mono ?_); rintro e w' ⟨rfl, rfl⟩)
        | (go_at_call 73; (with_reducible refine (unbounded_yes _ _ _ _).mono ?_); rintro e w1 ⟨rfl, hb1⟩; have hk1 := HS.out w1 hb1)
        | (go_at_call 73; (with_reducible refine (unbounded_no _ _ _ _ _ hn _).mono ?_); rintro e w1 ⟨rfl, hb1⟩; have hk1 := HS.out w1 hb1))
      go_ret
      exact ⟨rfl, HB.out _ (by first | assumption | exact Below.refl _ _)⟩
    · go_enter Try.func48, Try.ntmps48
      go_wp2_with (first
        | (go_at_call 72; (with_reducible refine hw0.mono ?_); rintro e w' ⟨rfl, rfl⟩; clear hw0)
        | (go_at_call 72; (with_reducible refine (within_no _ _ _ _ hn).mono ?_); rintro e w' ⟨rfl, rfl⟩)
        | (go_at_call 73; (with_reducible refine (unbounded_yes _ _ _ _).mono ?_); rintro e w1 ⟨rfl, hb1⟩; have hk1 := HS.out w1 hb1)
        | (go_at_call 73; (with_reducible refine (unbounded_no _ _ _ _ _ hn _).mono ?_); rintro e w1 ⟨rfl, hb1⟩; have hk1 := HS.out w1 hb1))
      go_ret
      exact ⟨rfl, HB.out _ (by first | assumption | exact Below.refl _ _)⟩
  · rcases h with hn | ⟨⟨rfl, rfl⟩, hn⟩
    · go_enter Try.func48, Try.ntmps48
      go_wp2_with (first
        | (go_at_call 72; (with_reducible refine hw0.mono ?_); rintro e w' ⟨rfl, rfl⟩; clear hw0)
        | (go_at_call 72; (with_reducible refine (within_no _ _ _ _ hn).mono ?_); rintro e w' ⟨rfl, rfl⟩)
        | (go_at_call 73; (with_reducible refine (unbounded_yes _ _ _ _).mono ?_); rintro e w1 ⟨rfl, hb1⟩; have hk1 := HS.out w1 hb1)
        | (go_at_call 73; (with_reducible refine (unbounded_no _ _ _ _ _ hn _).mono ?_); rintro e w1 ⟨rfl, hb1⟩; have hk1 := HS.out w1 hb1))
      go_ret
      exact ⟨rfl, HB.out _ (by first | assumption | exact Below.refl _ _)⟩
    · go_enter Try.func48, Try.ntmps48
      go_wp2_with (first
        | (go_at_call 72; (with_reducible refine hw0.mono ?_); rintro e w' ⟨rfl, rfl⟩; clear hw0)
        | (go_at_call 72; (with_reducible refine (within_no _ _ _ _ hn).mono ?_); rintro e w' ⟨rfl, rfl⟩)
        | (go_at_call 73; (with_reducible refine (unbounded_yes _ _ _ _).mono ?_); rintro e w1 ⟨rfl, hb1⟩; have hk1 := HS.out w1 hb1)
        | (go_at_call 73; (with_reducible refine (unbounded_no _ _ _ _ _ hn _).mono ?_); rintro e w1 ⟨rfl, hb1⟩; have hk1 := HS.out w1 hb1))
      go_ret
      exact ⟨rfl, HB.out _ (by first | assumption | exact Below.refl _ _)⟩
  · have e1 : (k == 1) = false := by rw [beq_eq_false_iff_ne]; exact n1
    have e2 : (k == 2) = false := by rw [beq_eq_false_iff_ne]; exact n2
    have e3 : (k == 3) = false := by rw [beq_eq_false_iff_ne]; exact n3
    have e4 : (k == 4) = false := by rw [beq_eq_false_iff_ne]; exact n4
    clear n1 n2 n3 n4
    go_enter Try.func48, Try.ntmps48
    go_wp2_with (first
      | (go_at_call 72; (with_reducible refine hw0.mono ?_); rintro e w' ⟨rfl, rfl⟩; clear hw0)
      | (go_at_call 72; (with_reducible refine (within_no _ _ _ _ hn).mono ?_); rintro e w' ⟨rfl, rfl⟩)
      | (go_at_call 73; (with_reducible refine (unbounded_yes _ _ _ _).mono ?_); rintro e w1 ⟨rfl, hb1⟩; have hk1 := HS.out w1 hb1)
      | (go_at_call 73; (with_reducible refine (unbounded_no _ _ _ _ _ hn _).mono ?_); rintro e w1 ⟨rfl, hb1⟩; have hk1 := HS.out w1 hb1))
    go_ret
    exact ⟨rfl, HB.out _ (by first | assumption | exact Below.refl _ _)⟩
theorem right_any (f : Fd) (w : World) : Calls Try.prog 48 #[.agg #[.int .i64 f.id, .int .i64 f.kind, .int .i64 f.lo, .int .i64 f.hi, .int .i64 f.most]] w (Gives (.bool (decide f.Right)) w) := by
  by_cases h : f.Right
  · rw [decide_eq_true h]; exact right_yes f h w
  · rw [decide_eq_false h]; exact right_no f h w
end Go.Proofs.Ytpdnfiofjkbeiaa.field
/- Contract of bits.Len: how many bytes hold a number, in bits. No condition but a number below 2^48. -/
namespace Go.Proofs.Ytpdnfiofjkbeiaa.field
open Go.RowKit
set_option linter.unusedVariables false

theorem dec_no {p : Prop} [Decidable p] (h : ¬ p) : decide p = false := decide_eq_false h
theorem wrap_u8 {x : Int} {n : Nat} (h : x = (n : Int)) (hn : n < 256) : IntKind.u8.wrap x = (n : Int) := by subst h; simp [IntKind.wrap, IntKind.bits, IntKind.signed]; omega
theorem len_sum {q : Nat} (a : Int) (h0 : 0 ≤ a) (ha : a ≤ 40) (hq : q ≤ 8) : wrap64 (a + wrap64 (q : Int)) = a + (q : Int) := by
  rw [IntWalk.wrap64_in (q : Int) (by omega), IntWalk.wrap64_in _ (by omega)]
theorem len_one {q : Nat} (hq : q ≤ 8) : wrap64 (wrap64 (q : Int)) = (q : Int) := by
  rw [IntWalk.wrap64_in (q : Int) (by omega), IntWalk.wrap64_in _ (by omega)]
set_option maxRecDepth 1000000 in
set_option maxHeartbeats 4000000 in
theorem len64_any (x : Nat) (hx : x < 281474976710656) (w : World) :
    Calls Try.prog 94 #[.int .u64 (x : Int)] w fun e w' => ∃ L : Nat, e = .returned (.int .i64 (L : Int)) ∧ L ≤ 64 ∧ (L + 7) / 8 = wide x ∧ ∃ n, w' = w.drewN n := by
  go_enter Try.func94, Try.ntmps94
  generalize hT : ByteArray.mk _ = T
  have hs : T.size = 256 := by rw [← hT]; decide +kernel
  have ht0 : ∀ i : Fin 256, (T.data.getD i.val 0).toNat ≤ 8 ∧ ((T.data.getD i.val 0).toNat = 0 ↔ i.val = 0) := by rw [← hT]; decide +kernel
  have ht : ∀ (i : Nat) (h : i < T.size), i < 256 → (T[i]'h).toNat ≤ 8 ∧ ((T[i]'h).toNat = 0 ↔ i = 0) := fun i h hi => by
    have := ht0 ⟨i, hi⟩
    have h' : i < T.data.size := h
    simp only [Array.getD, h', dif_pos] at this
    exact this
  have HT := hid ht
  have HS := hid hs
  have hT1 : ∀ i : Nat, i < 256 → (i : Int) < T.size := fun i hi => by rw [hs]; omega
  have HT1 := hid hT1
  have HX := hid hx
  clear hT hs ht ht0 hT1 hx
  by_cases c0 : x < 256
  · have hw : wide x = if x = 0 then 0 else 1 := by unfold wide; rw [if_pos c0]
    have HW := hid hw
    obtain ⟨y, hy⟩ : ∃ y, Hid (x / 1 = y) := ⟨_, rfl⟩
    have hy256 : y < 256 := by have := hy.out; have := HX.out; omega
    have j0 : (0 : Int) ≤ (y : Int) := by omega
    have j1 := HT1.out y hy256
    have t4294967296 : ¬ (x : Int) ≥ 4294967296 := by have := HX.out; omega
    have u4294967296 := dec_no t4294967296
    have t65536 : ¬ (x : Int) ≥ 65536 := by have := HX.out; omega
    have u65536 := dec_no t65536
    have t256 : ¬ (x : Int) ≥ 256 := by have := HX.out; omega
    have u256 := dec_no t256
    have hwr : IntKind.u8.wrap ((x : Int)) = (y : Int) := wrap_u8 (by have := hy.out; omega) hy256
    clear hw
    clear c0
    go_wp2
    go_ret
    have b := HT.out y (by have := HS.out; omega) hy256
    refine ⟨0 + (T[y]'(by have := HS.out; omega)).toNat, ret_int ((len_one b.1).trans (by omega)), by omega, ?_, 0, rfl⟩
    rw [HW.out]
    have := hy.out
    split <;> omega
  by_cases c1 : x < 65536
  · have hw : wide x = 2 := by have := HX.out; unfold wide; rw [if_neg (by omega)]; rw [if_neg (by omega)]; rw [if_pos (by omega)]
    have HW := hid hw
    obtain ⟨y, hy⟩ : ∃ y, Hid (x / 256 = y) := ⟨_, rfl⟩
    have hy256 : y < 256 := by have := hy.out; have := HX.out; omega
    have j0 : (0 : Int) ≤ (y : Int) := by omega
    have j1 := HT1.out y hy256
    have t4294967296 : ¬ (x : Int) ≥ 4294967296 := by have := HX.out; omega
    have u4294967296 := dec_no t4294967296
    have t65536 : ¬ (x : Int) ≥ 65536 := by have := HX.out; omega
    have u65536 := dec_no t65536
    have t256 : (x : Int) ≥ 256 := by have := HX.out; omega
    have hwr : IntKind.u8.wrap ((x : Int) / 256) = (y : Int) := wrap_u8 (by have := hy.out; omega) hy256
    clear hw
    clear c0 c1
    go_wp2
    go_ret
    have b := HT.out y (by have := HS.out; omega) hy256
    refine ⟨8 + (T[y]'(by have := HS.out; omega)).toNat, ret_int ((len_sum 8 (by omega) (by omega) b.1).trans (by omega)), by omega, ?_, 0, rfl⟩
    rw [HW.out]
    have := hy.out
    omega
  by_cases c2 : x < 16777216
  · have hw : wide x = 3 := by have := HX.out; unfold wide; rw [if_neg (by omega)]; rw [if_neg (by omega)]; rw [if_neg (by omega)]; rw [if_pos (by omega)]
    have HW := hid hw
    obtain ⟨y, hy⟩ : ∃ y, Hid (x / 65536 = y) := ⟨_, rfl⟩
    have hy256 : y < 256 := by have := hy.out; have := HX.out; omega
    have j0 : (0 : Int) ≤ (y : Int) := by omega
    have j1 := HT1.out y hy256
    have t4294967296 : ¬ (x : Int) ≥ 4294967296 := by have := HX.out; omega
    have u4294967296 := dec_no t4294967296
    have t65536 : (x : Int) ≥ 65536 := by have := HX.out; omega
    have t256 : ¬ (x : Int) / 65536 ≥ 256 := by have := HX.out; omega
    have u256 := dec_no t256
    have hwr : IntKind.u8.wrap ((x : Int) / 65536) = (y : Int) := wrap_u8 (by have := hy.out; omega) hy256
    clear hw
    clear c0 c1 c2
    go_wp2
    go_ret
    have b := HT.out y (by have := HS.out; omega) hy256
    refine ⟨16 + (T[y]'(by have := HS.out; omega)).toNat, ret_int ((len_sum 16 (by omega) (by omega) b.1).trans (by omega)), by omega, ?_, 0, rfl⟩
    rw [HW.out]
    have := hy.out
    omega
  by_cases c3 : x < 4294967296
  · have hw : wide x = 4 := by have := HX.out; unfold wide; rw [if_neg (by omega)]; rw [if_neg (by omega)]; rw [if_neg (by omega)]; rw [if_neg (by omega)]; rw [if_pos (by omega)]
    have HW := hid hw
    obtain ⟨y, hy⟩ : ∃ y, Hid (x / 16777216 = y) := ⟨_, rfl⟩
    have hy256 : y < 256 := by have := hy.out; have := HX.out; omega
    have j0 : (0 : Int) ≤ (y : Int) := by omega
    have j1 := HT1.out y hy256
    have t4294967296 : ¬ (x : Int) ≥ 4294967296 := by have := HX.out; omega
    have u4294967296 := dec_no t4294967296
    have t65536 : (x : Int) ≥ 65536 := by have := HX.out; omega
    have t256 : (x : Int) / 65536 ≥ 256 := by have := HX.out; omega
    have hwr : IntKind.u8.wrap ((x : Int) / 65536 / 256) = (y : Int) := wrap_u8 (by have := hy.out; omega) hy256
    clear hw
    clear c0 c1 c2 c3
    go_wp2
    go_ret
    have b := HT.out y (by have := HS.out; omega) hy256
    refine ⟨24 + (T[y]'(by have := HS.out; omega)).toNat, ret_int ((len_sum 24 (by omega) (by omega) b.1).trans (by omega)), by omega, ?_, 0, rfl⟩
    rw [HW.out]
    have := hy.out
    omega
  by_cases c4 : x < 1099511627776
  · have hw : wide x = 5 := by have := HX.out; unfold wide; rw [if_neg (by omega)]; rw [if_neg (by omega)]; rw [if_neg (by omega)]; rw [if_neg (by omega)]; rw [if_neg (by omega)]; rw [if_pos (by omega)]
    have HW := hid hw
    obtain ⟨y, hy⟩ : ∃ y, Hid (x / 4294967296 = y) := ⟨_, rfl⟩
    have hy256 : y < 256 := by have := hy.out; have := HX.out; omega
    have j0 : (0 : Int) ≤ (y : Int) := by omega
    have j1 := HT1.out y hy256
    have t4294967296 : (x : Int) ≥ 4294967296 := by have := HX.out; omega
    have t65536 : ¬ (x : Int) / 4294967296 ≥ 65536 := by have := HX.out; omega
    have u65536 := dec_no t65536
    have t256 : ¬ (x : Int) / 4294967296 ≥ 256 := by have := HX.out; omega
    have u256 := dec_no t256
    have hwr : IntKind.u8.wrap ((x : Int) / 4294967296) = (y : Int) := wrap_u8 (by have := hy.out; omega) hy256
    clear hw
    clear c0 c1 c2 c3 c4
    go_wp2
    go_ret
    have b := HT.out y (by have := HS.out; omega) hy256
    refine ⟨32 + (T[y]'(by have := HS.out; omega)).toNat, ret_int ((len_sum 32 (by omega) (by omega) b.1).trans (by omega)), by omega, ?_, 0, rfl⟩
    rw [HW.out]
    have := hy.out
    omega
  have hw : wide x = 6 := by have := HX.out; unfold wide; rw [if_neg (by omega)]; rw [if_neg (by omega)]; rw [if_neg (by omega)]; rw [if_neg (by omega)]; rw [if_neg (by omega)]; rw [if_neg (by omega)]
  have HW := hid hw
  obtain ⟨y, hy⟩ : ∃ y, Hid (x / 1099511627776 = y) := ⟨_, rfl⟩
  have hy256 : y < 256 := by have := hy.out; have := HX.out; omega
  have j0 : (0 : Int) ≤ (y : Int) := by omega
  have j1 := HT1.out y hy256
  have t4294967296 : (x : Int) ≥ 4294967296 := by have := HX.out; omega
  have t65536 : ¬ (x : Int) / 4294967296 ≥ 65536 := by have := HX.out; omega
  have u65536 := dec_no t65536
  have t256 : (x : Int) / 4294967296 ≥ 256 := by have := HX.out; omega
  have hwr : IntKind.u8.wrap ((x : Int) / 4294967296 / 256) = (y : Int) := wrap_u8 (by have := hy.out; omega) hy256
  clear hw
  clear c0 c1 c2 c3 c4
  go_wp2
  go_ret
  have b := HT.out y (by have := HS.out; omega) hy256
  refine ⟨40 + (T[y]'(by have := HS.out; omega)).toNat, ret_int ((len_sum 40 (by omega) (by omega) b.1).trans (by omega)), by omega, ?_, 0, rfl⟩
  rw [HW.out]
  have := hy.out
  omega
theorem len_any (x : Nat) (hx : x < 281474976710656) (w : World) :
    Calls Try.prog 91 #[.int .u64 (x : Int)] w fun e w' => ∃ L : Nat, e = .returned (.int .i64 (L : Int)) ∧ L ≤ 64 ∧ (L + 7) / 8 = wide x ∧ ∃ n, w' = w.drewN n := by
  have cl := len64_any x hx
  have HX := hid hx
  clear hx
  go_enter Try.func91, Try.ntmps91
  go_wp2_with (go_at_call 94; (with_reducible refine (cl _).mono ?_); rintro e w' ⟨L, rfl, h1, h2, m, rfl⟩)
  go_ret
  exact ⟨L, rfl, h1, h2, m, rfl⟩
end Go.Proofs.Ytpdnfiofjkbeiaa.field
/- Contracts of layer 12 (field): greatest, top. No condition but a right field. -/
namespace Go.Proofs.Ytpdnfiofjkbeiaa.field
open Go.RowKit
set_option linter.unusedVariables false

theorem kinds {f : Fd} (h : f.Right) : f.kind = 1 ∨ f.kind = 2 ∨ f.kind = 3 ∨ f.kind = 4 := by unfold Fd.Right at h; omega
theorem greatest_any (f : Fd) (h : f.Right) (w : World) : Calls Try.prog 74 #[.agg #[.int .i64 f.id, .int .i64 f.kind, .int .i64 f.lo, .int .i64 f.hi, .int .i64 f.most]] w (Gives (.int .i64 f.great) w) := by
  have hk := kinds h
  have hs := h.span
  obtain ⟨i, k, lo, hi, m⟩ := f
  simp only at hk ⊢
  have hm : k = 3 → 1 ≤ m ∧ m ≤ 1000 := by intro h3; unfold Fd.Right at h; simp only at h; omega
  clear h hs
  unfold Gives
  rcases hk with rfl | rfl | rfl | rfl
  · rw [show Fd.great ⟨i, 1, lo, hi, m⟩ = hi from rfl]
    clear hm
    go_enter Try.func74, Try.ntmps74
    go_wp2
    go_ret
    exact ⟨rfl, newB _ _⟩
  · rw [show Fd.great ⟨i, 2, lo, hi, m⟩ = 1 from rfl]
    clear hm
    go_enter Try.func74, Try.ntmps74
    go_wp2
    go_ret
    exact ⟨rfl, newB _ _⟩
  · rw [show Fd.great ⟨i, 3, lo, hi, m⟩ = m - 1 from rfl]
    obtain ⟨m1, m2⟩ := hm rfl
    clear hm
    go_enter Try.func74, Try.ntmps74
    go_wp2
    go_ret
    exact ⟨rfl, newB _ _⟩
  · rw [show Fd.great ⟨i, 4, lo, hi, m⟩ = 0 from rfl]
    clear hm
    go_enter Try.func74, Try.ntmps74
    go_wp2
    go_ret
    exact ⟨rfl, newB _ _⟩
/-- the same, seen from an elder world -/
theorem gives_from {P : Program} {F : FuncId} {args : Array Value} {v : Value} {w0 w : World} (h : Calls P F args w (Gives v w)) (hb : Below w0.heap.size w0 w) : Calls P F args w fun e w' => e = .returned v ∧ Below w0.heap.size w0 w' :=
  h.mono fun _ _ ⟨he, hw⟩ => ⟨he, hb.trans (hw.mono hb.size)⟩
theorem top_any (f : Fd) (h : f.Right) (w : World) : Calls Try.prog 92 #[.agg #[.int .i64 f.id, .int .i64 f.kind, .int .i64 f.lo, .int .i64 f.hi, .int .i64 f.most]] w (Gives (.int .i64 (f.great - f.lo)) w) := by
  have HS := hid (five f w)
  have HB := hid (belowF f w)
  have hs := h.span
  have s1 := hs.1
  have s2 := hs.2.1
  have hb0 : Below (w.alloc (.cells #[.int .i64 f.id, .int .i64 f.kind, .int .i64 f.lo, .int .i64 f.hi, .int .i64 f.most] 23)).heap.size (w.alloc (.cells #[.int .i64 f.id, .int .i64 f.kind, .int .i64 f.lo, .int .i64 f.hi, .int .i64 f.most] 23)) (w.alloc (.cells #[.int .i64 f.id, .int .i64 f.kind, .int .i64 f.lo, .int .i64 f.hi, .int .i64 f.most] 23)).drew := below_drewN (Below.refl _ _) 1
  have cg := gives_from (greatest_any f h (w.alloc (.cells #[.int .i64 f.id, .int .i64 f.kind, .int .i64 f.lo, .int .i64 f.hi, .int .i64 f.most] 23)).drew) hb0
  have hk0 := HS.out _ hb0
  clear h hs
  unfold Gives
  generalize f.great = G at *
  go_enter Try.func92, Try.ntmps92
  go_wp2
  go_region_held3 (fun w' => (w'.cell? ⟨w.heap.size, 0, none⟩ = some (.int .i64 f.id) ∧ w'.cell? ⟨w.heap.size, 1, none⟩ = some (.int .i64 f.kind) ∧ w'.cell? ⟨w.heap.size, 2, none⟩ = some (.int .i64 f.lo) ∧ w'.cell? ⟨w.heap.size, 3, none⟩ = some (.int .i64 f.hi) ∧ w'.cell? ⟨w.heap.size, 4, none⟩ = some (.int .i64 f.most))) (first | assumption | go_keep) ((go_at_call 74; (with_reducible refine cg.mono ?_); rintro e w2 ⟨rfl, hb2⟩; have hk2 := HS.out w2 hb2))
  go_wp2
  go_ret
  exact ⟨ret_int (IntWalk.i64_in _ (by omega)), HB.out _ hb2⟩
end Go.Proofs.Ytpdnfiofjkbeiaa.field
/- Contract of layer 12 (field): Size. No condition. -/
namespace Go.Proofs.Ytpdnfiofjkbeiaa.field
open Go.RowKit
set_option linter.unusedVariables false

theorem size_any (f : Fd) (w : World) : Calls Try.prog 88 #[.agg #[.int .i64 f.id, .int .i64 f.kind, .int .i64 f.lo, .int .i64 f.hi, .int .i64 f.most]] w (Gives (.int .i64 (f.size : Int)) w) := by
  have HB := hid (belowF f w)
  have HS := hid (five f w)
  have hsz : f.size = if f.Right then (if f.kind = 4 then 1 + f.most.toNat else wide (f.great - f.lo).toNat) else 0 := rfl
  rw [hsz]
  have cr := gives_from (right_any f (w.alloc (.cells #[.int .i64 f.id, .int .i64 f.kind, .int .i64 f.lo, .int .i64 f.hi, .int .i64 f.most] 23))) (w0 := (w.alloc (.cells #[.int .i64 f.id, .int .i64 f.kind, .int .i64 f.lo, .int .i64 f.hi, .int .i64 f.most] 23))) (Below.refl _ _)
  by_cases hr : f.Right
  · rw [if_pos hr]
    rw [decide_eq_true hr] at cr
    have hk := kinds hr
    have hsp := hr.span
    obtain ⟨T, hT⟩ : ∃ T : Nat, f.great - f.lo = (T : Int) := ⟨(f.great - f.lo).toNat, by omega⟩
    have hTb : T ≤ 2199023255552 := by omega
    have ct := fun (w1 : World) (hb : Below (w.alloc (.cells #[.int .i64 f.id, .int .i64 f.kind, .int .i64 f.lo, .int .i64 f.hi, .int .i64 f.most] 23)).heap.size (w.alloc (.cells #[.int .i64 f.id, .int .i64 f.kind, .int .i64 f.lo, .int .i64 f.hi, .int .i64 f.most] 23)) w1) => gives_from (top_any f hr w1) hb
    rw [hT] at ct
    have cl := len_any T (by omega)
    rw [hT]
    have h4 : f.kind = 4 → 0 ≤ f.most ∧ f.most ≤ 32 := by intro h4; unfold Fd.Right at hr; omega
    have h2 : f.kind = 2 → f.great - f.lo = 1 := by intro h2; unfold Fd.Right at hr; unfold Fd.great; rw [h2]; simp; omega
    rw [hT] at h2
    clear hr hsp hsz hT
    obtain ⟨i, k, lo, hi, m⟩ := f
    simp only at hk h4 h2 HB HS cr ct ⊢
    rw [show ((T : Int)).toNat = T from rfl]
    unfold Gives
    have HT := hid hTb
    rcases hk with rfl | rfl | rfl | rfl
    · clear h4 h2
      rw [if_neg (by decide)]
      clear hTb
      have hu : IntKind.u64.wrap (T : Int) = (T : Int) := by have := HT.out; rw [IntWalk.u64_in _ (by omega)]
      go_enter Try.func88, Try.ntmps88
      go_wp2_with (first
        | (go_at_call 48; (with_reducible refine cr.mono ?_); rintro e w1 ⟨rfl, hb1⟩; have hk1 := HS.out _ hb1)
        | (go_at_call 92; (with_reducible refine (ct _ hb1).mono ?_); rintro e w2 ⟨rfl, hb2⟩)
        | (go_at_call 91; (with_reducible refine (cl _).mono ?_); rintro e w3 ⟨L, rfl, hL1, hL2, nd, rfl⟩; have HL := hid hL2; clear hL2))
      go_ret
      exact ⟨ret_int (by have := HL.out; omega), HB.out _ (below_drewN hb2 _)⟩
    · have hT1 : T = 1 := by have := h2 rfl; omega
      subst hT1
      clear h4 h2
      rw [if_neg (by decide), show wide 1 = 1 from rfl]
      go_enter Try.func88, Try.ntmps88
      go_wp2_with (go_at_call 48; (with_reducible refine cr.mono ?_); rintro e w1 ⟨rfl, hb1⟩; have hk1 := HS.out _ hb1)
      go_ret
      exact ⟨rfl, HB.out _ hb1⟩
    · clear h4 h2
      rw [if_neg (by decide)]
      clear hTb
      have hu : IntKind.u64.wrap (T : Int) = (T : Int) := by have := HT.out; rw [IntWalk.u64_in _ (by omega)]
      go_enter Try.func88, Try.ntmps88
      go_wp2_with (first
        | (go_at_call 48; (with_reducible refine cr.mono ?_); rintro e w1 ⟨rfl, hb1⟩; have hk1 := HS.out _ hb1)
        | (go_at_call 92; (with_reducible refine (ct _ hb1).mono ?_); rintro e w2 ⟨rfl, hb2⟩)
        | (go_at_call 91; (with_reducible refine (cl _).mono ?_); rintro e w3 ⟨L, rfl, hL1, hL2, nd, rfl⟩; have HL := hid hL2; clear hL2))
      go_ret
      exact ⟨ret_int (by have := HL.out; omega), HB.out _ (below_drewN hb2 _)⟩
    · obtain ⟨m1, m2⟩ := h4 rfl
      clear h4 h2
      rw [if_pos rfl]
      obtain ⟨M, rfl⟩ := Int.eq_ofNat_of_zero_le m1
      rw [show ((M : Int)).toNat = M from rfl]
      go_enter Try.func88, Try.ntmps88
      go_wp2_with (go_at_call 48; (with_reducible refine cr.mono ?_); rintro e w1 ⟨rfl, hb1⟩; have hk1 := HS.out _ hb1)
      go_ret
      exact ⟨ret_int (by omega), HB.out _ hb1⟩
  · rw [if_neg hr]
    rw [decide_eq_false hr] at cr
    clear hr hsz
    unfold Gives
    go_enter Try.func88, Try.ntmps88
    go_wp2_with (go_at_call 48; (with_reducible refine cr.mono ?_); rintro e w1 ⟨rfl, hb1⟩; have hk1 := HS.out _ hb1)
    go_ret
    exact ⟨rfl, HB.out _ hb1⟩
end Go.Proofs.Ytpdnfiofjkbeiaa.field
