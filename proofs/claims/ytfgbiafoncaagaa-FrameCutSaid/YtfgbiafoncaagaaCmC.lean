/- Contracts and lemmas that the claims of this seat share: Tail, FrameLay, FrameAwake, ZerosTwinRef, WordSame, FrameRef, Clone, FrameRead, AppendAt, FrameArg. Each says its own conditions. -/
import Derived.StillTail
import Derived.Deep.RegionHeld3
import Derived.Deep.QuietTactic
import Derived.BigQuiet
import Derived.WalkKit
import Derived.Test.YtfgbiafoncaagaaRows
import Derived.Test.YtfgbiafoncaagaaCmB
import Derived.Handy
import Derived.Test.YtfgbiafoncaagaaCmA
import Derived.Maps.AppendAt
import Derived.Laws.Cover3
/- A region whose order is open: all its operations but the last ones in a forced row only read; one walk in the order of the text serves every order. No condition. -/
namespace Go.Proofs.Ytfgbiafoncaagaa.tail
open Go

section
variable {P : Program} {ops : Array Oper} {md : Region.Mode} {C : World → Prop}

def anyL (P : Program) (md : Region.Mode) (ops : Array Oper) (C : World → Prop) (n : Nat) (L : Array Bool → Act → Prop) : Nat → Array Bool → Act → Prop
  | 0, listed, a => L listed a
  | f + 1, listed, a =>
    Region.ready md ops listed ≠ [] ∧ ∀ i ∈ Region.ready md ops listed, i < n ∧ qOp P ops C i (anyL P md ops C n L f (listed.setIfInBounds i true)) a

theorem any_of_head {n g : Nat} {L : Array Bool → Act → Prop} {Q' : Exit → Act → World → Prop} (hL : ∀ listed a w, C w → L listed a → wpAny P md ops Q' g listed a w) :
    ∀ (f : Nat) (listed : Array Bool) (a : Act) (w : World), C w → anyL P md ops C n L f listed a → wpAny P md ops Q' (f + g) listed a w
  | 0, listed, a, w, hw, h => by rw [Nat.zero_add]; exact hL _ _ _ hw h
  | f + 1, listed, a, w, hw, h => by
    rw [show f + 1 + g = (f + g) + 1 by omega]
    exact ⟨fun h0 => absurd h0 h.1, fun i hi => wpOp_of_qOp hw (fun a' w' hw' h' => any_of_head hL f _ a' w' hw' h') (h.2 i hi).2⟩

theorem anyL_first {n i : Nat} {oi : Oper} {v : Value} {L : Array Bool → Act → Prop} (hi : ops[i]? = some oi) (hsel : ∀ (j : Nat) (o : Oper) cs b, ops[j]? = some o → o.op ≠ .select cs b)
    (hs : Region.sinkB md ops n = true) (hc : Region.chainB md ops n = true) (hn : n < ops.size) (hin : i < n)
    (hdone : ∀ listed a, L listed a → ∀ j ∈ Region.ready md ops listed, n ≤ j) :
    ∀ (f : Nat) (listed : Array Bool) (a : Act), HeadInv md ops n listed →
      (∀ j oj, ops[j]? = some oj → j ≠ i → listed.getD j true = false → (∀ e ∈ oj.after, Region.binds md e = true → e.on ≠ i) → oi.apart ops oj = true) →
      i ∈ Region.ready md ops listed → YieldsIn P ops C oi v a →
      anyL P md ops C n L f (listed.setIfInBounds i true) (a.put oi.dst v) → anyL P md ops C n L (f + 1) listed a := by
  intro f
  induction f with
  | zero =>
    intro listed a inv _ hr hy H
    have hun := (mem_ready.1 hr).1
    refine ⟨fun h => (by rw [h] at hr; cases hr), fun j hj => ?_⟩
    have hjn : j < n := by
      rcases Nat.lt_or_ge j n with h | h
      · exact h
      · exact absurd hj (tail_waits hs hc hn inv _ i rfl hin hun j h)
    refine ⟨hjn, ?_⟩
    by_cases hji : j = i
    · subst hji; exact hy.qOp hi H
    · have := hdone _ _ H j (ready_mono hj hji)
      omega
  | succ f ih =>
    intro listed a inv hfree hr hy H
    have hun := (mem_ready.1 hr).1
    refine ⟨fun h => (by rw [h] at hr; cases hr), fun j hj => ?_⟩
    have hjn : j < n := by
      rcases Nat.lt_or_ge j n with h | h
      · exact h
      · exact absurd hj (tail_waits hs hc hn inv _ i rfl hin hun j h)
    refine ⟨hjn, ?_⟩
    by_cases hji : j = i
    · subst hji; exact hy.qOp hi H
    · have h1 := (H.2 j (ready_mono hj hji)).2
      obtain ⟨hjun, oj, hoj, hall⟩ := mem_ready.1 hj
      have hnot : ∀ e ∈ oj.after, Region.binds md e = true → e.on ≠ i := fun e he hb heq => by
        have h1 := hall e he hb
        rw [heq, getD_both hun] at h1
        cases h1
      have h2 := qOp_put hoj (hfree j oj hoj hji hjun hnot) (fun cs b => hsel i oi cs b hi) (fun cs b => hsel j oj cs b hoj) hy h1
      have hfree' : ∀ k ok, ops[k]? = some ok → k ≠ i → (listed.setIfInBounds j true).getD k true = false →
          (∀ e ∈ ok.after, Region.binds md e = true → e.on ≠ i) → oi.apart ops ok = true := fun k ok hk hki hun hno => by
        refine hfree k ok hk hki ?_ hno
        by_cases hjk : j = k
        · subst hjk; exact hjun
        · rw [getD_set_ne true hjk] at hun; exact hun
      refine qOp_mono (fun a' h3 => ih (listed.setIfInBounds j true) a' (inv.set hj hjn) hfree' (ready_mono hr (Ne.symm hji)) h3.1 ?_) h2
      rw [Array.setIfInBounds_comm _ _ hji]
      exact h3.2

theorem anyL_lex {n g : Nat} {Lq : Act → Prop} (hsel : Region.noSelect ops = true) (hs : Region.sinkB md ops n = true) (hc : Region.chainB md ops n = true) (hn : n < ops.size) :
    ∀ (l : List Oper) (k : Nat) (listed : Array Bool) (a : Act), (∀ j, j < l.length → l[j]? = ops[k + j]?) → k + l.length = n → HeadInv md ops n listed →
    Region.lexHead md ops g l.length k listed = true → wpQuiet P ops C Lq l a →
    anyL P md ops C n (fun listed' a' => Region.seqB md ops g n listed' = true ∧ Lq a') l.length listed a
  | [], k, listed, a, _, hk, _, hB, h => by
    have : k = n := by simpa using hk
    subst this
    exact ⟨by simpa [Region.lexHead] using hB, h⟩
  | o :: l, k, listed, a, hl, hk, inv, hB, h => by
    have h0 : ops[k]? = some o := by simpa using (hl 0 (by simp)).symm
    simp only [List.length_cons, Region.lexHead, Bool.and_eq_true] at hB
    obtain ⟨⟨hr, hf⟩, hB'⟩ := hB
    have hkn : k < n := by simp only [List.length_cons] at hk; omega
    have hr' : k ∈ Region.ready md ops listed := by simpa using hr
    have hst : qOp P ops C k (wpQuiet P ops C Lq l) a := by unfold qOp; simp only [h0]; exact h
    obtain ⟨v, hy, hK⟩ := yieldsIn_of_qOp h0 hst
    exact anyL_first h0 (Region.noSelect_spec hsel) hs hc hn hkn (fun listed' a' hL => seqB_ready hL.1) l.length listed a inv (Region.free_spec h0 hf) hr' hy
      (anyL_lex hsel hs hc hn l (k + 1) _ _ (fun j hj => by have := hl (j + 1) (by simp; omega); simpa [Nat.add_assoc, Nat.add_comm 1 j] using this) (by simp only [List.length_cons] at hk; omega) (inv.set hr' hkn) hB' hK)

/-- the operations but the last ones only read, or call what only reads; the last ones stand in one row -/
theorem region {id : Nat} {Q : Exit → Act → World → Prop} {a : Act} {w : World} {l : List Oper} (n : Nat) (hm : P.follows .mixedOrders = true) (hB : Region.lexTailB .any l.toArray n = true)
    (h : wpQuiet P l.toArray (fun w' => ∃ n, w' = w.drewN n) (fun a' => ∀ w', (∃ n, w' = w.drewN n) → wpList P l.toArray Q (l.drop n) a' w') (l.take n) a) : (Code.region id l.toArray true).wp P Q a w := by
  simp only [Region.lexTailB, Bool.and_eq_true, decide_eq_true_eq] at hB
  obtain ⟨⟨⟨⟨hsel, hn⟩, hs⟩, hc⟩, hlex⟩ := hB
  have hn' : n < l.length := by simpa using hn
  have htl : (l.take n).length = n := by simp; omega
  have hdl : (l.drop n).length = l.toArray.size - n := by simp
  have inv0 : HeadInv .any l.toArray n (Array.replicate l.toArray.size false) :=
    ⟨by simp, fun j oj _ hl => (by rw [getD_replicate_false] at hl; cases hl), fun t _ ht => getD_in (by simpa using ht) (getD_replicate_false _ _)⟩
  have H := anyL_lex (md := .any) (g := l.toArray.size - n) hsel hs hc hn (l.take n) 0 _ a (fun j hj => by
    have hj' : j < n := by rw [htl] at hj; exact hj
    simp [hj']) (by simpa using htl) inv0 (by rw [htl]; exact hlex) h
  refine wp_region_any hm ?_
  have := any_of_head (C := fun w' => ∃ n, w' = w.drewN n) (Q' := Q) (g := l.toArray.size - n) (fun listed a' w' hw' hL => by
    have := wpAny_of_seq (md := .any) (Q' := Q) (l.drop n) n listed a' w' (fun j => by simp [List.getElem?_drop]) (by rw [hdl]; exact hL.1) (hL.2 w' hw')
    rwa [hdl] at this) _ _ _ _ ⟨1, rfl⟩ H
  rw [htl, show n + (l.toArray.size - n) = l.toArray.size by omega] at this
  exact this

/-! the same where the first m operations are plain moves, which may also come up late -/

def sinkFrom (md : Region.Mode) (ops : Array Oper) (m n : Nat) : Bool :=
  (List.range n).all fun i => decide (i < m) || (List.range (n + 1)).any fun j => decide (i < j) && Region.waitsFor md ops j i
theorem tail_waits_from {m n : Nat} {listed : Array Bool} (hs : sinkFrom md ops m n = true) (hc : Region.chainB md ops n = true) (hn : n < ops.size) (inv : HeadInv md ops n listed)
    (hm : ∀ i, i < m → listed.getD i true = true) :
    ∀ (d i : Nat), n - i = d → i < n → listed.getD i true = false → ∀ t, n ≤ t → t ∉ Region.ready md ops listed := by
  intro d
  induction d using Nat.strongRecOn with
  | _ d ih =>
    intro i hd hi hun t ht hr
    obtain ⟨_, ot, hot, hall⟩ := mem_ready.1 hr
    have htlt : t < ops.size := (Array.getElem?_eq_some_iff.1 hot).1
    by_cases htn : t = n
    · subst htn
      have h1 := List.all_eq_true.1 hs i (List.mem_range.2 hi)
      have hnm : ¬ i < m := fun h => by rw [hm i h] at hun; cases hun
      simp only [Bool.or_eq_true, decide_eq_true_eq, hnm, false_or] at h1
      obtain ⟨j, hj, hj2⟩ := List.any_eq_true.1 h1
      simp only [Bool.and_eq_true, decide_eq_true_eq] at hj2
      obtain ⟨oj, hoj, e, he, hb, hon⟩ := Region.waitsFor_spec hj2.2
      have hjle : j ≤ t := by have := List.mem_range.1 hj; omega
      by_cases hjt : j = t
      · subst hjt
        have : oj = ot := Option.some.inj (hoj.symm.trans hot)
        subst this
        have h2 := hall e he hb
        rw [hon, getD_both hun] at h2
        cases h2
      · cases hl : listed.getD j false with
        | true =>
          have h2 := inv.closed j oj hoj hl e he hb
          rw [hon, getD_both hun] at h2
          cases h2
        | false =>
          have hjs : j < listed.size := by rw [inv.size]; omega
          exact ih (t - j) (by omega) j rfl (by omega) (getD_in hjs hl) t (Nat.le_refl _) hr
    · have h1 := List.all_eq_true.1 hc t (List.mem_range.2 htlt)
      simp only [Bool.or_eq_true, decide_eq_true_eq] at h1
      rcases h1 with h1 | h1
      · omega
      · obtain ⟨o', ho', e, he, hb, hon⟩ := Region.waitsFor_spec h1
        have : o' = ot := Option.some.inj (ho'.symm.trans hot)
        subst this
        have h2 := hall e he hb
        rw [hon, getD_both (inv.tail (t - 1) (by omega) (by omega))] at h2
        cases h2

theorem anyL_first_from {m n i : Nat} {oi : Oper} {v : Value} {L : Array Bool → Act → Prop} (hi : ops[i]? = some oi) (hsel : ∀ (j : Nat) (o : Oper) cs b, ops[j]? = some o → o.op ≠ .select cs b)
    (hs : sinkFrom md ops m n = true) (hc : Region.chainB md ops n = true) (hn : n < ops.size) (hin : i < n)
    (hdone : ∀ listed a, L listed a → ∀ j ∈ Region.ready md ops listed, n ≤ j) :
    ∀ (f : Nat) (listed : Array Bool) (a : Act), HeadInv md ops n listed → (∀ i, i < m → listed.getD i true = true) →
      (∀ j oj, ops[j]? = some oj → j ≠ i → listed.getD j true = false → (∀ e ∈ oj.after, Region.binds md e = true → e.on ≠ i) → oi.apart ops oj = true) →
      i ∈ Region.ready md ops listed → YieldsIn P ops C oi v a →
      anyL P md ops C n L f (listed.setIfInBounds i true) (a.put oi.dst v) → anyL P md ops C n L (f + 1) listed a := by
  intro f
  induction f with
  | zero =>
    intro listed a inv hm _ hr hy H
    have hun := (mem_ready.1 hr).1
    refine ⟨fun h => (by rw [h] at hr; cases hr), fun j hj => ?_⟩
    have hjn : j < n := by
      rcases Nat.lt_or_ge j n with h | h
      · exact h
      · exact absurd hj (tail_waits_from hs hc hn inv hm _ i rfl hin hun j h)
    refine ⟨hjn, ?_⟩
    by_cases hji : j = i
    · subst hji; exact hy.qOp hi H
    · have := hdone _ _ H j (ready_mono hj hji)
      omega
  | succ f ih =>
    intro listed a inv hm hfree hr hy H
    have hun := (mem_ready.1 hr).1
    refine ⟨fun h => (by rw [h] at hr; cases hr), fun j hj => ?_⟩
    have hjn : j < n := by
      rcases Nat.lt_or_ge j n with h | h
      · exact h
      · exact absurd hj (tail_waits_from hs hc hn inv hm _ i rfl hin hun j h)
    refine ⟨hjn, ?_⟩
    by_cases hji : j = i
    · subst hji; exact hy.qOp hi H
    · have h1 := (H.2 j (ready_mono hj hji)).2
      obtain ⟨hjun, oj, hoj, hall⟩ := mem_ready.1 hj
      have hnot : ∀ e ∈ oj.after, Region.binds md e = true → e.on ≠ i := fun e he hb heq => by
        have h1 := hall e he hb
        rw [heq, getD_both hun] at h1
        cases h1
      have h2 := qOp_put hoj (hfree j oj hoj hji hjun hnot) (fun cs b => hsel i oi cs b hi) (fun cs b => hsel j oj cs b hoj) hy h1
      have hfree' : ∀ k ok, ops[k]? = some ok → k ≠ i → (listed.setIfInBounds j true).getD k true = false →
          (∀ e ∈ ok.after, Region.binds md e = true → e.on ≠ i) → oi.apart ops ok = true := fun k ok hk hki hun hno => by
        refine hfree k ok hk hki ?_ hno
        by_cases hjk : j = k
        · subst hjk; exact hjun
        · rw [getD_set_ne true hjk] at hun; exact hun
      have hm' : ∀ k, k < m → (listed.setIfInBounds j true).getD k true = true := fun k hk => by
        by_cases hjk : j = k
        · subst hjk; rw [hm j hk] at hjun; cases hjun
        · rw [getD_set_ne true hjk]; exact hm k hk
      refine qOp_mono (fun a' h3 => ih (listed.setIfInBounds j true) a' (inv.set hj hjn) hm' hfree' (ready_mono hr (Ne.symm hji)) h3.1 ?_) h2
      rw [Array.setIfInBounds_comm _ _ hji]
      exact h3.2

theorem anyL_lex_from {m n g : Nat} {Lq : Act → Prop} (hsel : Region.noSelect ops = true) (hs : sinkFrom md ops m n = true) (hc : Region.chainB md ops n = true) (hn : n < ops.size) :
    ∀ (l : List Oper) (k : Nat) (listed : Array Bool) (a : Act), (∀ j, j < l.length → l[j]? = ops[k + j]?) → k + l.length = n → m ≤ k → HeadInv md ops n listed → (∀ i, i < m → listed.getD i true = true) →
    Region.lexHead md ops g l.length k listed = true → wpQuiet P ops C Lq l a →
    anyL P md ops C n (fun listed' a' => Region.seqB md ops g n listed' = true ∧ Lq a') l.length listed a
  | [], k, listed, a, _, hk, _, _, _, hB, h => by
    have : k = n := by simpa using hk
    subst this
    exact ⟨by simpa [Region.lexHead] using hB, h⟩
  | o :: l, k, listed, a, hl, hk, hmk, inv, hm, hB, h => by
    have h0 : ops[k]? = some o := by simpa using (hl 0 (by simp)).symm
    simp only [List.length_cons, Region.lexHead, Bool.and_eq_true] at hB
    obtain ⟨⟨hr, hf⟩, hB'⟩ := hB
    have hkn : k < n := by simp only [List.length_cons] at hk; omega
    have hr' : k ∈ Region.ready md ops listed := by simpa using hr
    have hst : qOp P ops C k (wpQuiet P ops C Lq l) a := by unfold qOp; simp only [h0]; exact h
    obtain ⟨v, hy, hK⟩ := yieldsIn_of_qOp h0 hst
    have hm' : ∀ i, i < m → (listed.setIfInBounds k true).getD i true = true := fun i hi => by
      rw [getD_set_ne true (by omega)]; exact hm i hi
    exact anyL_first_from h0 (Region.noSelect_spec hsel) hs hc hn hkn (fun listed' a' hL => seqB_ready hL.1) l.length listed a inv hm (Region.free_spec h0 hf) hr' hy
      (anyL_lex_from hsel hs hc hn l (k + 1) _ _ (fun j hj => by have := hl (j + 1) (by simp; omega); simpa [Nat.add_assoc, Nat.add_comm 1 j] using this) (by simp only [List.length_cons] at hk; omega) (by omega) (inv.set hr' hkn) hm' hB' hK)

theorem held_of_any {Q : Exit → Act → World → Prop} : ∀ (fuel : Nat) (listed : Array Bool) (a : Act) (w : World), wpAny P md ops Q fuel listed a w → wpAnyH P md ops Q (fun _ => True) fuel listed a w
  | 0, _, _, _, h => h
  | fuel + 1, _, _, _, h => ⟨h.1, fun i hi => wpOp_mono (fun a' w' h' => ⟨trivial, held_of_any fuel _ a' w' h'⟩) (h.2 i hi)⟩

/-- a plain move -/
def isMove (o : Oper) : Bool := o.guard.isNone && match o.op with | .move _ => true | _ => false
theorem move_run {o : Oper} (h : isMove o = true) (a : Act) (w : World) : ∃ v, (execOp a.eval o).run P w = .ok (.value v) w ∧ ∀ w', (execOp a.eval o).run P w' = .ok (.value v) w' := by
  unfold isMove at h
  simp only [Bool.and_eq_true] at h
  obtain ⟨_, h2⟩ := h
  split at h2
  · rename_i x hx
    exact ⟨a.eval x, by simp [execOp, hx], fun w' => by simp [execOp, hx]⟩
  · cases h2

def lexMoves (md : Region.Mode) (ops : Array Oper) (F : Nat → Array Bool → Bool) : Nat → Nat → Array Bool → Bool
  | 0, k, listed => F k listed
  | f + 1, k, listed => (Region.ready md ops listed).contains k && Region.free md ops listed k && ((ops[k]?).map isMove == some true) && lexMoves md ops F f (k + 1) (listed.setIfInBounds k true)

theorem moves_first {m n : Nat} {Q : Exit → Act → World → Prop} {Lq : Act → Prop} {F : Nat → Array Bool → Bool} {w : World} (hsel : Region.noSelect ops = true) (hmn : m ≤ n) (hn : n < ops.size) (hC : C w)
    (hQ : ∀ c a a' w, Q (.panic c) a w → Q (.panic c) a' w) (g : Nat)
    (hK : ∀ listed a, HeadInv md ops n listed → (∀ i, i < m → listed.getD i true = true) → F m listed = true → Lq a → wpAny P md ops Q g listed a w) :
    ∀ (l : List Oper) (k : Nat) (listed : Array Bool) (a : Act), (∀ j, j < l.length → l[j]? = ops[k + j]?) → k + l.length = m → HeadInv md ops n listed → (∀ i, i < k → listed.getD i true = true) →
    lexMoves md ops F l.length k listed = true → wpQuiet P ops C Lq l a → wpAnyH P md ops Q (fun _ => True) (l.length + g) listed a w
  | [], k, listed, a, _, hk, inv, hm, hB, h => by
    have : k = m := by simpa using hk
    subst this
    simp only [List.length_nil, Nat.zero_add]
    exact held_of_any _ _ _ _ (hK _ _ inv hm (by simpa [lexMoves] using hB) h)
  | o :: l, k, listed, a, hl, hk, inv, hm, hB, h => by
    have h0 : ops[k]? = some o := by simpa using (hl 0 (by simp)).symm
    simp only [List.length_cons, lexMoves, Bool.and_eq_true] at hB
    obtain ⟨⟨⟨hr, hf⟩, hmv⟩, hB'⟩ := hB
    rw [h0] at hmv
    have hmv' : isMove o = true := by simpa using hmv
    have hkn : k < n := by simp only [List.length_cons] at hk; omega
    have hr' : k ∈ Region.ready md ops listed := by simpa using hr
    have hst : qOp P ops C k (wpQuiet P ops C Lq l) a := by unfold qOp; simp only [h0]; exact h
    obtain ⟨v, hy, hK'⟩ := yieldsIn_of_qOp h0 hst
    have hyI : YieldsIf P ops (fun _ => True) o v a := by
      rcases hy with ⟨hw, hv⟩ | hy
      · obtain ⟨u, hu, hu'⟩ := move_run (P := P) hmv' a w
        have h3 := hv w hC
        unfold Oper.quietAt at h3
        rw [hu] at h3
        simp only [Oper.quietUpon] at h3
        exact .inl ⟨hw, fun w' _ => by rw [hu' w', h3.2]⟩
      · exact .inr hy
    rw [show (o :: l).length + g = (l.length + g) + 1 from by simp only [List.length_cons]; omega]
    refine wpAnyH_take h0 hsel hf hr (fun c a w h => hQ c _ _ w h) hyI trivial ?_
    refine moves_first hsel hmn hn hC hQ g hK l (k + 1) _ _ (fun j hj => by have := hl (j + 1) (by simp; omega); simpa [Nat.add_assoc, Nat.add_comm 1 j] using this) (by simp only [List.length_cons] at hk; omega) (inv.set hr' hkn) ?_ hB' hK'
    intro i hi
    by_cases h : k = i
    · subst h
      have hks : k < listed.size := by rw [inv.size]; omega
      simp [hks]
    · rw [getD_set_ne true h]; exact hm i (by omega)

def lexTailFrom (md : Region.Mode) (ops : Array Oper) (m n : Nat) : Bool :=
  Region.noSelect ops && decide (n < ops.size) && decide (m ≤ n) && sinkFrom md ops m n && Region.chainB md ops n && lexMoves md ops (fun k listed => Region.lexHead md ops (ops.size - n) (n - m) k listed) m 0 (Array.replicate ops.size false)

theorem wpQuiet_append {Q : Act → Prop} : ∀ (l l' : List Oper) (a : Act), wpQuiet P ops C Q (l ++ l') a → wpQuiet P ops C (wpQuiet P ops C Q l') l a
  | [], _, _, h => h
  | o :: l, l', a, h => by
    simp only [List.cons_append, wpQuiet] at h ⊢
    split
    · rename_i hw
      simp only [hw, if_true] at h
      exact Oper.quiet_mono (fun a' h' => wpQuiet_append l l' a' h') h
    · rename_i hw
      simp only [hw] at h
      exact wpQuiet_append l l' _ h

/-- the first m operations are plain moves; those up to n only read; the last ones stand in one row; nothing panics -/
theorem regionFrom {id : Nat} {Q : Exit → Act → World → Prop} {a : Act} {w : World} {l : List Oper} (m n : Nat) (hmx : P.follows .mixedOrders = true) (hB : lexTailFrom .any l.toArray m n = true)
    (h : wpQuiet P l.toArray (fun w' => ∃ n, w' = w.drewN n) (fun a' => ∀ w', (∃ n, w' = w.drewN n) → wpList P l.toArray (NoPanic Q) (l.drop n) a' w') (l.take n) a) : (Code.region id l.toArray true).wp P Q a w := by
  simp only [lexTailFrom, Bool.and_eq_true, decide_eq_true_eq] at hB
  obtain ⟨⟨⟨⟨⟨hsel, hn⟩, hmn⟩, hs⟩, hc⟩, hlex⟩ := hB
  have hn' : n < l.length := by simpa using hn
  have htl : (l.take n).length = n := by simp; omega
  have hdl : (l.drop n).length = l.toArray.size - n := by simp
  have hsz : l.toArray.size = l.length := by simp
  have inv0 : HeadInv .any l.toArray n (Array.replicate l.toArray.size false) :=
    ⟨by simp, fun j oj _ hl => (by rw [getD_replicate_false] at hl; cases hl), fun t _ ht => getD_in (by simpa using ht) (getD_replicate_false _ _)⟩
  have hsplit : l.take n = l.take m ++ (l.take n).drop m := by
    have h2 := List.take_append_drop m (l.take n)
    rw [List.take_take, Nat.min_eq_left hmn] at h2
    exact h2.symm
  rw [hsplit] at h
  have h1 := wpQuiet_append _ _ _ h
  have hml : (l.take m).length = m := by simp; omega
  have hdl2 : ((l.take n).drop m).length = n - m := by simp; omega
  refine wp_region_noPanic (wp_region_held (S := fun _ => True) hmx ?_)
  have key := moves_first (md := .any) (C := fun w' => ∃ n, w' = w.drewN n) (w := { w with drawn := w.drawn + 1 }) (Q := NoPanic Q)
    (F := fun k listed => Region.lexHead .any l.toArray (l.toArray.size - n) (n - m) k listed) (g := (n - m) + (l.toArray.size - n)) hsel hmn hn ⟨1, rfl⟩ (fun c a a' w h => h)
    (fun listed a inv hm hF hL => by
      have H := anyL_lex_from (md := .any) (g := l.toArray.size - n) hsel hs hc hn ((l.take n).drop m) m listed a (fun j hj => by
        rw [hdl2] at hj
        rw [List.getElem?_drop, List.getElem?_take, if_pos (by omega)]
        simp) (by rw [hdl2]; omega) (Nat.le_refl _) inv hm (by rw [hdl2]; exact hF) hL
      have := any_of_head (C := fun w' => ∃ n, w' = w.drewN n) (Q' := NoPanic Q) (g := l.toArray.size - n) (fun listed a' w' hw' hL => by
        have := wpAny_of_seq (md := .any) (Q' := NoPanic Q) (l.drop n) n listed a' w' (fun j => by simp [List.getElem?_drop]) (by rw [hdl]; exact hL.1) (hL.2 w' hw')
        rwa [hdl] at this) _ _ _ { w with drawn := w.drawn + 1 } ⟨1, rfl⟩ H
      rwa [hdl2] at this)
    (l.take m) 0 _ a (fun j hj => by
      rw [hml] at hj
      rw [List.getElem?_take, if_pos hj]
      simp) (by rw [hml]; omega) inv0 (fun i hi => by omega) (by rw [hml]; exact hlex) h1
  rw [hml] at key
  rwa [show m + (n - m + (l.toArray.size - n)) = l.toArray.size from by omega] at key
end
end Go.Proofs.Ytfgbiafoncaagaa.tail
/- Contract of Lay of layer 10 (frame), for every frame whose load is a row of words. -/
namespace Go.Proofs.Ytfgbiafoncaagaa.frame
open Go.RowKit Go.Proofs.Ytfgbiafoncaagaa.word Go.Proofs.Ytfgbiafoncaagaa.zeros
set_option linter.unusedVariables false

theorem lay_no (k s : Int) (a : Option Addr) (len cap : Nat) (w : World) (hno : okB k s len = false) :
    Calls Try.prog 7 #[.agg #[.int .i64 k, .int .i64 s, .slice a len cap]] w fun e w' => e = .returned (.tuple #[.slice none 0 0, .int .i64 2]) ∧ Below w.heap.size w w' := by
  have cs := fun w' => size_any (len : Int) w'
  have cm := fun w' => marked_any k s w'
  unfold okB at hno
  by_cases h1 : 1 ≤ len ∧ len ≤ 56
  · have hm : markB k s = false := by simpa [h1.1, h1.2] using hno
    have hz : sizeI (len : Int) = (len : Int) + 3 := by unfold sizeI; rw [if_pos (by omega)]
    rw [hm] at cm
    rw [hz] at cs
    have q0 : ((len : Int) + 3 == 0) = false := by simp; omega
    clear hno hm hz
    go_enter Try.func7, Try.ntmps7
    go_wp2_with (first
      | (go_at_call 11; ((with_reducible refine (cs _).mono ?_); rintro e w' ⟨rfl, m1, rfl⟩))
      | (go_at_call 16; ((with_reducible refine (cm _).mono ?_); rintro e w' ⟨rfl, m2, rfl⟩)))
    go_returns
    exact ⟨rfl, below_drewN ((Below.refl _ _).alloc (Nat.le_refl _) _) _⟩
  · have hz : sizeI (len : Int) = 0 := by unfold sizeI; rw [if_neg (by omega)]
    rw [hz] at cs
    have hc : len = 0 ∨ 56 < len := by omega
    clear hno hz h1 cm
    go_enter Try.func7, Try.ntmps7
    go_wp2_with (first
      | (go_at_call 11; ((with_reducible refine (cs _).mono ?_); rintro e w' ⟨rfl, m1, rfl⟩)))
    go_returns
    exact ⟨rfl, below_drewN ((Below.refl _ _).alloc (Nat.le_refl _) _) _⟩
set_option maxHeartbeats 1600000 in
theorem lay_yes (k s : Nat) (a : Option Addr) (len cap : Nat) (L : List Nat) (w : World) (hr : Reads .u32 w a len L) (hL : ∀ x ∈ L, x < 4294967296) (hok : okB k s len = true) :
    Calls Try.prog 7 #[.agg #[.int .i64 k, .int .i64 s, .slice a len cap]] w fun e w' => ∃ g cap', e = .returned (.tuple #[.slice (some ⟨g, 0, none⟩) (len + 3) cap', .int .i64 0]) ∧
      w.heap.size ≤ g ∧ Row w' 40 .u32 g cap' (words k s L) ∧ Below w.heap.size w w' := by
  obtain ⟨i0, hi, hz0, hz1, hz2⟩ := info_parts Tryinfo34
  have hlen := hr.1
  obtain ⟨hk, h1, h2, h3, h4⟩ := okB_true.1 hok
  have cs := fun w' => size_any (len : Int) w'
  have cm := fun w' => marked_any (k : Int) s w'
  have hz : sizeI (len : Int) = (len : Int) + 3 := by unfold sizeI; rw [if_pos (by omega)]
  have hm : markB (k : Int) s = true := markB_true.2 ⟨hk, h1, h2⟩
  rw [hm] at cm
  rw [hz] at cs
  have q0 : ((len : Int) + 3 == 0) = false := by simp; omega
  have ct := fun w' => twin_yes len (by omega) w'
  have HL := hid hL
  have HN := hid hlen
  have HB := hid (body_length k s L)
  have HS := hid (sealed_body k s L (by omega))
  have hw0 : Below w.heap.size w (w.alloc (.cells #[.int .i64 k, .int .i64 s, .slice a len cap] 28)) := (Below.refl _ _).alloc (Nat.le_refl _) _
  clear hz hm hL hlen hok
  go_enter Try.func7, Try.ntmps7
  go_wp2_with (first
    | (go_at_call 11; ((with_reducible refine (cs _).mono ?_); rintro e w' ⟨rfl, m1, rfl⟩))
    | (go_at_call 16; ((with_reducible refine (cm _).mono ?_); rintro e w' ⟨rfl, m2, rfl⟩))
    | (go_at_call 17; ((with_reducible refine (ct _).mono ?_); rintro e w' ⟨rfl, m3, rfl⟩))
    | (at_make; refine wpList_make_full _ rfl _ _ 22 rfl (w.heap.size + 1) 40 i0 (.int .u32 0) 1 Try.underlying22 hi hz0 hz1 _ _ _ _ (len + 2) rfl rfl (by go_num) (by go_num) (by rw [hz2]; omega) (by unfold maxLen; omega) (by simp) ?_))
  intro w1 hown hgrow
  rw [toList_madeCells_one] at hown
  have hb1 : Below (w.heap.size + 1) (w.alloc (.cells #[.int .i64 k, .int .i64 s, .slice a len cap] 28)) w1 := (below_drewN (Below.refl _ _) _).grown hgrow (by simp) (fun k h => by cases h)
  obtain ⟨g, cap', he, hg, hrow⟩ := Row.own (k := .u32) (xs := List.replicate (len + 2) 0) (by rw [List.map_replicate]; exact hown) (by omega)
  simp only [Value.slice.injEq, Option.some.injEq, Addr.mk.injEq, and_true, true_and] at he
  obtain ⟨rfl, rfl⟩ := he
  have d0 : w1.cell? ⟨w.heap.size, 0, none⟩ = some (.int .i64 k) := (hb1.cell (p := ⟨w.heap.size, 0, none⟩) (by simp)).trans (by simp)
  have d1 : w1.cell? ⟨w.heap.size, 1, none⟩ = some (.int .i64 s) := (hb1.cell (p := ⟨w.heap.size, 1, none⟩) (by simp)).trans (by simp)
  have d2 : w1.cell? ⟨w.heap.size, 2, none⟩ = some (.slice a len cap) := (hb1.cell (p := ⟨w.heap.size, 2, none⟩) (by simp)).trans (by simp)
  have c0 := hrow.get (i := 0) (by simp)
  have c1 := hrow.get (i := 1) (by simp)
  have f0 := hrow.frozen 0
  have f1 := hrow.frozen 1
  have HROW := hid hrow
  have HB1 := hid hb1
  have HR := hid hr
  clear hrow hb1 hr hown hgrow hw0 hg
  simp only [List.getD_eq_getElem?_getD, List.getElem?_replicate] at c0 c1
  obtain ⟨H, hH⟩ : ∃ H : Nat, H = k * 1073741824 + s := ⟨_, rfl⟩
  have hor : bits .or .u32 ((k : Int) * 1073741824) (s : Int) = (H : Int) := by
    have h := u32_or_nat (k * 1073741824) s (by omega) (by omega)
    rw [nat_join 30 (k * 1073741824) s (by omega) (by omega), ← hH, show ((k * 1073741824 : Nat) : Int) = (k : Int) * 1073741824 from by omega] at h
    exact h
  have HH := hid hH
  clear hH
  go_wp2
  have hrow2 : Row ((w1.setCell ⟨w.heap.size + 1, 0, none⟩ (.int .u32 (twinN len : Nat))).setCell ⟨w.heap.size + 1, 1, none⟩ (.int .u32 (H : Int))) 40 .u32 (w.heap.size + 1) (len + 2) (twinN len :: H :: List.replicate len 0) := by
    have h := (HROW.out.set (i := 0) (by simp) (twinN len)).set (i := 1) (by simp) H
    simpa [List.replicate_succ] using h
  have hb2 : Below (w.heap.size + 1) w1 ((w1.setCell ⟨w.heap.size + 1, 0, none⟩ (.int .u32 (twinN len : Nat))).setCell ⟨w.heap.size + 1, 1, none⟩ (.int .u32 (H : Int))) :=
    ((Below.refl (w.heap.size + 1) w1).setCell (p := ⟨w.heap.size + 1, 0, none⟩) (Nat.le_refl _) _).setCell (p := ⟨w.heap.size + 1, 1, none⟩) (Nat.le_refl _) _
  generalize (w1.setCell ⟨w.heap.size + 1, 0, none⟩ (.int .u32 (twinN len : Nat))).setCell ⟨w.heap.size + 1, 1, none⟩ (.int .u32 (H : Int)) = w2 at *
  have e2 : w2.cell? ⟨w.heap.size, 2, none⟩ = some (.slice a len cap) := (hb2.cell (p := ⟨w.heap.size, 2, none⟩) (by simp)).trans d2
  have hbw : Below w.heap.size w w2 := ((Below.refl _ _).alloc (Nat.le_refl _) _).trans ((HB1.out.trans hb2).mono (by omega))
  have hr2 := HR.out.below hbw
  obtain ⟨b, off, rfl, hbs, hc⟩ := hr2.at (show 0 < len by omega)
  obtain ⟨pad, hblk, _, _⟩ := hrow2
  have hnums : (L.map fun x : Nat => Value.int .u32 (x : Int)).length = len := by rw [List.length_map]; exact HN.out
  have HCS := hid (fun n => cells_of (hr2.drewN n))
  have HVL := hid hnums
  have HCN : Hid ((L.map fun x : Nat => Value.int .u32 (x : Int)).length = Nat.min len len) := hid (by rw [hnums]; exact (Nat.min_self _).symm)
  have hsz1 : (Try.prog.info? 40).map (·.size) = some 1 := by rw [hi]; simp [hz1]
  have H1 := hid (ints_one .u32 L)
  have HBLK := hid hblk
  have HBW := hid hbw
  have hput : put ((twinN len :: H :: List.replicate len 0).map (fun x : Nat => Value.int .u32 (x : Int)) ++ pad) 2 (L.map fun x : Nat => Value.int .u32 (x : Int)) = (body k s L).map (fun x : Nat => Value.int .u32 (x : Int)) ++ pad := by
    have h := put_mid [.int .u32 (twinN len : Nat), .int .u32 (H : Int)] ((List.replicate len 0).map (fun x : Nat => Value.int .u32 (x : Int))) pad (L.map fun x : Nat => Value.int .u32 (x : Int)) (by simp [HN.out])
    unfold body
    rw [HN.out, ← HH.out]
    exact h
  have HPUT := hid hput
  clear hnums hblk hbw hput hr2 hc c0 c1 f0 f1 d0 d1 d2 hor hb2
  generalize hgx : (L.map fun x : Nat => Value.int .u32 (x : Int)) = vs at *
  clear hgx
  refine tail.region 4 (by kernel_rfl) (by kernel_rfl) ?_
  simp only [List.take_succ_cons, List.take_zero, List.drop_succ_cons, List.drop_zero]
  repeat (go_big_quiet_step (fail))
  refine wpQuiet_nil ?_
  rintro _ ⟨nq, rfl⟩
  have HTH : Hid ((w2.drewN nq).there (w.heap.size + 1) 2 vs.length) := hid ((HBLK.out.drewN nq).there 2 vs.length (by rw [HVL.out]; simp; omega))
  go_wp2_with (with_reducible refine wpList_copy_block rfl (.tmp 47) (.tmp 49) 22 22 rfl 40 Try.underlying22 hsz1 (w.heap.size + 1) 2 len len ⟨b, off, none⟩ len cap rfl rfl vs HCN.out (HCS.out nq) HTH.out H1.out ?_)
  have hblk3 := (HBLK.out.drewN nq).setCells (vs := vs) (o := 2)
  rw [HPUT.out] at hblk3
  have hb3 : Below w.heap.size w ((w2.drewN nq).setCells (w.heap.size + 1) 2 vs) := below_setCells (below_drewN HBW.out nq) (by omega) 2 vs
  generalize (w2.drewN nq).setCells (w.heap.size + 1) 2 vs = w3 at *
  have hr3 : Reads .u32 w3 (some ⟨w.heap.size + 1, 0, none⟩) (len + 2) (body k s L) := hblk3.reads 0 (body k s L) (fun i hi => by
    rw [Nat.zero_add, List.getElem?_append_left (by simpa using hi), List.getElem?_map, List.getD_eq_getElem?_getD, List.getElem?_eq_getElem hi]; rfl) _ (by rw [HB.out, HN.out])
  have cse := seal_any (some ⟨w.heap.size + 1, 0, none⟩) (len + 2) (len + 2) (body k s L) w3 hr3 (body_lt k s L (by omega) (by omega) (by rw [HN.out]; omega) HL.out) (by omega)
  rw [HS.out] at cse
  have HS3 := hid hb3
  clear hblk3 hr3 hb3
  go_wp2_with (go_at_call 18; ((with_reducible refine cse.mono ?_); rintro e w4 ⟨v, rfl, hov, hbv⟩))
  go_ret2
  obtain ⟨g, cap', rfl, hg, hrow⟩ := Row.own hov (by omega)
  exact ⟨g, cap', rfl, by have := HS3.out.size; omega, hrow, HS3.out.trans (hbv.mono HS3.out.size)⟩
end Go.Proofs.Ytfgbiafoncaagaa.frame
/- Contract of the law file's function awake of layer 10: it returns true. No condition. -/
namespace Go.Proofs.Ytfgbiafoncaagaa.frame
open Go.RowKit Go.Proofs.Ytfgbiafoncaagaa.word Go.Proofs.Ytfgbiafoncaagaa.zeros
set_option linter.unusedVariables false

theorem words_own : words 2 1 [5] = [4294836225, 2147483649, 5, 76] := by decide +kernel
theorem reads_one (w : World) (e : TypeId) (x : Nat) : Reads .u32 (w.alloc (.cells #[.int .u32 (x : Int)] e)) (some ⟨w.heap.size, 0, none⟩) 1 [x] := by
  refine ⟨rfl, .inr ⟨w.heap.size, 0, rfl, by simp, ?_⟩⟩
  intro i hi
  obtain rfl : i = 0 := by omega
  simp
theorem awake_any (w : World) : Calls Try.prog 15 #[] w (Yes w) := by
  have c : Calls Try.prog 7 #[.agg #[.int .i64 2, .int .i64 1, .slice (some ⟨w.heap.size, 0, none⟩) 1 1]] (w.alloc (.cells #[.int .u32 5] 40)) fun e w' => ∃ g cap', e = .returned (.tuple #[.slice (some ⟨g, 0, none⟩) 4 cap', .int .i64 0]) ∧
      (w.alloc (.cells #[.int .u32 5] 40)).heap.size ≤ g ∧ Row w' 40 .u32 g cap' [4294836225, 2147483649, 5, 76] ∧ Below (w.alloc (.cells #[.int .u32 5] 40)).heap.size (w.alloc (.cells #[.int .u32 5] 40)) w' := by
    have h := lay_yes 2 1 (some ⟨w.heap.size, 0, none⟩) 1 1 [5] (w.alloc (.cells #[.int .u32 5] 40)) (reads_one w _ 5) (by decide) (by decide)
    rw [words_own] at h
    exact h
  have HB : Hid (Below w.heap.size w (w.alloc (.cells #[.int .u32 5] 40))) := hid ((Below.refl _ _).alloc (Nat.le_refl _) _)
  go_enter Try.func15, Try.ntmps15
  go_wp2_with (go_at_call 7; ((with_reducible refine c.mono ?_); rintro e w1 ⟨g, cap, rfl, hg, hrow, hb⟩; have r0 := hrow.get (i := 0) (by decide); have r1 := hrow.get (i := 1) (by decide); have r3 := hrow.get (i := 3) (by decide); simp only [List.getD_eq_getElem?_getD, List.getElem?_cons_zero, List.getElem?_cons_succ, Option.getD_some] at r0 r1 r3))
  go_ret
  exact ⟨rfl, HB.out.trans (hb.mono (by simp))⟩
end Go.Proofs.Ytfgbiafoncaagaa.frame
/- Contracts of the reference's Twin and Told of layer 2. -/
namespace Go.Proofs.Ytfgbiafoncaagaa.zeros
open Go.RowKit
set_option linter.unusedVariables false

theorem refTwin_any (n : Nat) (hn : n < 65536) (w : World) :
    Calls Try.prog 19 #[.int .i64 n] w (Quiet (.int .u32 (twinN n)) w) := by
  have HT : Hid (twinN n = (65535 - n) * 65536 + n) := rfl
  generalize twinN n = t at *
  go_enter Try.func19, Try.ntmps19
  go_wp2
  go_ret
  refine ⟨ret_int ?_, 0, rfl⟩
  rw [HT.out]
  omega
theorem refTold_any (x : Nat) (hx : x < 4294967296) (w : World) :
    Calls Try.prog 24 #[.int .u32 x] w (Quiet (toldV x) w) := by
  have c := fun w' => refTwin_any (x % 65536) (by omega) w'
  simp only [Int.natCast_emod, Int.cast_ofNat_Int] at c
  have ht : twinN (x % 65536) < 4294967296 := twinN_lt _ (by omega)
  unfold toldV toldN
  by_cases h : twinN (x % 65536) = x
  · rw [if_pos h]
    rw [h] at c
    have hq : ((x : Int) != x) = false := by simp
    clear h ht
    go_enter Try.func24, Try.ntmps24
    go_wp2_with (go_at_call 19; (with_reducible refine (c _).mono ?_); rintro e w' ⟨rfl, m2, rfl⟩)
    go_ret2
    exact ⟨by simp, _, rfl⟩
  · rw [if_neg h]
    generalize twinN (x % 65536) = t at *
    have hq : ((t : Int) != x) = true := by rw [bne_iff_ne]; omega
    clear h ht
    go_enter Try.func24, Try.ntmps24
    go_wp2_with (go_at_call 19; (with_reducible refine (c _).mono ?_); rintro e w' ⟨rfl, m2, rfl⟩)
    go_ret2
    exact ⟨rfl, _, rfl⟩
end Go.Proofs.Ytfgbiafoncaagaa.zeros
/- Contract of the reference's Same of layer 1 at two slices that read alike. -/
namespace Go.Proofs.Ytfgbiafoncaagaa.word
open Go.RowKit
set_option linter.unusedVariables false

set_option maxHeartbeats 1600000 in
theorem same_any (a b : Option Addr) (len ca cb : Nat) (xs : List Nat) (w : World) (ha : Reads .u32 w a len xs) (hb : Reads .u32 w b len xs) (hl : len * 4 ≤ 140737488355328) :
    Calls Try.prog 9 #[.slice a len ca, .slice b len cb] w (Quiet (.bool true) w) := by
  have hq : ((len : Int) != len) = false := by simp
  go_enter Try.func9, Try.ntmps9
  go_wp2
  go_loopw [5] (fun i wr => ∃ k : Nat, k ≤ len ∧ i = .int .i64 k ∧ ∃ m, wr = w.drewN m) (fun i _ => len - (intOf i).toNat)
  case atStart => exact ⟨0, Nat.zero_le _, rfl, 0, rfl⟩
  case round =>
    obtain ⟨k, hk, rfl, m, rfl⟩ := hrel
    by_cases hlt : k < len
    · obtain ⟨b1, o1, rfl, _, hc1⟩ := ha.at hlt
      obtain ⟨b2, o2, rfl, _, hc2⟩ := hb.at hlt
      have c1 := hc1 k hlt
      have c2 := hc2 k hlt
      have i1 : (k : Int) < len := by omega
      clear hc1 hc2
      generalize xs.getD k 0 = x1 at *
      have hn : ((x1 : Int) != x1) = false := by simp
      have c1' : (w.drewN m).cell? ⟨b1, o1 + k, none⟩ = some (.int .u32 (x1 : Int)) := c1
      have c2' : (w.drewN m).cell? ⟨b2, o2 + k, none⟩ = some (.int .u32 (x1 : Int)) := c2
      go_wp2
      go_quiet (fail)
      go_wp2
      exact ⟨⟨k + 1, by omega, by go_num, ⟨_, rfl⟩⟩, by simp [intOf]; omega⟩
    · go_wp2
      go_ret
      exact ⟨rfl, _, rfl⟩
end Go.Proofs.Ytfgbiafoncaagaa.word
/- Contracts of the reference's Right, Lay and Same of layer 10 (frame). No condition but a row of words. -/
namespace Go.Proofs.Ytfgbiafoncaagaa.frame
open Go.RowKit Go.Proofs.Ytfgbiafoncaagaa.word Go.Proofs.Ytfgbiafoncaagaa.zeros
set_option linter.unusedVariables false

/-- the call returns v, and nothing that was there has turned -/
def Gives (v : Value) (w : World) (e : Ending) (w' : World) : Prop := e = .returned v ∧ Below w.heap.size w w'
theorem okB_no {k s : Int} {len : Nat} {r : Bool} (h : Hid (okB k s len = r)) (hn : ¬ ((k = 1 ∨ k = 2) ∧ 1 ≤ s ∧ s ≤ 1073741823 ∧ 1 ≤ len ∧ len ≤ 56)) : false = r := by
  rw [← h.out]; symm; rw [Bool.eq_false_iff, ne_eq, okB_true]; exact hn
theorem okB_yes {k s : Int} {len : Nat} {r : Bool} (h : Hid (okB k s len = r)) (hn : (k = 1 ∨ k = 2) ∧ 1 ≤ s ∧ s ≤ 1073741823 ∧ 1 ≤ len ∧ len ≤ 56) : true = r := by
  rw [← h.out]; symm; rw [okB_true]; exact hn
theorem refRight_any (k s : Int) (a : Option Addr) (len cap : Nat) (w : World) :
    Calls Try.prog 8 #[.agg #[.int .i64 k, .int .i64 s, .slice a len cap]] w (Gives (.bool (okB k s len)) w) := by
  generalize hm : okB k s len = r
  have HM := hid hm
  have HB : Hid (Below w.heap.size w (w.alloc (.cells #[.int .i64 k, .int .i64 s, .slice a len cap] 24))) := hid ((Below.refl _ _).alloc (Nat.le_refl _) _)
  clear hm
  unfold Gives
  by_cases h1 : k = 1 ∨ k = 2
  · by_cases h2 : s < 1
    · rcases h1 with rfl | rfl <;>
      · go_enter Try.func8, Try.ntmps8
        go_wp2
        go_ret
        exact ⟨ret_bool (okB_no HM (by omega)), HB.out⟩
    · by_cases h3 : s ≤ 1073741823
      · by_cases h4 : len = 0
        · subst h4
          rcases h1 with rfl | rfl <;>
          · go_enter Try.func8, Try.ntmps8
            go_wp2
            go_ret
            exact ⟨ret_bool (okB_no HM (by omega)), HB.out⟩
        · have i1 : (len : Int) ≥ 1 := by omega
          by_cases h5 : len ≤ 56
          · have i2 : (len : Int) ≤ 56 := by omega
            rcases h1 with rfl | rfl <;>
            · go_enter Try.func8, Try.ntmps8
              go_wp2
              go_ret
              exact ⟨ret_bool (okB_yes HM (by omega)), HB.out⟩
          · have i2 : ¬ (len : Int) ≤ 56 := by omega
            rcases h1 with rfl | rfl <;>
            · go_enter Try.func8, Try.ntmps8
              go_wp2
              go_ret
              exact ⟨ret_bool (okB_no HM (by omega)), HB.out⟩
      · rcases h1 with rfl | rfl <;>
        · go_enter Try.func8, Try.ntmps8
          go_wp2
          go_ret
          exact ⟨ret_bool (okB_no HM (by omega)), HB.out⟩
  · have h6 : k ≠ 1 := fun h => h1 (.inl h)
    have h7 : k ≠ 2 := fun h => h1 (.inr h)
    go_enter Try.func8, Try.ntmps8
    go_wp2
    go_ret
    exact ⟨ret_bool (okB_no HM (by omega)), HB.out⟩
theorem refSameF_any (k s : Int) (a b : Option Addr) (len ca cb : Nat) (L : List Nat) (w : World) (ha : Reads .u32 w a len L) (hb : Reads .u32 w b len L) (hl : len * 4 ≤ 140737488355328) :
    Calls Try.prog 14 #[.agg #[.int .i64 k, .int .i64 s, .slice a len ca], .agg #[.int .i64 k, .int .i64 s, .slice b len cb]] w (Gives (.bool true) w) := by
  have hw0 : Below w.heap.size w ((w.alloc (.cells #[.int .i64 k, .int .i64 s, .slice a len ca] 24)).alloc (.cells #[.int .i64 k, .int .i64 s, .slice b len cb] 24)) := ((Below.refl _ _).alloc (Nat.le_refl _) _).alloc (by simp) _
  have c := same_any a b len ca cb L _ (ha.below hw0) (hb.below hw0) hl
  have HB := hid hw0
  clear hw0 ha hb
  unfold Gives
  go_enter Try.func14, Try.ntmps14
  go_wp2_with (go_at_call 9; ((with_reducible refine c.mono ?_); rintro e w' ⟨rfl, m1, rfl⟩))
  go_ret
  exact ⟨rfl, below_drewN HB.out _⟩
set_option maxHeartbeats 1600000 in
theorem refLay_yes (k s : Nat) (a : Option Addr) (len cap : Nat) (L : List Nat) (w : World) (hr : Reads .u32 w a len L) (hL : ∀ x ∈ L, x < 4294967296) (hok : okB k s len = true) :
    Calls Try.prog 10 #[.agg #[.int .i64 k, .int .i64 s, .slice a len cap]] w fun e w' => ∃ g cap', e = .returned (.slice (some ⟨g, 0, none⟩) (len + 3) cap') ∧
      w.heap.size ≤ g ∧ Row w' 40 .u32 g cap' (words k s L) ∧ Below w.heap.size w w' := by
  obtain ⟨i0, hi, hz0, hz1, hz2⟩ := info_parts Tryinfo34
  have hlen := hr.1
  obtain ⟨hk, h1, h2, h3, h4⟩ := okB_true.1 hok
  have ct := fun w' => refTwin_any len (by omega) w'
  obtain ⟨H, hH⟩ : ∃ H : Nat, H = k * 1073741824 + s := ⟨_, rfl⟩
  have HH := hid hH
  have HHe : Hid ((k : Int) * 1073741824 + s = H) := hid (by omega)
  have HL := hid hL
  have HN := hid hlen
  have HB := hid (body_length k s L)
  have HS := hid (sealed_body k s L (by omega))
  have hw0 : Below w.heap.size w (w.alloc (.cells #[.int .i64 k, .int .i64 s, .slice a len cap] 24)) := (Below.refl _ _).alloc (Nat.le_refl _) _
  have hr0 := hr.below hw0
  obtain ⟨b, off, rfl, hbs, hc⟩ := hr0.at (show 0 < len by omega)
  clear hL hlen hok hH hr hc
  go_enter Try.func10, Try.ntmps10
  go_wp2
  refine tail.region 12 (by kernel_rfl) (by kernel_rfl) ?_
  simp only [List.take_succ_cons, List.take_zero, List.drop_succ_cons, List.drop_zero]
  repeat (go_big_quiet_step ((go_at_call 19; exact quietAt (ct _))))
  refine wpQuiet_nil ?_
  rintro _ ⟨nq, rfl⟩
  have hb1 : Below w.heap.size w (((w.alloc (.cells #[.int .i64 k, .int .i64 s, .slice (some ⟨b, off, none⟩) len cap] 24)).drewN nq).alloc (.cells #[.int .u32 (twinN len : Nat), .int .u32 ((k : Int) * 1073741824 + s)] 40)) := (below_drewN hw0 nq).alloc (by simp) _
  have hr1 := hr0.below (w' := ((w.alloc (.cells #[.int .i64 k, .int .i64 s, .slice (some ⟨b, off, none⟩) len cap] 24)).drewN nq).alloc (.cells #[.int .u32 (twinN len : Nat), .int .u32 ((k : Int) * 1073741824 + s)] 40)) ((below_drewN (Below.refl _ _) nq).alloc (by simp) _)
  have hown : (((w.alloc (.cells #[.int .i64 k, .int .i64 s, .slice (some ⟨b, off, none⟩) len cap] 24)).drewN nq).alloc (.cells #[.int .u32 (twinN len : Nat), .int .u32 ((k : Int) * 1073741824 + s)] 40)).ownsRow w.heap.size 40 1 (.slice (some ⟨w.heap.size + 1, 0, none⟩) 2 2) 2 [.int .u32 (twinN len : Nat), .int .u32 ((k : Int) * 1073741824 + s)] :=
    ⟨rfl, .inr ⟨w.heap.size + 1, 2, #[.int .u32 (twinN len : Nat), .int .u32 ((k : Int) * 1073741824 + s)], rfl, by omega, by
      have h := heap_alloc_new ((w.alloc (.cells #[.int .i64 k, .int .i64 s, .slice (some ⟨b, off, none⟩) len cap] 24)).drewN nq) (.cells #[.int .u32 (twinN len : Nat), .int .u32 ((k : Int) * 1073741824 + s)] 40)
      simpa using h, Nat.le_refl _, by unfold maxLen; omega, rfl, rfl⟩⟩
  have HOWN := hid hown
  have HCS := hid (cells_of hr1)
  have HB1 := hid hb1
  clear hown hb1
  go_wp2_with (first
    | (at_builtin; refine wpList_append_own _ rfl _ _ 22 rfl w.heap.size 40 i0 (.int .u32 0) 1 4 Try.underlying22 hi hz0 hz1 hz2 rfl (by decide) (.slice (some ⟨w.heap.size + 1, 0, none⟩) 2 2) 2 [.int .u32 (twinN len : Nat), .int .u32 ((k : Int) * 1073741824 + s)] rfl HOWN.out ⟨b, off, none⟩ len cap (L.map fun x : Nat => Value.int .u32 (x : Int)) rfl (by simp [HN.out]) HCS.out (ints_one _ _) (by unfold maxLen; omega) (by omega) HB1.out.size ?_))
  intro v2 w2 ho2 hg2 _
  have hb2 : Below w.heap.size w w2 := HB1.out.grown hg2 HB1.out.size (fun k hk => by cases hk; exact Nat.le_succ _)
  have ho3 : w2.ownsRow w.heap.size 40 1 v2 (len + 2) ((body k s L).map fun x : Nat => Value.int .u32 (x : Int)) := by
    have e : (body k s L).map (fun x : Nat => Value.int .u32 (x : Int)) = [.int .u32 (twinN len : Nat), .int .u32 ((k : Int) * 1073741824 + s)] ++ L.map (fun x : Nat => Value.int .u32 (x : Int)) := by
      unfold body
      rw [HN.out, ← HH.out, HHe.out]
      rfl
    rw [e, Nat.add_comm len 2]
    exact ho2
  obtain ⟨g, cap', rfl, hg, hrow⟩ := Row.own ho3 (by omega)
  have hrd := hrow.reads
  rw [HB.out, HN.out] at hrd
  have cse := refSeal_any (some ⟨g, 0, none⟩) (len + 2) cap' (body k s L) w2 hrd (body_lt k s L (by omega) (by omega) (by rw [HN.out]; omega) HL.out) (by omega) (fun h => by cases h)
  rw [HS.out] at cse
  have HB2 := hid hb2
  clear hb2 ho2 ho3 hg2 hrd hrow hr1 hr0 hw0
  go_wp2_with (go_at_call 20; ((with_reducible refine cse.mono ?_); rintro e w4 ⟨v, rfl, hov, hbv⟩))
  go_ret
  obtain ⟨g', cap'', rfl, hg', hrow⟩ := Row.own hov (by omega)
  exact ⟨g', cap'', rfl, by have := HB2.out.size; omega, hrow, HB2.out.trans (hbv.mono HB2.out.size)⟩
end Go.Proofs.Ytfgbiafoncaagaa.frame
/- Contract of slices.Clone at words. No condition but a row of at most 2^47 bytes. -/
namespace Go.Proofs.Ytfgbiafoncaagaa.flash
open Go.RowKit
set_option linter.unusedVariables false

def nums (k : IntKind) (xs : List Nat) : List Value := xs.map fun x : Nat => Value.int k (x : Int)
theorem nums_length (k : IntKind) (xs : List Nat) : (nums k xs).length = xs.length := by simp [nums]
theorem nums_one (k : IntKind) (xs : List Nat) : ∀ v ∈ nums k xs, v.oneCell' = true := by intro v hv; obtain ⟨x, _, rfl⟩ := List.mem_map.1 hv; rfl
theorem nums_get (k : IntKind) (xs : List Nat) (i : Nat) (h : i < xs.length) : (nums k xs)[i]? = some (.int k ((xs.getD i 0 : Nat) : Int)) := by
  simp only [nums, List.getElem?_map, List.getD_eq_getElem?_getD, List.getElem?_eq_getElem h]; rfl
theorem reads_news {k : IntKind} {w : World} {a : Option Addr} {len : Nat} {xs : List Nat} (h : Reads k w a len xs) : len = 0 ∨ ∃ ad, a = some ad ∧ ∀ j u, (nums k xs)[j]? = some u → w.cell? (ad.add j) = some u := by
  rcases h.2 with h0 | ⟨b, off, ha, _, hc⟩
  · exact .inl h0
  · refine .inr ⟨_, ha, fun j u hu => ?_⟩
    have hj : j < xs.length := by have := (List.getElem?_eq_some_iff.1 hu).1; rwa [nums_length] at this
    rw [nums_get k xs j hj] at hu
    cases hu
    rw [Addr.add_lit]
    exact hc j (by rw [← h.1]; exact hj)
/-- the call returns a row of its own that holds the numbers xs; nil for nil -/
def Copies (t : TypeId) (k : IntKind) (a : Option Addr) (xs : List Nat) (w : World) (e : Ending) (w' : World) : Prop :=
  ∃ v, e = .returned v ∧ w'.ownsRow w.heap.size t 1 v xs.length (nums k xs) ∧ Below w.heap.size w w' ∧ (a = none → v = .slice none 0 0)
theorem u32_info : (Try.prog.info? 40).map (fun i => (i.zero, i.size, i.bytes)) = some (some (.int .u32 0), 1, 4) := by kernel_rfl
theorem int_info : (Try.prog.info? 3).map (fun i => (i.zero, i.size, i.bytes)) = some (some (.int .i64 0), 1, 8) := by kernel_rfl

theorem u32_nil (W : World) (a : Option Addr) (n c : Nat) : (binOp .eql 22 (.slice a n c) (.slice none 0 0)).run Try.prog W = .ok (.bool a.isNone) W := by
  have h := run_equal_slice_nil (P := Try.prog) W 22 40 a n c Try.underlying22
  simp [binOp, h, Result.andThen]
theorem u32_clone (a : Option Addr) (m c : Nat) (xs : List Nat) (w : World) (hr : Reads .u32 w a m xs) (hn : m * 4 ≤ 140737488355328) :
    Calls Try.prog 23 #[.slice a m c] w (Copies 40 .u32 a xs w) := by
  obtain ⟨i0, hi, hz0, hz1, hz2⟩ := info_parts u32_info
  have HM : Hid (xs.length = m) := hr.1
  cases a with
  | none =>
    have en := u32_nil w none m c
    simp only [Option.isNone_none] at en
    have h0 : m = 0 := by rcases hr.2 with h | ⟨_, _, h, _⟩; exact h; cases h
    have HX := hid h0
    clear hr h0
    go_enter Try.func23, Try.ntmps23
    go_wp2
    go_ret
    obtain rfl : xs = [] := List.eq_nil_of_length_eq_zero (HM.out.trans HX.out)
    exact ⟨_, rfl, World.ownsRow_nil _ _ _ _, Below.refl _ _, fun _ => rfl⟩
  | some ad =>
    have en := u32_nil w (some ad) m c
    simp only [Option.isNone_some] at en
    have hb : Below w.heap.size w (w.alloc (.cells #[] 40)) := (Below.refl _ _).alloc (Nat.le_refl _) _
    have HB := hid hb
    have HN := hid (reads_news (hr.below hb))
    have HU := hid (nums_length .u32 xs)
    have HN2 : Hid (0 + m ≤ maxLen) := by show _ ≤ _; unfold maxLen; omega
    have HN3 : Hid ((0 + m) * 4 ≤ 140737488355328) := by show _ ≤ _; omega
    have HO := hid (World.ownsRow_made (base := w.heap.size) (e := 40) (size := 1) w #[] 0 (Nat.le_refl _) (Nat.zero_le _) rfl)
    clear hr hb hn
    go_enter Try.func23, Try.ntmps23
    go_wp2_with (at_builtin; refine wpList_append_from rfl _ _ 22 rfl w.heap.size 40 i0 (.int .u32 0) 4 Try.underlying22 hi hz0 hz1 hz2 rfl (.slice (some ⟨w.heap.size, 0, none⟩) 0 0) 0 [] rfl HO.out (some ad) m c (nums .u32 xs) rfl (by rw [HU.out, HM.out]) HN.out (nums_one .u32 xs) HN2.out HN3.out HB.out.size ?_)
    intro v' w1 ho hg
    have hbl : Below w.heap.size w w1 := HB.out.grown hg HB.out.size (fun k hk => by cases hk; exact Nat.le_refl _)
    have ho' : w1.ownsRow w.heap.size 40 1 v' xs.length (nums .u32 xs) := by
      rw [HM.out]; simpa using ho
    have HO2 := hid ho'
    have HB2 := hid hbl
    clear ho ho' hbl hg
    go_wp2
    go_ret
    exact ⟨_, rfl, HO2.out, HB2.out, fun h => by cases h⟩
end Go.Proofs.Ytfgbiafoncaagaa.flash
/- Contract of Read of layer 10 (frame), for every slice of words. No condition. -/
namespace Go.Proofs.Ytfgbiafoncaagaa.frame
open Go.RowKit Go.Proofs.Ytfgbiafoncaagaa.word Go.Proofs.Ytfgbiafoncaagaa.zeros Go.Proofs.Ytfgbiafoncaagaa.flash
set_option linter.unusedVariables false

/-- the call returns what r says: no frame, or a frame whose load is a row of its own -/
def ReadsAs (r : Option (Nat × Nat × List Nat)) (w : World) (e : Ending) (w' : World) : Prop :=
  match r with
  | none => e = .returned (.tuple #[.agg #[.int .i64 0, .int .i64 0, .slice none 0 0], .int .i64 0, .bool false]) ∧ Below w.heap.size w w'
  | some (k, s, L) => ∃ g cap, e = .returned (.tuple #[.agg #[.int .i64 k, .int .i64 s, .slice (some ⟨g, 0, none⟩) L.length cap], .int .i64 ((L.length + 3 : Nat) : Int), .bool true]) ∧
      w.heap.size ≤ g ∧ Row w' 40 .u32 g cap L ∧ Below w.heap.size w w'
theorem readN_cases (xs : List Nat) : (toldS xs = 0 ∧ readN xs = none) ∨ ∃ n, 1 ≤ n ∧ n ≤ 56 ∧ toldS xs = n + 3 ∧ n + 3 ≤ xs.length ∧
    ((rightB (xs.take (n + 3)) = false ∧ readN xs = none) ∨ (rightB (xs.take (n + 3)) = true ∧
      ((markB ((xs.getD 1 0 / 1073741824 : Nat) : Int) ((xs.getD 1 0 % 1073741824 : Nat) : Int) = false ∧ readN xs = none) ∨
       (markB ((xs.getD 1 0 / 1073741824 : Nat) : Int) ((xs.getD 1 0 % 1073741824 : Nat) : Int) = true ∧ readN xs = some (xs.getD 1 0 / 1073741824, xs.getD 1 0 % 1073741824, (xs.take (n + 2)).drop 2))))) := by
  rcases toldS_cases xs with h0 | ⟨n, h1, h2, h3, h4, h5⟩
  · exact .inl ⟨h0, by unfold readN; rw [if_pos h0]⟩
  · refine .inr ⟨n, h1, h2, h3, h5, ?_⟩
    have hR : readN xs = if rightB (xs.take (n + 3)) = false then none else if markB ((xs.getD 1 0 / 1073741824 : Nat) : Int) ((xs.getD 1 0 % 1073741824 : Nat) : Int) = false then none else some (xs.getD 1 0 / 1073741824, xs.getD 1 0 % 1073741824, (xs.take (n + 2)).drop 2) := by
      unfold readN
      rw [h3, if_neg (by omega)]
      rfl
    rw [hR]
    cases rightB (xs.take (n + 3)) with
    | false => exact .inl ⟨rfl, rfl⟩
    | true =>
      refine .inr ⟨rfl, ?_⟩
      cases markB ((xs.getD 1 0 / 1073741824 : Nat) : Int) ((xs.getD 1 0 % 1073741824 : Nat) : Int) with
      | false => exact .inl ⟨rfl, rfl⟩
      | true => exact .inr ⟨rfl, rfl⟩
theorem readsDrop {k : IntKind} {w : World} {b off len : Nat} {xs : List Nat} (h : Reads k w (some ⟨b, off, none⟩) len xs) (m : Nat) (hm : m ≤ len) : Reads k w (some ⟨b, off + m, none⟩) (len - m) (xs.drop m) := by
  refine ⟨by rw [List.length_drop, h.1], ?_⟩
  rcases h.2 with h0 | ⟨b', off', ha, hlt, hc⟩
  · exact .inl (by omega)
  · cases ha
    by_cases he : len - m = 0
    · exact .inl he
    · refine .inr ⟨b, off + m, rfl, hlt, fun i hi => ?_⟩
      rw [Nat.add_assoc, hc (m + i) (by omega)]
      simp only [List.getD_eq_getElem?_getD, List.getElem?_drop]
set_option maxHeartbeats 1600000 in
theorem read_any (a : Option Addr) (len cap : Nat) (xs : List Nat) (w : World) (hr : Reads .u32 w a len xs) (hx : ∀ x ∈ xs, x < 4294967296) (hlc : len ≤ cap) (hcap : cap ≤ maxLen) :
    Calls Try.prog 12 #[.slice a len cap] w (ReadsAs (readN xs) w) := by
  have hlen := hr.1
  have ct := fun w' (h : Reads .u32 w' a len xs) => toldF_any a len cap xs w' h hx
  have hw0 : Below w.heap.size w (w.alloc (.cells #[.int .i64 0, .int .i64 0, .slice none 0 0] 28)) := (Below.refl _ _).alloc (Nat.le_refl _) _
  have hr0 := hr.below hw0
  have hB0 : Block (w.alloc (.cells #[.int .i64 0, .int .i64 0, .slice none 0 0] 28)) w.heap.size 28 [.int .i64 0, .int .i64 0, .slice none 0 0] := Block.new w _ _
  rcases readN_cases xs with ⟨h0, h1⟩ | ⟨n, n1, n2, h3, h5, h4⟩
  · rw [h1]
    rw [h0] at ct
    unfold ReadsAs
    have HW0 := hid hw0
    clear h0 h1 hw0 hr hlen
    go_enter Try.func12, Try.ntmps12
    go_wp2_with (go_at_call 21; ((with_reducible refine (ct _ hr0).mono ?_); rintro e w' ⟨rfl, m1, rfl⟩))
    go_returns
    exact ⟨rfl, (((below_drewN HW0.out m1).setCell (p := ⟨w.heap.size, 0, none⟩) (Nat.le_refl _) _).setCell (p := ⟨w.heap.size, 1, none⟩) (Nat.le_refl _) _).setCell (p := ⟨w.heap.size, 2, none⟩) (Nat.le_refl _) _⟩
  · obtain ⟨b, off, rfl, hbs, hc⟩ := hr.at (show 0 < len by omega)
    have hx1 := getD32_lt xs hx 1
    have hp := readsTake hr0 (n + 3) (by omega)
    have cr := fun w' (h : Reads .u32 w' (some ⟨b, off, none⟩) (n + 3) (xs.take (n + 3))) => right_any (some ⟨b, off, none⟩) (n + 3) cap (xs.take (n + 3)) w' h (fun x h => hx x (List.mem_of_mem_take h)) (by omega) (by omega) hcap
    rw [h3] at ct
    have e3 : ((n + 3 : Nat) : Int) = (n : Int) + 3 := by omega
    rw [e3] at ct
    have q0 : ((n : Int) + 3 == 0) = false := by simp; omega
    have q1 : (n : Int) + 3 ≤ cap := by omega
    have HW0 := hid hw0
    have HLC := hid hlc
    have HCM := hid hcap
    have H5 := hid h5
    clear hw0 hr hlc hcap h3 h5
    rcases h4 with ⟨h6, h7⟩ | ⟨h6, h7⟩
    · rw [h7]
      rw [h6] at cr
      unfold ReadsAs
      clear h6 h7 hc
      go_enter Try.func12, Try.ntmps12
      go_wp2_with (first
        | (go_at_call 21; ((with_reducible refine (ct _ hr0).mono ?_); rintro e w' ⟨rfl, m1, rfl⟩))
        | (go_at_call 22; ((with_reducible refine (cr _ (hp.drewN _)).mono ?_); rintro e w' ⟨rfl, m2, rfl⟩)))
      go_returns
      exact ⟨rfl, (((below_drewN HW0.out _).setCell (p := ⟨w.heap.size, 0, none⟩) (Nat.le_refl _) _).setCell (p := ⟨w.heap.size, 1, none⟩) (Nat.le_refl _) _).setCell (p := ⟨w.heap.size, 2, none⟩) (Nat.le_refl _) _⟩
    · rw [h6] at cr
      have c1 : (w.alloc (.cells #[.int .i64 0, .int .i64 0, .slice none 0 0] 28)).cell? ⟨b, off + 1, none⟩ = some (.int .u32 ((xs.getD 1 0 : Nat) : Int)) :=
        (HW0.out.cell (p := ⟨b, off + 1, none⟩) hbs).trans (hc 1 (by have := H5.out; omega))
      have hrd := readsDrop (readsTake hr0 (n + 2) (by have := H5.out; omega)) 2 (by omega)
      have HLD : Hid (((xs.take (n + 2)).drop 2).length = n) := hid hrd.1
      generalize (xs.take (n + 2)).drop 2 = L at *
      generalize xs.getD 1 0 = x1 at *
      have hand : bits .and .u32 (x1 : Int) 1073741823 = ((x1 % 1073741824 : Nat) : Int) := by
        have h := u32_and_nat x1 1073741823 hx1 (by decide)
        rw [show x1 &&& 1073741823 = x1 % 2 ^ 30 from Nat.and_two_pow_sub_one_eq_mod x1 30] at h
        exact h
      have i1 : (1 : Int) < len := by have := H5.out; omega
      have e5 : ((x1 / 1073741824 : Nat) : Int) = (x1 : Int) / 1073741824 := by omega
      have e6 : ((x1 % 1073741824 : Nat) : Int) = (x1 : Int) % 1073741824 := by omega
      have cm := fun w' => marked_any ((x1 : Int) / 1073741824) ((x1 : Int) % 1073741824) w'
      rw [e5, e6] at h7
      clear hc h6
      rcases h7 with ⟨h8, h9⟩ | ⟨h8, h9⟩
      · rw [h9]
        rw [h8] at cm
        unfold ReadsAs
        clear h8 h9
        go_enter Try.func12, Try.ntmps12
        go_wp2_with (first
          | (go_at_call 21; ((with_reducible refine (ct _ hr0).mono ?_); rintro e w' ⟨rfl, m1, rfl⟩))
          | (go_at_call 22; ((with_reducible refine (cr _ (hp.drewN _)).mono ?_); rintro e w' ⟨rfl, m2, rfl⟩)))
        go_quiet (fail)
        go_wp2_with (go_at_call 16; ((with_reducible refine (cm _).mono ?_); rintro e w' ⟨rfl, m3, rfl⟩))
        go_returns
        exact ⟨rfl, (((below_drewN HW0.out _).setCell (p := ⟨w.heap.size, 0, none⟩) (Nat.le_refl _) _).setCell (p := ⟨w.heap.size, 1, none⟩) (Nat.le_refl _) _).setCell (p := ⟨w.heap.size, 2, none⟩) (Nat.le_refl _) _⟩
      · rw [h9]
        rw [h8] at cm
        unfold ReadsAs
        clear h8 h9
        go_enter Try.func12, Try.ntmps12
        go_wp2_with (first
          | (go_at_call 21; ((with_reducible refine (ct _ hr0).mono ?_); rintro e w' ⟨rfl, m1, rfl⟩))
          | (go_at_call 22; ((with_reducible refine (cr _ (hp.drewN _)).mono ?_); rintro e w' ⟨rfl, m2, rfl⟩)))
        go_quiet (fail)
        go_wp2_with (first
          | (go_at_call 16; ((with_reducible refine (cm _).mono ?_); rintro e w' ⟨rfl, m3, rfl⟩))
          | (go_at_call 23; ((with_reducible refine (u32_clone (some ⟨b, off + 2, none⟩) n (cap - 2) L _ (hrd.drewN _) (by omega)).mono ?_); rintro e w4 ⟨v, rfl, ho, hb, _⟩; obtain ⟨g, cap', rfl, hg, hrow⟩ := Row.own (k := .u32) (xs := L) ho (by rw [HLD.out]; omega); have hB4 := (hB0.drewN (m1 + m2 + nq + m3)).later hb; have k0 : w4.cell? ⟨w.heap.size, 0, none⟩ = some (.int .i64 0) := hB4.cell 0; have k1 : w4.cell? ⟨w.heap.size, 1, none⟩ = some (.int .i64 0) := hB4.cell 1; have k2 : w4.cell? ⟨w.heap.size, 2, none⟩ = some (.slice none 0 0) := hB4.cell 2; have f0 := hB4.frozen 0; have f1 := hB4.frozen 1; have f2 := hB4.frozen 2; have hB5 := hB4.setCell 0 (.int .i64 ((x1 : Int) / 1073741824)); have s0 : (w4.setCell ⟨w.heap.size, 0, none⟩ (.int .i64 ((x1 : Int) / 1073741824))).cell? ⟨w.heap.size, 0, none⟩ = some (.int .i64 ((x1 : Int) / 1073741824)) := hB5.cell 0; have hB6 := hB5.setCell 1 (.int .i64 ((x1 : Int) % 1073741824)); have s1 : ((w4.setCell ⟨w.heap.size, 0, none⟩ (.int .i64 ((x1 : Int) / 1073741824))).setCell ⟨w.heap.size, 1, none⟩ (.int .i64 ((x1 : Int) % 1073741824))).cell? ⟨w.heap.size, 1, none⟩ = some (.int .i64 ((x1 : Int) % 1073741824)) := hB6.cell 1; have hB7 := hB6.setCell 2 (.slice (some ⟨g, 0, none⟩) n cap'); have s2 : (((w4.setCell ⟨w.heap.size, 0, none⟩ (.int .i64 ((x1 : Int) / 1073741824))).setCell ⟨w.heap.size, 1, none⟩ (.int .i64 ((x1 : Int) % 1073741824))).setCell ⟨w.heap.size, 2, none⟩ (.slice (some ⟨g, 0, none⟩) n cap')).cell? ⟨w.heap.size, 2, none⟩ = some (.slice (some ⟨g, 0, none⟩) n cap') := hB7.cell 2; have hg' : w.heap.size < g := (by have h := hg; simp at h; omega); have HG := hid hg'; have HR := hid hrow; have HB : Hid (Below w.heap.size w w4) := hid ((below_drewN HW0.out _).trans (hb.mono (by simp))); clear hB4 hB5 hB6 hB7 ho hb hrow hg hg'; rw [HLD.out]))
          | fail)
        refine bodyPost_ret (by simp [results, Try.results12, go_sem, s0, s1, s2]; try rfl) rfl ?_
        refine ⟨g, cap', ?_, by have := HG.out; omega, ((HR.out.apart _ _ _ ?_).apart _ _ _ ?_).apart _ _ _ ?_, ((HB.out.setCell (p := ⟨w.heap.size, 0, none⟩) (Nat.le_refl _) _).setCell (p := ⟨w.heap.size, 1, none⟩) (Nat.le_refl _) _).setCell (p := ⟨w.heap.size, 2, none⟩) (Nat.le_refl _) _⟩
        · rw [HLD.out, e5, e6, e3]
        all_goals (have := HG.out; omega)
end Go.Proofs.Ytfgbiafoncaagaa.frame
/- append onto a row of the call's own, from whatever slice, and where the new row lies. No condition. -/
namespace Go.Proofs.Ytfgbiafoncaagaa
open Go.RowKit
set_option linter.unusedVariables false

/-- append onto a row of the call's own, from whatever slice, and where the new row lies -/
theorem wpList_append_at_from {P : Program} {w : World} {ops : Array Oper} {rest : List Oper} {o : Oper} {a : Act} {Q : Exit → Act → World → Prop} (hgd : o.guard = none) (s x : Operand) (t : TypeId)
    (ho : o.op = .call { callee := .builtin .append, args := #[s, x], argTypes := #[t, t] })
    (base : Nat) (e : TypeId) (i : TypeInfo) (z : Value) (bytes : Nat) (ht : P.underlying t = some (.slice e)) (hi : P.info? e = some i) (hz : i.zero = some z)
    (hsize : i.size = 1) (hby : i.bytes = bytes) (hzs : z.cells.size = 1)
    (v : Value) (n : Nat) (xs : List Value) (hs : a.eval s = v) (hown : w.ownsRow base e 1 v n xs)
    (ap : Option Addr) (m c : Nat) (news : List Value) (hx : a.eval x = .slice ap m c) (hl : news.length = m)
    (hnews : m = 0 ∨ ∃ ad, ap = some ad ∧ ∀ j u, news[j]? = some u → w.cell? (ad.add j) = some u) (h1 : ∀ u ∈ news, u.oneCell' = true)
    (h63 : n + m ≤ maxLen) (hbytes : (n + m) * bytes ≤ 140737488355328) (hbase : base ≤ w.heap.size)
    (h : ∀ v' w', w'.ownsRow base e 1 v' (n + m) (xs ++ news) → w.grownBy w' v.ownBlock → (v'.ownBlock = v.ownBlock ∨ v'.ownBlock = some w.heap.size) → wpList P ops Q rest (a.put o.dst v') w') : wpList P ops Q (o :: rest) a w := by
  by_cases hm : m = 0
  · subst hm
    obtain rfl : news = [] := List.eq_nil_of_length_eq_zero hl
    obtain ⟨bp, cp, rfl, hcp⟩ := ownsRow_slice hown
    have hsrc : Src P i.size t (.slice ap 0 c) 0 [] w := by
      cases ap with
      | none => exact Src.ofNil w ht c
      | some ad => exact Src.ofSlice w ht ad 0 c [] (by simp) (by simp) (by simp)
    have hrun := run_append_nothing w t t o.type e i ht hi bp n cp hcp _ hsrc
    refine wpList_plain hgd fun K hK => ?_
    unfold Oper.wp
    simp [execOp, ho, resolve, invoke, builtin, hs, hx, hrun, Result.andThen]
    exact hK _ _ (h _ w (by simpa using hown) (grown_refl _ _) (.inl rfl))
  · rcases hnews with h0 | ⟨ad, rfl, hc⟩
    · exact absurd h0 hm
    · exact wpList_append_own_at w hgd s x t ho base e i z 1 bytes ht hi hz hsize hby hzs (by decide) v n xs hs hown ad m c news hx (by omega) hc h1 h63 hbytes hbase (fun v' w' h2 h3 _ h5 => h v' w' h2 h3 h5)

end Go.Proofs.Ytfgbiafoncaagaa
/- A frame that came in, in the law's own variable: what its cells are for as long as what there was stands. No condition. -/
namespace Go.Proofs.Ytfgbiafoncaagaa.frame
open Go.RowKit Go.Proofs.Ytfgbiafoncaagaa.word Go.Proofs.Ytfgbiafoncaagaa.zeros
set_option linter.unusedVariables false

/-- the cells of the frame p at block b -/
def Cells3 (b : Nat) (p : FArg) (w : World) : Prop := w.cell? ⟨b, 0, none⟩ = some (.int .i64 p.k) ∧ w.cell? ⟨b, 1, none⟩ = some (.int .i64 p.s) ∧ w.cell? ⟨b, 2, none⟩ = some (.slice p.l p.lLen p.lCap)
theorem cells3 (p : FArg) (w : World) : ∀ w', Below (w.alloc (.cells #[.int .i64 p.k, .int .i64 p.s, .slice p.l p.lLen p.lCap] 24)).heap.size (w.alloc (.cells #[.int .i64 p.k, .int .i64 p.s, .slice p.l p.lLen p.lCap] 24)) w' → Cells3 w.heap.size p w' := fun w' hb => by
  have h := (Block.new w 24 [.int .i64 p.k, .int .i64 p.s, .slice p.l p.lLen p.lCap]).later hb
  exact ⟨h.cell 0, h.cell 1, h.cell 2⟩
theorem belowNewF (p : FArg) (w : World) : ∀ w', Below (w.alloc (.cells #[.int .i64 p.k, .int .i64 p.s, .slice p.l p.lLen p.lCap] 24)).heap.size (w.alloc (.cells #[.int .i64 p.k, .int .i64 p.s, .slice p.l p.lLen p.lCap] 24)) w' → Below w.heap.size w w' := fun w' hb =>
  ((Below.refl _ _).alloc (Nat.le_refl _) _).trans (hb.mono (by simp))
theorem ok_nat {p : FArg} (h : okB p.k p.s p.lLen = true) : ∃ k s : Nat, p.k = k ∧ p.s = s := by
  obtain ⟨h1, h2, _⟩ := okB_true.1 h
  exact ⟨p.k.toNat, p.s.toNat, by omega, by omega⟩
/-- what Lay answers for a frame that may not be -/
theorem lay_no_at {p : FArg} (h : okB p.k p.s p.lLen = false) (W : World) :
    Calls Try.prog 7 #[.agg #[.int .i64 p.k, .int .i64 p.s, .slice p.l p.lLen p.lCap]] W fun e w' => e = .returned (.tuple #[.slice none 0 0, .int .i64 2]) ∧ Below W.heap.size W w' := lay_no _ _ _ _ _ W h
theorem right_at (p : FArg) (W : World) :
    Calls Try.prog 8 #[.agg #[.int .i64 p.k, .int .i64 p.s, .slice p.l p.lLen p.lCap]] W (Gives (.bool (okB p.k p.s p.lLen)) W) := refRight_any _ _ _ _ _ W
/-- the frame's words, where it may be -/
def FArg.words (p : FArg) : List Nat := frame.words p.k.toNat p.s.toNat p.lW
theorem lay_yes_at {p : FArg} {w0 : World} (hp : p.Good w0) (h : okB p.k p.s p.lLen = true) (W : World) (hb : Below w0.heap.size w0 W) :
    Calls Try.prog 7 #[.agg #[.int .i64 p.k, .int .i64 p.s, .slice p.l p.lLen p.lCap]] W fun e w' => ∃ g cap', e = .returned (.tuple #[.slice (some ⟨g, 0, none⟩) (p.lLen + 3) cap', .int .i64 0]) ∧
      W.heap.size ≤ g ∧ Row w' 40 .u32 g cap' p.words ∧ Below W.heap.size W w' := by
  obtain ⟨k, s, hk, hs⟩ := ok_nat h
  have h' : okB (k : Int) s p.lLen = true := by rw [← hk, ← hs]; exact h
  have hl := lay_yes k s p.l p.lLen p.lCap p.lW W (hp.rl.below hb) hp.ml h'
  unfold FArg.words
  rw [hk, hs]
  exact hl
theorem refLay_yes_at {p : FArg} {w0 : World} (hp : p.Good w0) (h : okB p.k p.s p.lLen = true) (W : World) (hb : Below w0.heap.size w0 W) :
    Calls Try.prog 10 #[.agg #[.int .i64 p.k, .int .i64 p.s, .slice p.l p.lLen p.lCap]] W fun e w' => ∃ g cap', e = .returned (.slice (some ⟨g, 0, none⟩) (p.lLen + 3) cap') ∧
      W.heap.size ≤ g ∧ Row w' 40 .u32 g cap' p.words ∧ Below W.heap.size W w' := by
  obtain ⟨k, s, hk, hs⟩ := ok_nat h
  have h' : okB (k : Int) s p.lLen = true := by rw [← hk, ← hs]; exact h
  have hl := refLay_yes k s p.l p.lLen p.lCap p.lW W (hp.rl.below hb) hp.ml h'
  unfold FArg.words
  rw [hk, hs]
  exact hl
theorem words_len {p : FArg} {w0 : World} (hp : p.Good w0) : p.words.length = p.lLen + 3 := by unfold FArg.words; rw [words_length, hp.rl.1]
theorem words_small {p : FArg} {w0 : World} (hp : p.Good w0) (h : okB p.k p.s p.lLen = true) : ∀ x ∈ p.words, x < 4294967296 := by
  obtain ⟨h1, h2, h3, h4, h5⟩ := okB_true.1 h
  exact words_lt _ _ _ (by omega) (by omega) (by rw [hp.rl.1]; exact h5) hp.ml
/-- a call of Read at words that are read as r -/
theorem read_as {r : Option (Nat × Nat × List Nat)} (a : Option Addr) (len cap : Nat) (xs : List Nat) (W : World) (hr : Reads .u32 W a len xs) (hx : ∀ x ∈ xs, x < 4294967296) (hlc : len ≤ cap) (hcap : cap ≤ maxLen) (h : readN xs = r) :
    Calls Try.prog 12 #[.slice a len cap] W (ReadsAs r W) := by
  rw [← h]; exact read_any a len cap xs W hr hx hlc hcap
/-- the call returns the frame p, read out of its words -/
def ReadsP (p : FArg) (w : World) (e : Ending) (w' : World) : Prop :=
  ∃ g cap, e = .returned (.tuple #[.agg #[.int .i64 p.k, .int .i64 p.s, .slice (some ⟨g, 0, none⟩) p.lLen cap], .int .i64 ((p.lLen : Int) + 3), .bool true]) ∧ w.heap.size ≤ g ∧ Row w' 40 .u32 g cap p.lW ∧ Below w.heap.size w w'
theorem readsP {p : FArg} {w0 w w' : World} {e : Ending} (hp : p.Good w0) (hok : okB p.k p.s p.lLen = true) (h : ReadsAs (some (p.k.toNat, p.s.toNat, p.lW)) w e w') : ReadsP p w e w' := by
  obtain ⟨g, cap, h1, h2⟩ := h
  obtain ⟨k, s, hk, hs⟩ := ok_nat hok
  refine ⟨g, cap, ?_, h2⟩
  rw [h1, hp.rl.1, hk, hs]
  rfl
theorem sameF_at {p : FArg} {W : World} (g c : Nat) (hrow : Row W 40 .u32 g c p.lW) (hl : Reads .u32 W p.l p.lLen p.lW) (hs : p.lLen ≤ 56) :
    Calls Try.prog 14 #[.agg #[.int .i64 p.k, .int .i64 p.s, .slice (some ⟨g, 0, none⟩) p.lLen c], .agg #[.int .i64 p.k, .int .i64 p.s, .slice p.l p.lLen p.lCap]] W (Gives (.bool true) W) := by
  have hr := hrow.reads
  rw [hl.1] at hr
  exact refSameF_any p.k p.s _ _ p.lLen c p.lCap p.lW W hr hl (by omega)
end Go.Proofs.Ytfgbiafoncaagaa.frame
