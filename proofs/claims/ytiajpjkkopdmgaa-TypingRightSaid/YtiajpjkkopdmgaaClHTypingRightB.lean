/- Lemmas of the claim HTypingRight. Each says its own conditions. -/
import Derived.Test.YtiajpjkkopdmgaaClHTypingRightA
import Derived.Maps.AppendAt
import Derived.Laws.Cover3
import Derived.StillTail
import Derived.Deep.RegionHeld3
import Derived.Deep.QuietTactic
import Derived.BigQuiet
import Derived.WalkKit
import Derived.Test.YtiajpjkkopdmgaaRows
/- Rows of fields that a call has made: appended to, cloned. No condition but rows of at most 2^47 bytes. -/
namespace Go.Proofs.Ytiajpjkkopdmgaa.schema
open Go.RowKit
set_option linter.unusedVariables false

/-- the cells of fields -/
def fdC (p : field.Fd) : List Value := [.int .i64 p.id, .int .i64 p.kind, .int .i64 p.lo, .int .i64 p.hi, .int .i64 p.most]
def fdV : List field.Fd → List Value
  | [] => []
  | p :: L => fdC p ++ fdV L
theorem fdV_append : ∀ a b, fdV (a ++ b) = fdV a ++ fdV b
  | [], _ => rfl
  | p :: a, b => by rw [List.cons_append, fdV, fdV, fdV_append a b, List.append_assoc]
theorem fdV_length : ∀ L, (fdV L).length = L.length * 5
  | [] => rfl
  | p :: L => by rw [fdV]; simp only [fdC, List.length_append, List.length_cons, List.length_nil, fdV_length L]; omega
theorem fdV_one : ∀ L, ∀ u ∈ fdV L, u.oneCell' = true
  | [], u, h => by simp [fdV] at h
  | p :: L, u, h => by
    rw [fdV, List.mem_append] at h
    rcases h with h | h
    · simp [fdC] at h; rcases h with rfl | rfl | rfl | rfl | rfl <;> rfl
    · exact fdV_one L u h
theorem fdV_get : ∀ (L : List field.Fd) (j : Nat) (u : Value), (fdV L)[j]? = some u → ∃ i p c, L[i]? = some p ∧ j = i * 5 + c ∧ c < 5 ∧ (fdC p)[c]? = some u
  | [], j, u, h => by simp [fdV] at h
  | p :: L, j, u, h => by
    rw [fdV] at h
    by_cases hj : j < 5
    · rw [List.getElem?_append_left (by simp [fdC]; omega)] at h
      exact ⟨0, p, j, rfl, by omega, hj, h⟩
    · rw [List.getElem?_append_right (by simp [fdC]; omega)] at h
      obtain ⟨i, q, c, h1, h2, h3, h4⟩ := fdV_get L _ u h
      simp only [fdC, List.length_cons, List.length_nil] at h2
      exact ⟨i + 1, q, c, by simpa using h1, by omega, h3, h4⟩
theorem fdV_at : ∀ (L : List field.Fd) (i : Nat) (p : field.Fd) (c : Nat), L[i]? = some p → c < 5 → (fdV L)[i * 5 + c]? = (fdC p)[c]?
  | [], i, p, c, h, _ => by simp at h
  | q :: L, 0, p, c, h, hc => by
    simp at h; subst h
    rw [fdV, List.getElem?_append_left (by simp [fdC]; omega)]
    simp
  | q :: L, i + 1, p, c, h, hc => by
    rw [fdV, List.getElem?_append_right (by simp [fdC]; omega)]
    rw [← fdV_at L i p c (by simpa using h) hc]
    congr 1
    simp only [fdC, List.length_cons, List.length_nil]; omega
/-- what lies in fields that came in, as the cells of a row -/
theorem fds_news {w : World} {a : Option Addr} {L : List field.Fd} (h : field.Fds w a L) : L.length = 0 ∨ ∃ ad, a = some ad ∧ ∀ j u, (fdV L)[j]? = some u → w.cell? (ad.add j) = some u := by
  rcases h with h | ⟨b, off, ha, hlt, hc⟩
  · exact .inl (by rw [h]; rfl)
  · refine .inr ⟨_, ha, fun j u hj => ?_⟩
    obtain ⟨i, p, c, h1, rfl, h3, h4⟩ := fdV_get L j u hj
    obtain ⟨c0, c1, c2, c3, c4⟩ := hc i p h1
    rw [Addr.add_lit]
    match c, h3, h4 with
    | 0, _, h4 => rw [show (some u) = some (.int .i64 p.id) from h4.symm.trans rfl]; exact c0
    | 1, _, h4 => rw [show (some u) = some (.int .i64 p.kind) from h4.symm.trans rfl, ← Nat.add_assoc]; exact c1
    | 2, _, h4 => rw [show (some u) = some (.int .i64 p.lo) from h4.symm.trans rfl, ← Nat.add_assoc]; exact c2
    | 3, _, h4 => rw [show (some u) = some (.int .i64 p.hi) from h4.symm.trans rfl, ← Nat.add_assoc]; exact c3
    | 4, _, h4 => rw [show (some u) = some (.int .i64 p.most) from h4.symm.trans rfl, ← Nat.add_assoc]; exact c4
/-- a row of the call's own reads as fields -/
theorem own_fds {w : World} {base n : Nat} {a : Option Addr} {cap : Nat} {L : List field.Fd} {e : TypeId} (h : w.ownsRow base e 5 (.slice a n cap) n (fdV L)) : field.Fds w a L ∧ n = L.length ∧ n ≤ cap := by
  obtain ⟨hl, hr⟩ := h
  have hn : n = L.length := by have := fdV_length L; rw [hl] at this; omega
  rcases hr with ⟨hv, h0⟩ | ⟨b, cap', cur, hv, _, hg, hcp, _, _, htake⟩
  · cases hv
    exact ⟨.inl (List.eq_nil_of_length_eq_zero (by omega)), hn, by omega⟩
  · cases hv
    refine ⟨.inr ⟨b, 0, rfl, (Array.getElem?_eq_some_iff.1 hg).1, fun i p hp => ?_⟩, hn, hcp⟩
    have hi : i < L.length := (List.getElem?_eq_some_iff.1 hp).1
    have key : ∀ c x, c < 5 → (fdC p)[c]? = some x → w.cell? ⟨b, 0 + (i * 5 + c), none⟩ = some x := by
      intro c x hc hx
      have h1 := fdV_at L i p c hp hc
      rw [hx, ← htake, List.getElem?_take, if_pos (by omega)] at h1
      rw [cell_of_row w b _ cur _ _ hg, Nat.zero_add, ← h1, Array.getElem?_toList]
    exact ⟨key 0 _ (by omega) rfl, key 1 _ (by omega) rfl, key 2 _ (by omega) rfl, key 3 _ (by omega) rfl, key 4 _ (by omega) rfl⟩
theorem fd_info : (Try.prog.info? 26).map (fun i => (i.zero, i.size, i.bytes)) = some (some (.agg #[.int .i64 0, .int .i64 0, .int .i64 0, .int .i64 0, .int .i64 0]), 5, 40) := by kernel_rfl
theorem fd_info_parts : ∃ i, Try.prog.info? 26 = some i ∧ i.zero = some (.agg #[.int .i64 0, .int .i64 0, .int .i64 0, .int .i64 0, .int .i64 0]) ∧ i.size = 5 ∧ i.bytes = 40 := by
  obtain ⟨i, hi, he⟩ := Option.map_eq_some_iff.1 fd_info
  simp only [Prod.mk.injEq] at he
  exact ⟨i, hi, he.1, he.2.1, he.2.2⟩
theorem wpList_append_fromN {P : Program} {w : World} {ops : Array Oper} {rest : List Oper} {o : Oper} {a : Act} {Q : Exit → Act → World → Prop} (hgd : o.guard = none) (s x : Operand) (t : TypeId)
    (ho : o.op = .call { callee := .builtin .append, args := #[s, x], argTypes := #[t, t] })
    (base : Nat) (e : TypeId) (i : TypeInfo) (z : Value) (size bytes : Nat) (ht : P.underlying t = some (.slice e)) (hi : P.info? e = some i) (hz : i.zero = some z)
    (hsize : i.size = size) (hby : i.bytes = bytes) (hzs : z.cells.size = size) (hsz : 0 < size)
    (v : Value) (n : Nat) (xs : List Value) (hs : a.eval s = v) (hown : w.ownsRow base e size v n xs)
    (ap : Option Addr) (m c : Nat) (news : List Value) (hx : a.eval x = .slice ap m c) (hl : news.length = m * size)
    (hnews : m = 0 ∨ ∃ ad, ap = some ad ∧ ∀ j u, news[j]? = some u → w.cell? (ad.add j) = some u) (h1 : ∀ u ∈ news, u.oneCell' = true)
    (h63 : n + m ≤ maxLen) (hbytes : (n + m) * bytes ≤ 140737488355328) (hbase : base ≤ w.heap.size)
    (h : ∀ v' w', w'.ownsRow base e size v' (n + m) (xs ++ news) → w.grownBy w' v.ownBlock → wpList P ops Q rest (a.put o.dst v') w') : wpList P ops Q (o :: rest) a w := by
  by_cases hm : m = 0
  · subst hm
    obtain rfl : news = [] := List.eq_nil_of_length_eq_zero (by omega)
    obtain ⟨bp, cp, rfl, hcp⟩ := ownsRow_slice hown
    have hsrc : Src P i.size t (.slice ap 0 c) 0 [] w := by
      cases ap with
      | none => exact Src.ofNil w ht c
      | some ad => exact Src.ofSlice w ht ad 0 c [] (by simp) (by simp) (by simp)
    have hrun := run_append_nothing w t t o.type e i ht hi bp n cp hcp _ hsrc
    refine wpList_plain hgd fun K hK => ?_
    unfold Oper.wp
    simp [execOp, ho, resolve, invoke, builtin, hs, hx, hrun, Result.andThen]
    exact hK _ _ (h _ w (by simpa using hown) (grown_refl _ _))
  · rcases hnews with h0 | ⟨ad, rfl, hc⟩
    · exact absurd h0 hm
    · exact wpList_append_own w hgd s x t ho base e i z size bytes ht hi hz hsize hby hzs hsz v n xs hs hown ad m c news hx hl hc h1 h63 hbytes hbase (fun v' w' h2 h3 _ => h v' w' h2 h3)
end Go.Proofs.Ytiajpjkkopdmgaa.schema
/- A region whose order is open: all its operations but the last ones in a forced row only read; one walk in the order of the text serves every order. No condition. -/
namespace Go.Proofs.Ytiajpjkkopdmgaa.tail
open Go

section
variable {P : Program} {ops : Array Oper} {md : Region.Mode} {C : World → Prop}

def anyL (P : Program) (md : Region.Mode) (ops : Array Oper) (C : World → Prop) (n : Nat) (L : Array Bool → Act → Prop) : Nat → Array Bool → Act → Prop
  | 0, listed, a => L listed a
  | f + 1, listed, a =>
    Region.ready md ops listed ≠ [] ∧ ∀ i ∈ Region.ready md ops listed, i < n ∧ qOp P ops C i (anyL P md ops C n L f (listed.setIfInBounds i true)) a

theorem any_of_head {n g : Nat} {L : Array Bool → Act → Prop} {Q' : Exit → Act → World → Prop} (hL : ∀ listed a w, C w → L listed a → wpAny P md ops Q' g listed a w) :
    ∀ (f : Nat) (listed : Array Bool) (a : Act) (w : World), C w → anyL P md ops C n L f listed a → wpAny P md ops Q' (f + g) listed a w
  | 0, listed, a, w, hw, h => by rw [Nat.zero_add]; exact hL _ _ _ hw h
  | f + 1, listed, a, w, hw, h => by
    rw [show f + 1 + g = (f + g) + 1 by omega]
    exact ⟨fun h0 => absurd h0 h.1, fun i hi => wpOp_of_qOp hw (fun a' w' hw' h' => any_of_head hL f _ a' w' hw' h') (h.2 i hi).2⟩

theorem anyL_first {n i : Nat} {oi : Oper} {v : Value} {L : Array Bool → Act → Prop} (hi : ops[i]? = some oi) (hsel : ∀ (j : Nat) (o : Oper) cs b, ops[j]? = some o → o.op ≠ .select cs b)
    (hs : Region.sinkB md ops n = true) (hc : Region.chainB md ops n = true) (hn : n < ops.size) (hin : i < n)
    (hdone : ∀ listed a, L listed a → ∀ j ∈ Region.ready md ops listed, n ≤ j) :
    ∀ (f : Nat) (listed : Array Bool) (a : Act), HeadInv md ops n listed →
      (∀ j oj, ops[j]? = some oj → j ≠ i → listed.getD j true = false → (∀ e ∈ oj.after, Region.binds md e = true → e.on ≠ i) → oi.apart ops oj = true) →
      i ∈ Region.ready md ops listed → YieldsIn P ops C oi v a →
      anyL P md ops C n L f (listed.setIfInBounds i true) (a.put oi.dst v) → anyL P md ops C n L (f + 1) listed a := by
  intro f
  induction f with
  | zero =>
    intro listed a inv _ hr hy H
    have hun := (mem_ready.1 hr).1
    refine ⟨fun h => (by rw [h] at hr; cases hr), fun j hj => ?_⟩
    have hjn : j < n := by
      rcases Nat.lt_or_ge j n with h | h
      · exact h
      · exact absurd hj (tail_waits hs hc hn inv _ i rfl hin hun j h)
    refine ⟨hjn, ?_⟩
    by_cases hji : j = i
    · subst hji; exact hy.qOp hi H
    · have := hdone _ _ H j (ready_mono hj hji)
      omega
  | succ f ih =>
    intro listed a inv hfree hr hy H
    have hun := (mem_ready.1 hr).1
    refine ⟨fun h => (by rw [h] at hr; cases hr), fun j hj => ?_⟩
    have hjn : j < n := by
      rcases Nat.lt_or_ge j n with h | h
      · exact h
      · exact absurd hj (tail_waits hs hc hn inv _ i rfl hin hun j h)
    refine ⟨hjn, ?_⟩
    by_cases hji : j = i
    · subst hji; exact hy.qOp hi H
    · have h1 := (H.2 j (ready_mono hj hji)).2
      obtain ⟨hjun, oj, hoj, hall⟩ := mem_ready.1 hj
      have hnot : ∀ e ∈ oj.after, Region.binds md e = true → e.on ≠ i := fun e he hb heq => by
        have h1 := hall e he hb
        rw [heq, getD_both hun] at h1
        cases h1
      have h2 := qOp_put hoj (hfree j oj hoj hji hjun hnot) (fun cs b => hsel i oi cs b hi) (fun cs b => hsel j oj cs b hoj) hy h1
      have hfree' : ∀ k ok, ops[k]? = some ok → k ≠ i → (listed.setIfInBounds j true).getD k true = false →
          (∀ e ∈ ok.after, Region.binds md e = true → e.on ≠ i) → oi.apart ops ok = true := fun k ok hk hki hun hno => by
        refine hfree k ok hk hki ?_ hno
        by_cases hjk : j = k
        · subst hjk; exact hjun
        · rw [getD_set_ne true hjk] at hun; exact hun
      refine qOp_mono (fun a' h3 => ih (listed.setIfInBounds j true) a' (inv.set hj hjn) hfree' (ready_mono hr (Ne.symm hji)) h3.1 ?_) h2
      rw [Array.setIfInBounds_comm _ _ hji]
      exact h3.2

theorem anyL_lex {n g : Nat} {Lq : Act → Prop} (hsel : Region.noSelect ops = true) (hs : Region.sinkB md ops n = true) (hc : Region.chainB md ops n = true) (hn : n < ops.size) :
    ∀ (l : List Oper) (k : Nat) (listed : Array Bool) (a : Act), (∀ j, j < l.length → l[j]? = ops[k + j]?) → k + l.length = n → HeadInv md ops n listed →
    Region.lexHead md ops g l.length k listed = true → wpQuiet P ops C Lq l a →
    anyL P md ops C n (fun listed' a' => Region.seqB md ops g n listed' = true ∧ Lq a') l.length listed a
  | [], k, listed, a, _, hk, _, hB, h => by
    have : k = n := by simpa using hk
    subst this
    exact ⟨by simpa [Region.lexHead] using hB, h⟩
  | o :: l, k, listed, a, hl, hk, inv, hB, h => by
    have h0 : ops[k]? = some o := by simpa using (hl 0 (by simp)).symm
    simp only [List.length_cons, Region.lexHead, Bool.and_eq_true] at hB
    obtain ⟨⟨hr, hf⟩, hB'⟩ := hB
    have hkn : k < n := by simp only [List.length_cons] at hk; omega
    have hr' : k ∈ Region.ready md ops listed := by simpa using hr
    have hst : qOp P ops C k (wpQuiet P ops C Lq l) a := by unfold qOp; simp only [h0]; exact h
    obtain ⟨v, hy, hK⟩ := yieldsIn_of_qOp h0 hst
    exact anyL_first h0 (Region.noSelect_spec hsel) hs hc hn hkn (fun listed' a' hL => seqB_ready hL.1) l.length listed a inv (Region.free_spec h0 hf) hr' hy
      (anyL_lex hsel hs hc hn l (k + 1) _ _ (fun j hj => by have := hl (j + 1) (by simp; omega); simpa [Nat.add_assoc, Nat.add_comm 1 j] using this) (by simp only [List.length_cons] at hk; omega) (inv.set hr' hkn) hB' hK)

/-- the operations but the last ones only read, or call what only reads; the last ones stand in one row -/
theorem region {id : Nat} {Q : Exit → Act → World → Prop} {a : Act} {w : World} {l : List Oper} (n : Nat) (hm : P.follows .mixedOrders = true) (hB : Region.lexTailB .any l.toArray n = true)
    (h : wpQuiet P l.toArray (fun w' => ∃ n, w' = w.drewN n) (fun a' => ∀ w', (∃ n, w' = w.drewN n) → wpList P l.toArray Q (l.drop n) a' w') (l.take n) a) : (Code.region id l.toArray true).wp P Q a w := by
  simp only [Region.lexTailB, Bool.and_eq_true, decide_eq_true_eq] at hB
  obtain ⟨⟨⟨⟨hsel, hn⟩, hs⟩, hc⟩, hlex⟩ := hB
  have hn' : n < l.length := by simpa using hn
  have htl : (l.take n).length = n := by simp; omega
  have hdl : (l.drop n).length = l.toArray.size - n := by simp
  have inv0 : HeadInv .any l.toArray n (Array.replicate l.toArray.size false) :=
    ⟨by simp, fun j oj _ hl => (by rw [getD_replicate_false] at hl; cases hl), fun t _ ht => getD_in (by simpa using ht) (getD_replicate_false _ _)⟩
  have H := anyL_lex (md := .any) (g := l.toArray.size - n) hsel hs hc hn (l.take n) 0 _ a (fun j hj => by
    have hj' : j < n := by rw [htl] at hj; exact hj
    simp [hj']) (by simpa using htl) inv0 (by rw [htl]; exact hlex) h
  refine wp_region_any hm ?_
  have := any_of_head (C := fun w' => ∃ n, w' = w.drewN n) (Q' := Q) (g := l.toArray.size - n) (fun listed a' w' hw' hL => by
    have := wpAny_of_seq (md := .any) (Q' := Q) (l.drop n) n listed a' w' (fun j => by simp [List.getElem?_drop]) (by rw [hdl]; exact hL.1) (hL.2 w' hw')
    rwa [hdl] at this) _ _ _ _ ⟨1, rfl⟩ H
  rw [htl, show n + (l.toArray.size - n) = l.toArray.size by omega] at this
  exact this

/-! the same where the first m operations are plain moves, which may also come up late -/

def sinkFrom (md : Region.Mode) (ops : Array Oper) (m n : Nat) : Bool :=
  (List.range n).all fun i => decide (i < m) || (List.range (n + 1)).any fun j => decide (i < j) && Region.waitsFor md ops j i
theorem tail_waits_from {m n : Nat} {listed : Array Bool} (hs : sinkFrom md ops m n = true) (hc : Region.chainB md ops n = true) (hn : n < ops.size) (inv : HeadInv md ops n listed)
    (hm : ∀ i, i < m → listed.getD i true = true) :
    ∀ (d i : Nat), n - i = d → i < n → listed.getD i true = false → ∀ t, n ≤ t → t ∉ Region.ready md ops listed := by
  intro d
  induction d using Nat.strongRecOn with
  | _ d ih =>
    intro i hd hi hun t ht hr
    obtain ⟨_, ot, hot, hall⟩ := mem_ready.1 hr
    have htlt : t < ops.size := (Array.getElem?_eq_some_iff.1 hot).1
    by_cases htn : t = n
    · subst htn
      have h1 := List.all_eq_true.1 hs i (List.mem_range.2 hi)
      have hnm : ¬ i < m := fun h => by rw [hm i h] at hun; cases hun
      simp only [Bool.or_eq_true, decide_eq_true_eq, hnm, false_or] at h1
      obtain ⟨j, hj, hj2⟩ := List.any_eq_true.1 h1
      simp only [Bool.and_eq_true, decide_eq_true_eq] at hj2
      obtain ⟨oj, hoj, e, he, hb, hon⟩ := Region.waitsFor_spec hj2.2
      have hjle : j ≤ t := by have := List.mem_range.1 hj; omega
      by_cases hjt : j = t
      · subst hjt
        have : oj = ot := Option.some.inj (hoj.symm.trans hot)
        subst this
        have h2 := hall e he hb
        rw [hon, getD_both hun] at h2
        cases h2
      · cases hl : listed.getD j false with
        | true =>
          have h2 := inv.closed j oj hoj hl e he hb
          rw [hon, getD_both hun] at h2
          cases h2
        | false =>
          have hjs : j < listed.size := by rw [inv.size]; omega
          exact ih (t - j) (by omega) j rfl (by omega) (getD_in hjs hl) t (Nat.le_refl _) hr
    · have h1 := List.all_eq_true.1 hc t (List.mem_range.2 htlt)
      simp only [Bool.or_eq_true, decide_eq_true_eq] at h1
      rcases h1 with h1 | h1
      · omega
      · obtain ⟨o', ho', e, he, hb, hon⟩ := Region.waitsFor_spec h1
        have : o' = ot := Option.some.inj (ho'.symm.trans hot)
        subst this
        have h2 := hall e he hb
        rw [hon, getD_both (inv.tail (t - 1) (by omega) (by omega))] at h2
        cases h2

theorem anyL_first_from {m n i : Nat} {oi : Oper} {v : Value} {L : Array Bool → Act → Prop} (hi : ops[i]? = some oi) (hsel : ∀ (j : Nat) (o : Oper) cs b, ops[j]? = some o → o.op ≠ .select cs b)
    (hs : sinkFrom md ops m n = true) (hc : Region.chainB md ops n = true) (hn : n < ops.size) (hin : i < n)
    (hdone : ∀ listed a, L listed a → ∀ j ∈ Region.ready md ops listed, n ≤ j) :
    ∀ (f : Nat) (listed : Array Bool) (a : Act), HeadInv md ops n listed → (∀ i, i < m → listed.getD i true = true) →
      (∀ j oj, ops[j]? = some oj → j ≠ i → listed.getD j true = false → (∀ e ∈ oj.after, Region.binds md e = true → e.on ≠ i) → oi.apart ops oj = true) →
      i ∈ Region.ready md ops listed → YieldsIn P ops C oi v a →
      anyL P md ops C n L f (listed.setIfInBounds i true) (a.put oi.dst v) → anyL P md ops C n L (f + 1) listed a := by
  intro f
  induction f with
  | zero =>
    intro listed a inv hm _ hr hy H
    have hun := (mem_ready.1 hr).1
    refine ⟨fun h => (by rw [h] at hr; cases hr), fun j hj => ?_⟩
    have hjn : j < n := by
      rcases Nat.lt_or_ge j n with h | h
      · exact h
      · exact absurd hj (tail_waits_from hs hc hn inv hm _ i rfl hin hun j h)
    refine ⟨hjn, ?_⟩
    by_cases hji : j = i
    · subst hji; exact hy.qOp hi H
    · have := hdone _ _ H j (ready_mono hj hji)
      omega
  | succ f ih =>
    intro listed a inv hm hfree hr hy H
    have hun := (mem_ready.1 hr).1
    refine ⟨fun h => (by rw [h] at hr; cases hr), fun j hj => ?_⟩
    have hjn : j < n := by
      rcases Nat.lt_or_ge j n with h | h
      · exact h
      · exact absurd hj (tail_waits_from hs hc hn inv hm _ i rfl hin hun j h)
    refine ⟨hjn, ?_⟩
    by_cases hji : j = i
    · subst hji; exact hy.qOp hi H
    · have h1 := (H.2 j (ready_mono hj hji)).2
      obtain ⟨hjun, oj, hoj, hall⟩ := mem_ready.1 hj
      have hnot : ∀ e ∈ oj.after, Region.binds md e = true → e.on ≠ i := fun e he hb heq => by
        have h1 := hall e he hb
        rw [heq, getD_both hun] at h1
        cases h1
      have h2 := qOp_put hoj (hfree j oj hoj hji hjun hnot) (fun cs b => hsel i oi cs b hi) (fun cs b => hsel j oj cs b hoj) hy h1
      have hfree' : ∀ k ok, ops[k]? = some ok → k ≠ i → (listed.setIfInBounds j true).getD k true = false →
          (∀ e ∈ ok.after, Region.binds md e = true → e.on ≠ i) → oi.apart ops ok = true := fun k ok hk hki hun hno => by
        refine hfree k ok hk hki ?_ hno
        by_cases hjk : j = k
        · subst hjk; exact hjun
        · rw [getD_set_ne true hjk] at hun; exact hun
      have hm' : ∀ k, k < m → (listed.setIfInBounds j true).getD k true = true := fun k hk => by
        by_cases hjk : j = k
        · subst hjk; rw [hm j hk] at hjun; cases hjun
        · rw [getD_set_ne true hjk]; exact hm k hk
      refine qOp_mono (fun a' h3 => ih (listed.setIfInBounds j true) a' (inv.set hj hjn) hm' hfree' (ready_mono hr (Ne.symm hji)) h3.1 ?_) h2
      rw [Array.setIfInBounds_comm _ _ hji]
      exact h3.2

theorem anyL_lex_from {m n g : Nat} {Lq : Act → Prop} (hsel : Region.noSelect ops = true) (hs : sinkFrom md ops m n = true) (hc : Region.chainB md ops n = true) (hn : n < ops.size) :
    ∀ (l : List Oper) (k : Nat) (listed : Array Bool) (a : Act), (∀ j, j < l.length → l[j]? = ops[k + j]?) → k + l.length = n → m ≤ k → HeadInv md ops n listed → (∀ i, i < m → listed.getD i true = true) →
    Region.lexHead md ops g l.length k listed = true → wpQuiet P ops C Lq l a →
    anyL P md ops C n (fun listed' a' => Region.seqB md ops g n listed' = true ∧ Lq a') l.length listed a
  | [], k, listed, a, _, hk, _, _, _, hB, h => by
    have : k = n := by simpa using hk
    subst this
    exact ⟨by simpa [Region.lexHead] using hB, h⟩
  | o :: l, k, listed, a, hl, hk, hmk, inv, hm, hB, h => by
    have h0 : ops[k]? = some o := by simpa using (hl 0 (by simp)).symm
    simp only [List.length_cons, Region.lexHead, Bool.and_eq_true] at hB
    obtain ⟨⟨hr, hf⟩, hB'⟩ := hB
    have hkn : k < n := by simp only [List.length_cons] at hk; omega
    have hr' : k ∈ Region.ready md ops listed := by simpa using hr
    have hst : qOp P ops C k (wpQuiet P ops C Lq l) a := by unfold qOp; simp only [h0]; exact h
    obtain ⟨v, hy, hK⟩ := yieldsIn_of_qOp h0 hst
    have hm' : ∀ i, i < m → (listed.setIfInBounds k true).getD i true = true := fun i hi => by
      rw [getD_set_ne true (by omega)]; exact hm i hi
    exact anyL_first_from h0 (Region.noSelect_spec hsel) hs hc hn hkn (fun listed' a' hL => seqB_ready hL.1) l.length listed a inv hm (Region.free_spec h0 hf) hr' hy
      (anyL_lex_from hsel hs hc hn l (k + 1) _ _ (fun j hj => by have := hl (j + 1) (by simp; omega); simpa [Nat.add_assoc, Nat.add_comm 1 j] using this) (by simp only [List.length_cons] at hk; omega) (by omega) (inv.set hr' hkn) hm' hB' hK)

theorem held_of_any {Q : Exit → Act → World → Prop} : ∀ (fuel : Nat) (listed : Array Bool) (a : Act) (w : World), wpAny P md ops Q fuel listed a w → wpAnyH P md ops Q (fun _ => True) fuel listed a w
  | 0, _, _, _, h => h
  | fuel + 1, _, _, _, h => ⟨h.1, fun i hi => wpOp_mono (fun a' w' h' => ⟨trivial, held_of_any fuel _ a' w' h'⟩) (h.2 i hi)⟩

/-- a plain move -/
def isMove (o : Oper) : Bool := o.guard.isNone && match o.op with | .move _ => true | _ => false
theorem move_run {o : Oper} (h : isMove o = true) (a : Act) (w : World) : ∃ v, (execOp a.eval o).run P w = .ok (.value v) w ∧ ∀ w', (execOp a.eval o).run P w' = .ok (.value v) w' := by
  unfold isMove at h
  simp only [Bool.and_eq_true] at h
  obtain ⟨_, h2⟩ := h
  split at h2
  · rename_i x hx
    exact ⟨a.eval x, by simp [execOp, hx], fun w' => by simp [execOp, hx]⟩
  · cases h2

def lexMoves (md : Region.Mode) (ops : Array Oper) (F : Nat → Array Bool → Bool) : Nat → Nat → Array Bool → Bool
  | 0, k, listed => F k listed
  | f + 1, k, listed => (Region.ready md ops listed).contains k && Region.free md ops listed k && ((ops[k]?).map isMove == some true) && lexMoves md ops F f (k + 1) (listed.setIfInBounds k true)

theorem moves_first {m n : Nat} {Q : Exit → Act → World → Prop} {Lq : Act → Prop} {F : Nat → Array Bool → Bool} {w : World} (hsel : Region.noSelect ops = true) (hmn : m ≤ n) (hn : n < ops.size) (hC : C w)
    (hQ : ∀ c a a' w, Q (.panic c) a w → Q (.panic c) a' w) (g : Nat)
    (hK : ∀ listed a, HeadInv md ops n listed → (∀ i, i < m → listed.getD i true = true) → F m listed = true → Lq a → wpAny P md ops Q g listed a w) :
    ∀ (l : List Oper) (k : Nat) (listed : Array Bool) (a : Act), (∀ j, j < l.length → l[j]? = ops[k + j]?) → k + l.length = m → HeadInv md ops n listed → (∀ i, i < k → listed.getD i true = true) →
    lexMoves md ops F l.length k listed = true → wpQuiet P ops C Lq l a → wpAnyH P md ops Q (fun _ => True) (l.length + g) listed a w
  | [], k, listed, a, _, hk, inv, hm, hB, h => by
    have : k = m := by simpa using hk
    subst this
    simp only [List.length_nil, Nat.zero_add]
    exact held_of_any _ _ _ _ (hK _ _ inv hm (by simpa [lexMoves] using hB) h)
  | o :: l, k, listed, a, hl, hk, inv, hm, hB, h => by
    have h0 : ops[k]? = some o := by simpa using (hl 0 (by simp)).symm
    simp only [List.length_cons, lexMoves, Bool.and_eq_true] at hB
    obtain ⟨⟨⟨hr, hf⟩, hmv⟩, hB'⟩ := hB
    rw [h0] at hmv
    have hmv' : isMove o = true := by simpa using hmv
    have hkn : k < n := by simp only [List.length_cons] at hk; omega
    have hr' : k ∈ Region.ready md ops listed := by simpa using hr
    have hst : qOp P ops C k (wpQuiet P ops C Lq l) a := by unfold qOp; simp only [h0]; exact h
    obtain ⟨v, hy, hK'⟩ := yieldsIn_of_qOp h0 hst
    have hyI : YieldsIf P ops (fun _ => True) o v a := by
      rcases hy with ⟨hw, hv⟩ | hy
      · obtain ⟨u, hu, hu'⟩ := move_run (P := P) hmv' a w
        have h3 := hv w hC
        unfold Oper.quietAt at h3
        rw [hu] at h3
        simp only [Oper.quietUpon] at h3
        exact .inl ⟨hw, fun w' _ => by rw [hu' w', h3.2]⟩
      · exact .inr hy
    rw [show (o :: l).length + g = (l.length + g) + 1 from by simp only [List.length_cons]; omega]
    refine wpAnyH_take h0 hsel hf hr (fun c a w h => hQ c _ _ w h) hyI trivial ?_
    refine moves_first hsel hmn hn hC hQ g hK l (k + 1) _ _ (fun j hj => by have := hl (j + 1) (by simp; omega); simpa [Nat.add_assoc, Nat.add_comm 1 j] using this) (by simp only [List.length_cons] at hk; omega) (inv.set hr' hkn) ?_ hB' hK'
    intro i hi
    by_cases h : k = i
    · subst h
      have hks : k < listed.size := by rw [inv.size]; omega
      simp [hks]
    · rw [getD_set_ne true h]; exact hm i (by omega)

def lexTailFrom (md : Region.Mode) (ops : Array Oper) (m n : Nat) : Bool :=
  Region.noSelect ops && decide (n < ops.size) && decide (m ≤ n) && sinkFrom md ops m n && Region.chainB md ops n && lexMoves md ops (fun k listed => Region.lexHead md ops (ops.size - n) (n - m) k listed) m 0 (Array.replicate ops.size false)

theorem wpQuiet_append {Q : Act → Prop} : ∀ (l l' : List Oper) (a : Act), wpQuiet P ops C Q (l ++ l') a → wpQuiet P ops C (wpQuiet P ops C Q l') l a
  | [], _, _, h => h
  | o :: l, l', a, h => by
    simp only [List.cons_append, wpQuiet] at h ⊢
    split
    · rename_i hw
      simp only [hw, if_true] at h
      exact Oper.quiet_mono (fun a' h' => wpQuiet_append l l' a' h') h
    · rename_i hw
      simp only [hw] at h
      exact wpQuiet_append l l' _ h

/-- the first m operations are plain moves; those up to n only read; the last ones stand in one row; nothing panics -/
theorem regionFrom {id : Nat} {Q : Exit → Act → World → Prop} {a : Act} {w : World} {l : List Oper} (m n : Nat) (hmx : P.follows .mixedOrders = true) (hB : lexTailFrom .any l.toArray m n = true)
    (h : wpQuiet P l.toArray (fun w' => ∃ n, w' = w.drewN n) (fun a' => ∀ w', (∃ n, w' = w.drewN n) → wpList P l.toArray (NoPanic Q) (l.drop n) a' w') (l.take n) a) : (Code.region id l.toArray true).wp P Q a w := by
  simp only [lexTailFrom, Bool.and_eq_true, decide_eq_true_eq] at hB
  obtain ⟨⟨⟨⟨⟨hsel, hn⟩, hmn⟩, hs⟩, hc⟩, hlex⟩ := hB
  have hn' : n < l.length := by simpa using hn
  have htl : (l.take n).length = n := by simp; omega
  have hdl : (l.drop n).length = l.toArray.size - n := by simp
  have hsz : l.toArray.size = l.length := by simp
  have inv0 : HeadInv .any l.toArray n (Array.replicate l.toArray.size false) :=
    ⟨by simp, fun j oj _ hl => (by rw [getD_replicate_false] at hl; cases hl), fun t _ ht => getD_in (by simpa using ht) (getD_replicate_false _ _)⟩
  have hsplit : l.take n = l.take m ++ (l.take n).drop m := by
    have h2 := List.take_append_drop m (l.take n)
    rw [List.take_take, Nat.min_eq_left hmn] at h2
    exact h2.symm
  rw [hsplit] at h
  have h1 := wpQuiet_append _ _ _ h
  have hml : (l.take m).length = m := by simp; omega
  have hdl2 : ((l.take n).drop m).length = n - m := by simp; omega
  refine wp_region_noPanic (wp_region_held (S := fun _ => True) hmx ?_)
  have key := moves_first (md := .any) (C := fun w' => ∃ n, w' = w.drewN n) (w := { w with drawn := w.drawn + 1 }) (Q := NoPanic Q)
    (F := fun k listed => Region.lexHead .any l.toArray (l.toArray.size - n) (n - m) k listed) (g := (n - m) + (l.toArray.size - n)) hsel hmn hn ⟨1, rfl⟩ (fun c a a' w h => h)
    (fun listed a inv hm hF hL => by
      have H := anyL_lex_from (md := .any) (g := l.toArray.size - n) hsel hs hc hn ((l.take n).drop m) m listed a (fun j hj => by
        rw [hdl2] at hj
        rw [List.getElem?_drop, List.getElem?_take, if_pos (by omega)]
        simp) (by rw [hdl2]; omega) (Nat.le_refl _) inv hm (by rw [hdl2]; exact hF) hL
      have := any_of_head (C := fun w' => ∃ n, w' = w.drewN n) (Q' := NoPanic Q) (g := l.toArray.size - n) (fun listed a' w' hw' hL => by
        have := wpAny_of_seq (md := .any) (Q' := NoPanic Q) (l.drop n) n listed a' w' (fun j => by simp [List.getElem?_drop]) (by rw [hdl]; exact hL.1) (hL.2 w' hw')
        rwa [hdl] at this) _ _ _ { w with drawn := w.drawn + 1 } ⟨1, rfl⟩ H
      rwa [hdl2] at this)
    (l.take m) 0 _ a (fun j hj => by
      rw [hml] at hj
      rw [List.getElem?_take, if_pos hj]
      simp) (by rw [hml]; omega) inv0 (fun i hi => by omega) (by rw [hml]; exact hlex) h1
  rw [hml] at key
  rwa [show m + (n - m + (l.toArray.size - n)) = l.toArray.size from by omega] at key
end
end Go.Proofs.Ytiajpjkkopdmgaa.tail
/- slices.Insert of one element into a row of the call's own. No condition but rows of at most 1000 elements. -/
namespace Go.Proofs.Ytiajpjkkopdmgaa.schema
open Go.RowKit Go.Proofs.Ytiajpjkkopdmgaa.rows
set_option linter.unusedVariables false

/-- the call returns a row of its own that holds ys; but for the block of v all stands -/
def MadeF (base : Nat) (ob : Option Nat) (n : Nat) (ys : List Value) (w : World) (e : Ending) (w' : World) : Prop := ∃ v', e = .returned v' ∧ w'.ownsRow base 26 5 v' n ys ∧ w.grownBy w' ob
set_option maxRecDepth 20000 in
theorem insertF_any (base n i g goff vc : Nat) (gC : List Value) (gt : TypeId) (v : Value) (xs news : List Value) (w : World) (hown : w.ownsRow base 26 5 v n xs) (hbase : base ≤ w.heap.size) (hi : i ≤ n)
    (hl : news.length = 5) (hG : Block w g gt gC) (hgo : goff + 5 ≤ gC.length) (hgv : v.ownBlock ≠ some g) (hnews : ∀ j u, news[j]? = some u → gC[goff + j]? = some u) (h1 : ∀ u ∈ news, u.oneCell' = true) (hx1 : ∀ u ∈ xs, u.oneCell' = true) (hn : n ≤ 1000) :
    Calls Try.prog 84 #[v, .int .i64 i, .slice (some ⟨g, goff, none⟩) 1 vc] w (MadeF base v.ownBlock (n + 1) (xs.take (i * 5) ++ (news ++ xs.drop (i * 5))) w) := by
  obtain ⟨i0, hi0, hz0, hz1, hz2⟩ := fd_info_parts
  have hxl := hown.1
  have hcell : ∀ j u, news[j]? = some u → w.cell? ((⟨g, goff, none⟩ : Addr).add j) = some u := fun j u hj => by rw [Addr.add_lit, hG.cell]; exact hnews j u hj
  have b1 : (i : Int) ≤ n := by omega
  have b2 : (n : Int) ≤ 1000 := by omega
  by_cases hin : i = n
  · subst hin
    have e1 : xs.take (i * 5) = xs := List.take_of_length_le (by omega)
    have e2 : xs.drop (i * 5) = [] := List.drop_of_length_le (by omega)
    rw [e1, e2, List.append_nil]
    obtain ⟨bp, cp, rfl, hcp⟩ := ownsRow_slice hown
    have HO := hid hown
    have HC := hid hcell
    have HN2 : Hid (i + 1 ≤ maxLen) := by show _ ≤ _; unfold maxLen; omega
    have HN3 : Hid ((i + 1) * 40 ≤ 140737488355328) := by show _ ≤ _; omega
    have HL := hid hl
    have H1 := hid h1
    have HB := hid hbase
    obtain ⟨OB, hOB⟩ : ∃ OB, (Value.slice bp i cp).ownBlock = OB := ⟨_, rfl⟩
    have HOB := hid hOB
    rw [hOB]
    clear hOB hown hcell hxl hG hgo hnews h1 hx1 e1 e2 hl hbase hgv
    by_cases hci : i = cp
    · subst hci
      go_enter Try.func84, Try.ntmps84
      go_wp2_with (at_builtin; refine wpList_append_fromN rfl _ _ 30 rfl base 26 i0 _ 5 40 Try.underlying30 hi0 hz0 hz1 hz2 (by simp [Value.cells]) (by omega) _ i xs rfl HO.out (some ⟨g, goff, none⟩) 1 vc news rfl (by rw [HL.out]) (.inr ⟨_, rfl, HC.out⟩) H1.out HN2.out HN3.out HB.out ?_)
      intro v' w1 ho hg
      have HO2 := hid ho
      have HG2 := hid hg
      rw [HOB.out] at HG2
      clear ho hg
      go_wp2
      go_ret
      exact ⟨_, rfl, HO2.out, HG2.out⟩
    · go_enter Try.func84, Try.ntmps84
      go_wp2_with (at_builtin; refine wpList_append_fromN rfl _ _ 30 rfl base 26 i0 _ 5 40 Try.underlying30 hi0 hz0 hz1 hz2 (by simp [Value.cells]) (by omega) _ i xs rfl HO.out (some ⟨g, goff, none⟩) 1 vc news rfl (by rw [HL.out]) (.inr ⟨_, rfl, HC.out⟩) H1.out HN2.out HN3.out HB.out ?_)
      intro v' w1 ho hg
      have HO2 := hid ho
      have HG2 := hid hg
      rw [HOB.out] at HG2
      clear ho hg
      go_wp2
      go_ret
      exact ⟨_, rfl, HO2.out, HG2.out⟩
  · rcases hown.2 with ⟨rfl, h0⟩ | ⟨b, cap, cur, rfl, hbb, hB, hnc, hcm, hcs, htake⟩
    · omega
    · obtain ⟨C, rfl⟩ : ∃ C : List Value, cur = C.toArray := ⟨cur.toList, by simp⟩
      simp only [List.size_toArray] at hcs
      have htk : C.take (n * 5) = xs := by simpa using htake
      have hbg : g ≠ b := by intro h; subst h; exact hgv rfl
      have hX1 : C.take (i * 5) = xs.take (i * 5) := by rw [← htk, List.take_take, Nat.min_eq_left (Nat.mul_le_mul_right _ hi)]
      have hX2l : (xs.drop (i * 5)).length = (n - i) * 5 := by rw [List.length_drop, hxl, Nat.sub_mul]
      have hX2c : ∀ j u, (xs.drop (i * 5))[j]? = some u → C[i * 5 + j]? = some u := fun j u hj => by
        rw [List.getElem?_drop, ← htk, List.getElem?_take] at hj
        split at hj
        · exact hj
        · cases hj
      have hX21 : ∀ u ∈ xs.drop (i * 5), u.oneCell' = true := fun u hu => hx1 u (List.mem_of_mem_drop hu)
      obtain ⟨X2, hX2⟩ : ∃ X2, xs.drop (i * 5) = X2 := ⟨_, rfl⟩
      rw [hX2] at hX2l hX2c hX21 ⊢
      rw [← hX1]
      have hlt : i < n := by omega
      have c1 : (i : Int) < n := by omega
      have c2 : ¬ ((i : Int) = (n : Int)) := by omega
      have c3 : ¬ (cap = i) := by omega
      have hcm' : cap ≤ 9223372036854775807 := by unfold maxLen at hcm; omega
      have w1 : IntKind.i64.wrap ((i : Int) + 1) = (i : Int) + 1 := by rw [IntKind.wrap_i64]; omega
      have w2 : IntKind.i64.wrap ((n : Int) + 1) = (n : Int) + 1 := by rw [IntKind.wrap_i64]; omega
      have t1 : ((i : Int) + 1).toNat = i + 1 := by omega
      have t2 : ((n : Int) + 1).toNat = n + 1 := by omega
      have p1 : (0 : Int) ≤ (i : Int) + 1 := by omega
      have p2 : (i : Int) + 1 ≤ (n : Int) + 1 := by omega
      have hBB : Block w b 26 C := hB
      have hOB : (Value.slice (some ⟨b, 0, none⟩) n cap).ownBlock = some b := rfl
      rw [hOB]
      clear hOB
      by_cases hroom : n + 1 ≤ cap
      · have c4 : ¬ ((cap : Int) < (n : Int) + 1) := by omega
        have c5 : ¬ (cap = i + 1) := by omega
        have c6 : (n : Int) + 1 ≤ (cap : Int) := by omega
        have hov : ∀ lb cb, (callFunc 104 #[.slice (some ⟨g, goff, none⟩) 1 vc, .slice (some ⟨b, (i + 1) * 5, none⟩) lb cb]).run Try.prog w = .ok (.value (.bool false)) w := fun lb cb => by
          rw [run_callFunc_extern Try.func104 (by kernel_rfl) (by kernel_rfl) (by kernel_rfl) (e := Extern.SlicesOverlaps.overlaps #[30, 30] #[4]) (by kernel_rfl),
            run_overlapsN w 30 4 26 Try.underlying30 i0 hi0 ⟨g, goff, none⟩ ⟨b, (i + 1) * 5, none⟩ 1 vc lb cb hbg gt 26 gC C hG hBB (by intro h; subst h; simp at hcs; omega)]
          rfl
        have HB := hid hBB
        have HG := hid hG
        have HCS := hid hcs
        have HL := hid hl
        have HX2l := hid hX2l
        have HX2c := hid hX2c
        have HX21 := hid hX21
        have H1 := hid h1
        have HNW := hid hnews
        have HGO := hid hgo
        have HCM := hid hcm
        have HBB := hid hbb
        clear hown hcell hxl hG hgo hnews h1 hx1 hl hbase hgv htake htk hX1 hX2 hX2l hX2c hX21 hB hBB hcs hcm hbb
        go_enter Try.func84, Try.ntmps84
        go_wp2_with (simp only [hov])
        refine tail.region 8 (by kernel_rfl) (by kernel_rfl) ?_
        simp only [List.take_succ_cons, List.take_zero, List.drop_succ_cons, List.drop_zero]
        repeat (go_big_quiet_step (fail))
        refine wpQuiet_nil ?_
        rintro _ ⟨nq, rfl⟩
        refine wpList_copyN rfl _ _ 30 30 rfl 26 i0 5 Try.underlying30 hi0 hz1 _ _ _ _ _ _ rfl rfl b ((i + 1) * 5) C 26 (HB.out.drewN nq) (n - i) (by simp only [Nat.min_def]; split <;> omega) X2 HX2l.out (fun _ => ⟨rfl, ⟨b, i * 5, none⟩, rfl, fun j u hj => by rw [Addr.add_lit, (HB.out.drewN nq).cell]; exact HX2c.out j u hj⟩) (by rw [HX2l.out, HCS.out, ← Nat.add_mul]; exact Nat.mul_le_mul_right _ (by omega)) HX21.out ?_
        intro w3 h3
        have hG3 : Block w3 g gt gC := HG.out.but h3.out.2.1 HG.out.lt hbg
        have HG3 := hid hG3
        have hs3 := h3.out.2.2
        clear hG3
        go_wp2_with (refine wpList_copyN rfl _ _ 30 30 rfl 26 i0 5 Try.underlying30 hi0 hz1 _ _ _ _ _ _ rfl rfl b (i * 5) (splice C ((i + 1) * 5) X2) 26 h3.out.1 1 (by simp only [Nat.min_def]; split <;> omega) news (by rw [HL.out]) (fun _ => ⟨rfl, ⟨g, goff, none⟩, rfl, fun j u hj => by rw [Addr.add_lit, HG3.out.cell]; exact HNW.out j u hj⟩) (by rw [length_splice _ _ _ (by rw [HX2l.out, HCS.out, ← Nat.add_mul]; exact Nat.mul_le_mul_right _ (by omega)), HL.out, HCS.out]; exact (by omega : i * 5 + 5 ≤ cap * 5)) H1.out ?_)
        intro w4 h4
        go_wp2
        go_ret
        have hl2 := two C (i * 5) news X2 (by rw [HL.out, HX2l.out, HCS.out]; omega)
        rw [HL.out, HX2l.out, show i * 5 + 5 = (i + 1) * 5 by omega, show (i + 1) * 5 + (n - i) * 5 = (n + 1) * 5 by omega, List.append_assoc] at hl2
        refine ⟨_, rfl, own_of h4.out.1 HBB.out hroom HCM.out ?_ hl2, ?_⟩
        · rw [length_splice, length_splice, HCS.out]
          · rw [HX2l.out, HCS.out]; omega
          · rw [length_splice, HL.out, HCS.out]
            · omega
            · rw [HX2l.out, HCS.out]; omega
        · have e3 := h3.out.2.1
          have e4 := h4.out.2.1
          exact grown_of_but (v := .slice (some ⟨b, 0, none⟩) n cap) (But.trans (But.drewN e3 0) e4) rfl
      · obtain rfl : n = cap := by omega
        have c4 : (n : Int) < (n : Int) + 1 := by omega
        have k1 : IntKind.i64.wrap ((n : Int) + 1 - (i : Int)) = (n : Int) + 1 - (i : Int) := by rw [IntKind.wrap_i64]; omega
        have HB := hid hBB
        have HG := hid hG
        have HCS := hid hcs
        have HL := hid hl
        have HX2l := hid hX2l
        have HX2c := hid hX2c
        have HX21 := hid hX21
        have H1 := hid h1
        have HNW := hid hnews
        have HGO := hid hgo
        have HCM := hid hcm
        have HBB := hid hbb
        have HBW := hid hbase
        have hsz0 : 0 < 5 := by omega
        have HN3 : Hid ((i + (n + 1 - i)) * 40 ≤ 140737488355328) := by show _ ≤ _; omega
        have HN2 : Hid (i + (n + 1 - i) ≤ maxLen) := by show _ ≤ _; unfold maxLen; omega
        have HF0 : Hid (i * 5 ≤ C.length) := by show _ ≤ _; rw [hcs]; omega
        clear hown hcell hxl hG hgo hnews h1 hx1 hl hbase hgv htake htk hX1 hX2 hX2l hX2c hX21 hB hBB hcs hcm hbb
        go_enter Try.func84, Try.ntmps84
        go_wp2_with (at_builtin; refine wpList_append_zerosN rfl _ _ 30 3 rfl 26 i0 _ 5 40 Try.underlying30 Try.underlying3 hi0 hz0 hz1 hz2 (by simp [Value.cells]) hsz0 b i n rfl (n + 1 - i) _ rfl (by omega) (by omega) C HB.out HF0.out (by omega) (by omega) HN3.out HN2.out ?_)
        intro G R w3 h3
        have hs3 : w.heap.size < w3.heap.size := h3.out.2.2.2.2.2
        have g1 : ¬ (G = i) := by have := h3.out.2.2.1; omega
        have g2 : ¬ (G = i + 1) := by have := h3.out.2.2.1; omega
        have g3 : i + (n + 1 - i) = n + 1 := by omega
        have HG1 := hid h3.out.2.2.1
        have HG2 := hid h3.out.2.2.2.1
        have HRl := hid h3.out.2.1
        have HLT := hid HB.out.lt
        have HLG := hid HG.out.lt
        have HB3 : Hid (Block w3 b 26 C) := hid (HB.out.later h3.out.2.2.2.2.1)
        have HG3 : Hid (Block w3 g gt gC) := hid (HG.out.later h3.out.2.2.2.2.1)
        have HCL : Hid ((C.take (i * 5) ++ R).length = G * 5) := by
          show _ = _
          rw [List.length_append, List.length_take, Nat.min_eq_left HF0.out, HRl.out, ← Nat.add_mul]
          congr 1
          have := HG1.out
          omega
        rw [g3]
        go_wp2_with (refine wpList_copyN rfl _ _ 30 30 rfl 26 i0 5 Try.underlying30 hi0 hz1 _ _ _ _ _ _ rfl rfl w.heap.size (i * 5) (C.take (i * 5) ++ R) 26 h3.out.1 1 (by simp only [Nat.min_def]; split <;> omega) news (by rw [HL.out]) (fun _ => ⟨rfl, ⟨g, goff, none⟩, rfl, fun j u hj => by rw [Addr.add_lit, HG3.out.cell]; exact HNW.out j u hj⟩) (by rw [HCL.out, HL.out]; have := HG1.out; omega) H1.out ?_)
        intro w4 h4
        have HB4 : Hid (Block w4 b 26 C) := hid (HB3.out.but h4.out.2.1 HB3.out.lt (by have := HLT.out; omega))
        have hs4 := h4.out.2.2
        have HL4 : Hid ((splice (C.take (i * 5) ++ R) (i * 5) news).length = G * 5) := hid (by rw [length_splice _ _ _ (by rw [HCL.out, HL.out]; have := HG1.out; omega), HCL.out])
        go_wp2
        refine tail.region 8 (by kernel_rfl) (by kernel_rfl) ?_
        simp only [List.take_succ_cons, List.take_zero, List.drop_succ_cons, List.drop_zero]
        repeat (go_big_quiet_step (fail))
        refine wpQuiet_nil ?_
        rintro _ ⟨nq, rfl⟩
        refine wpList_copyN rfl _ _ 30 30 rfl 26 i0 5 Try.underlying30 hi0 hz1 _ _ _ _ _ _ rfl rfl w.heap.size ((i + 1) * 5) (splice (C.take (i * 5) ++ R) (i * 5) news) 26 (h4.out.1.drewN nq) (n - i) (by simp only [Nat.min_def]; split <;> omega) X2 HX2l.out (fun _ => ⟨rfl, ⟨b, i * 5, none⟩, rfl, fun j u hj => by rw [Addr.add_lit, (HB4.out.drewN nq).cell]; exact HX2c.out j u hj⟩) (by rw [HL4.out, HX2l.out]; have := HG1.out; omega) HX21.out ?_
        intro w5 h5
        go_wp2
        go_ret
        have hl2 := two' (C.take (i * 5) ++ R) (i * 5) news X2 (by rw [HL.out, HX2l.out, HCL.out]; have := HG1.out; omega)
        rw [HL.out, HX2l.out, show i * 5 + 5 = (i + 1) * 5 by omega, show (i + 1) * 5 + (n - i) * 5 = (n + 1) * 5 by omega, List.append_assoc, List.take_left' (by rw [List.length_take, Nat.min_eq_left HF0.out])] at hl2
        refine ⟨_, rfl, own_of h5.out.1 HBW.out (by have := HG1.out; omega) HG2.out ?_ hl2, ?_⟩
        · rw [length_splice, HL4.out]
          rw [HX2l.out, HL4.out]; have := HG1.out; omega
        · exact grown_of_below (h3.out.2.2.2.2.1.trans ((But.trans (But.drewN h4.out.2.1 0) (by have := h5.out.2.1; exact this.mono (by simp [hs4]))).below (by omega) (Nat.le_refl _)))
end Go.Proofs.Ytiajpjkkopdmgaa.schema
/- slices.Delete of one element of a row of the call's own. No condition but rows of at most 1000 elements. -/
namespace Go.Proofs.Ytiajpjkkopdmgaa.schema
open Go.RowKit Go.Proofs.Ytiajpjkkopdmgaa.rows
set_option linter.unusedVariables false

/-- as Made, in place -/
def LessF (base : Nat) (ob : Option Nat) (n : Nat) (ys : List Value) (w : World) (e : Ending) (w' : World) : Prop := ∃ v', e = .returned v' ∧ w'.ownsRow base 26 5 v' n ys ∧ w.grownBy w' ob ∧ v'.ownBlock = ob
set_option maxRecDepth 20000 in
theorem deleteF_any (base N i : Nat) (v : Value) (xs : List Value) (w : World) (hown : w.ownsRow base 26 5 v (N + 1) xs) (hi : i ≤ N) (hx1 : ∀ u ∈ xs, u.oneCell' = true) (hn : N ≤ 1000) :
    Calls Try.prog 85 #[v, .int .i64 i, .int .i64 ((i : Int) + 1)] w (LessF base v.ownBlock N (xs.take (i * 5) ++ xs.drop ((i + 1) * 5)) w) := by
  obtain ⟨i0, hi0, hz0, hz1, hz2⟩ := fd_info_parts
  have hxl := hown.1
  rcases hown.2 with ⟨_, h0⟩ | ⟨b, cap, cur, rfl, hbb, hB, hnc, hcm, hcs, htake⟩
  · omega
  · obtain ⟨C, rfl⟩ : ∃ C : List Value, cur = C.toArray := ⟨cur.toList, by simp⟩
    simp only [List.size_toArray] at hcs
    have htk : C.take ((N + 1) * 5) = xs := by simpa using htake
    have hX1 : C.take (i * 5) = xs.take (i * 5) := by rw [← htk, List.take_take, Nat.min_eq_left (Nat.mul_le_mul_right _ (by omega))]
    have hX2l : (xs.drop ((i + 1) * 5)).length = (N - i) * 5 := by rw [List.length_drop, hxl, ← Nat.sub_mul]; congr 1; omega
    have hX2c : ∀ j u, (xs.drop ((i + 1) * 5))[j]? = some u → C[(i + 1) * 5 + j]? = some u := fun j u hj => by
      rw [List.getElem?_drop, ← htk, List.getElem?_take] at hj
      split at hj
      · exact hj
      · cases hj
    have hX21 : ∀ u ∈ xs.drop ((i + 1) * 5), u.oneCell' = true := fun u hu => hx1 u (List.mem_of_mem_drop hu)
    obtain ⟨X2, hX2⟩ : ∃ X2, xs.drop ((i + 1) * 5) = X2 := ⟨_, rfl⟩
    rw [hX2] at hX2l hX2c hX21 ⊢
    rw [← hX1]
    have hOB : (Value.slice (some ⟨b, 0, none⟩) (N + 1) cap).ownBlock = some b := rfl
    rw [hOB]
    clear hOB
    have c1 : (i : Int) ≤ N := by omega
    have c2 : ¬ ((i : Int) = (i : Int) + 1) := by omega
    have c3 : ¬ (cap = N) := by omega
    have c4 : ¬ (cap = i) := by omega
    have hcm' : cap ≤ 9223372036854775807 := by unfold maxLen at hcm; omega
    have b2 : (N : Int) ≤ 1000 := by omega
    have t1 : ((i : Int) + 1).toNat = i + 1 := by omega
    have t2 : ((N : Int) + 1).toNat = N + 1 := by omega
    have p1 : (0 : Int) ≤ (i : Int) + 1 := by omega
    have hBB : Block w b 26 C := hB
    have hz1c : ∀ u ∈ (Value.cells (.agg #[.int .i64 0, .int .i64 0, .int .i64 0, .int .i64 0, .int .i64 0])).toList, u.oneCell' = true := by simp [Value.cells]; try decide
    have h0z : 0 < 5 := by omega
    have g3 : i + (N - i) = N := by omega
    have HB := hid hBB
    have HCS := hid hcs
    have HX2l := hid hX2l
    have HX2c := hid hX2c
    have HX21 := hid hX21
    have HCM := hid hcm
    have HBB := hid hbb
    have HNC : Hid ((N + 1) * 5 ≤ cap * 5) := Nat.mul_le_mul_right _ hnc
    clear hown hxl hx1 htake htk hX1 hX2 hX2l hX2c hX21 hB hBB hcs hcm hbb
    by_cases c5 : cap = i + 1
    · obtain rfl : i = N := by omega
      subst c5
      go_enter Try.func85, Try.ntmps85
      go_wp2
      refine tail.region 6 (by kernel_rfl) (by kernel_rfl) ?_
      simp only [List.take_succ_cons, List.take_zero, List.drop_succ_cons, List.drop_zero]
      repeat (go_big_quiet_step (fail))
      refine wpQuiet_nil ?_
      rintro _ ⟨nq, rfl⟩
      refine wpList_append_inN rfl _ _ 30 rfl 26 i0 5 Try.underlying30 hi0 hz1 b _ _ rfl C (HB.out.drewN nq) _ 0 _ rfl X2 (by have := HX2l.out; simpa using this) (fun h => absurd h (by omega)) HX21.out (by omega) (by rw [HX2l.out, HCS.out]; have := HNC.out; omega) ?_
      intro w3 h3
      have HL3 : Hid ((splice C (i * 5) X2).length = (i + 1) * 5) := hid (by rw [length_splice _ _ _ (by rw [HX2l.out, HCS.out]; have := HNC.out; omega), HCS.out])
      go_wp2_with (refine wpList_clearN rfl _ 30 rfl 26 i0 _ 5 Try.underlying30 hi0 hz0 (by simp [Value.cells]) hz1c h0z _ 1 _ rfl b (i * 5) (splice C (i * 5) X2) 26 h3.out.1 (fun _ => by simp) (by rw [HL3.out]; have := HNC.out; omega) ?_)
      intro Z w4 h4
      go_wp2
      go_ret
      have hl2 : (splice (splice C (i * 5) X2) (i * 5) Z).take (i * 5) = C.take (i * 5) ++ X2 := by
        rw [splice_head _ _ _ _ (Nat.le_refl _) (by rw [HL3.out]; have := HNC.out; omega)]
        have := splice_take C (i * 5) X2 (by rw [HCS.out]; have := HNC.out; omega)
        rw [HX2l.out, ← Nat.add_mul, g3] at this
        exact this
      refine ⟨_, rfl, own_of h4.out.2.1 HBB.out (by omega) HCM.out (by rw [length_splice _ _ _ (by rw [HL3.out, h4.out.1]; have := HNC.out; omega), HL3.out]) hl2, ?_, rfl⟩
      exact grown_of_but (v := .slice (some ⟨b, 0, none⟩) i (i + 1)) (But.trans (But.drewN h3.out.2.1 0) (h4.out.2.2.1.mono (by have := h3.out.2.2; simp at this; omega))) rfl
    · go_enter Try.func85, Try.ntmps85
      go_wp2
      refine tail.region 6 (by kernel_rfl) (by kernel_rfl) ?_
      simp only [List.take_succ_cons, List.take_zero, List.drop_succ_cons, List.drop_zero]
      repeat (go_big_quiet_step (fail))
      refine wpQuiet_nil ?_
      rintro _ ⟨nq, rfl⟩
      refine wpList_append_inN rfl _ _ 30 rfl 26 i0 5 Try.underlying30 hi0 hz1 b _ _ rfl C (HB.out.drewN nq) _ (N - i) _ (by rfl) X2 HX2l.out (fun h => ⟨⟨b, (i + 1) * 5, none⟩, rfl, fun j u hj => by rw [Addr.add_lit, (HB.out.drewN nq).cell]; exact HX2c.out j u hj⟩) HX21.out (by omega) (by rw [HX2l.out, HCS.out]; have := HNC.out; omega) ?_
      intro w3 h3
      rw [g3]
      have HL3 : Hid ((splice C (i * 5) X2).length = cap * 5) := hid (by rw [length_splice _ _ _ (by rw [HX2l.out, HCS.out]; have := HNC.out; omega), HCS.out])
      go_wp2_with (refine wpList_clearN rfl _ 30 rfl 26 i0 _ 5 Try.underlying30 hi0 hz0 (by simp [Value.cells]) hz1c h0z _ 1 _ rfl b (N * 5) (splice C (i * 5) X2) 26 h3.out.1 (fun _ => by simp) (by rw [HL3.out]; have := HNC.out; omega) ?_)
      intro Z w4 h4
      go_wp2
      go_ret
      have hl2 : (splice (splice C (i * 5) X2) (N * 5) Z).take (N * 5) = C.take (i * 5) ++ X2 := by
        rw [splice_head _ _ _ _ (Nat.le_refl _) (by rw [HL3.out]; have := HNC.out; omega)]
        have := splice_take C (i * 5) X2 (by rw [HCS.out]; have := HNC.out; omega)
        rw [HX2l.out, ← Nat.add_mul, g3] at this
        exact this
      refine ⟨_, rfl, own_of h4.out.2.1 HBB.out (by omega) HCM.out (by rw [length_splice _ _ _ (by rw [HL3.out, h4.out.1]; have := HNC.out; omega), HL3.out]) hl2, ?_, rfl⟩
      exact grown_of_but (v := .slice (some ⟨b, 0, none⟩) N cap) (But.trans (But.drewN h3.out.2.1 0) (h4.out.2.2.1.mono (by have := h3.out.2.2; simp at this; omega))) rfl
end Go.Proofs.Ytiajpjkkopdmgaa.schema
