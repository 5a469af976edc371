/- Contracts and lemmas that the claims of this seat share: Tail, InsertF, DeleteF. Each says its own conditions. -/
import Derived.StillTail
import Derived.Deep.RegionHeld3
import Derived.Deep.QuietTactic
import Derived.BigQuiet
import Derived.WalkKit
import Derived.Test.YtiajpjkkopdmgaaRows
import Derived.Test.YtiajpjkkopdmgaaCmA

namespace Go.Proofs.Ytiajpjkkopdmgaa.tail
open Go

section
variable {P : Program} {ops : Array Oper} {md : Region.Mode} {C : World → Prop}

def anyL (P : Program) (md : Region.Mode) (ops : Array Oper) (C : World → Prop) (n : Nat) (L : Array Bool → Act → Prop) : Nat → Array Bool → Act → Prop
  | 0, listed, a => L listed a
  | f + 1, listed, a =>
    Region.ready md ops listed ≠ [] ∧ ∀ i ∈ Region.ready md ops listed, i < n ∧ qOp P ops C i (anyL P md ops C n L f (listed.setIfInBounds i true)) a

theorem any_of_head {n g : Nat} {L : Array Bool → Act → Prop} {Q' : Exit → Act → World → Prop} (hL : ∀ listed a w, C w → L listed a → wpAny P md ops Q' g listed a w) :
    ∀ (f : Nat) (listed : Array Bool) (a : Act) (w : World), C w → anyL P md ops C n L f listed a → wpAny P md ops Q' (f + g) listed a w
  | 0, listed, a, w, hw, h => by rw [Nat.zero_add]; exact hL _ _ _ hw h
  | f + 1, listed, a, w, hw, h => by
    rw [show f + 1 + g = (f + g) + 1 by omega]
    exact ⟨fun h0 => absurd h0 h.1, fun i hi => wpOp_of_qOp hw (fun a' w' hw' h' => any_of_head hL f _ a' w' hw' h') (h.2 i hi).2⟩

theorem anyL_first {n i : Nat} {oi : Oper} {v : Value} {L : Array Bool → Act → Prop} (hi : ops[i]? = some oi) (hsel : ∀ (j : Nat) (o : Oper) cs b, ops[j]? = some o → o.op ≠ .select cs b)
    (hs : Region.sinkB md ops n = true) (hc : Region.chainB md ops n = true) (hn : n < ops.size) (hin : i < n)
    (hdone : ∀ listed a, L listed a → ∀ j ∈ Region.ready md ops listed, n ≤ j) :
    ∀ (f : Nat) (listed : Array Bool) (a : Act), HeadInv md ops n listed →
      (∀ j oj, ops[j]? = some oj → j ≠ i → listed.getD j true = false → (∀ e ∈ oj.after, Region.binds md e = true → e.on ≠ i) → oi.apart ops oj = true) →
      i ∈ Region.ready md ops listed → YieldsIn P ops C oi v a →
      anyL P md ops C n L f (listed.setIfInBounds i true) (a.put oi.dst v) → anyL P md ops C n L (f + 1) listed a := by
  intro f
  induction f with
  | zero =>
    intro listed a inv _ hr hy H
    have hun := (mem_ready.1 hr).1
    refine ⟨fun h => (by rw [h] at hr; cases hr), fun j hj => ?_⟩
    have hjn : j < n := by
      rcases Nat.lt_or_ge j n with h | h
      · exact h
      · exact absurd hj (tail_waits hs hc hn inv _ i rfl hin hun j h)
    refine ⟨hjn, ?_⟩
    by_cases hji : j = i
    · subst hji; exact hy.qOp hi H
    · have := hdone _ _ H j (ready_mono hj hji)
      omega
  | succ f ih =>
    intro listed a inv hfree hr hy H
    have hun := (mem_ready.1 hr).1
    refine ⟨fun h => (by rw [h] at hr; cases hr), fun j hj => ?_⟩
    have hjn : j < n := by
      rcases Nat.lt_or_ge j n with h | h
      · exact h
      · exact absurd hj (tail_waits hs hc hn inv _ i rfl hin hun j h)
    refine ⟨hjn, ?_⟩
    by_cases hji : j = i
    · subst hji; exact hy.qOp hi H
    · have h1 := (H.2 j (ready_mono hj hji)).2
      obtain ⟨hjun, oj, hoj, hall⟩ := mem_ready.1 hj
      have hnot : ∀ e ∈ oj.after, Region.binds md e = true → e.on ≠ i := fun e he hb heq => by
        have h1 := hall e he hb
        rw [heq, getD_both hun] at h1
        cases h1
      have h2 := qOp_put hoj (hfree j oj hoj hji hjun hnot) (fun cs b => hsel i oi cs b hi) (fun cs b => hsel j oj cs b hoj) hy h1
      have hfree' : ∀ k ok, ops[k]? = some ok → k ≠ i → (listed.setIfInBounds j true).getD k true = false →
          (∀ e ∈ ok.after, Region.binds md e = true → e.on ≠ i) → oi.apart ops ok = true := fun k ok hk hki hun hno => by
        refine hfree k ok hk hki ?_ hno
        by_cases hjk : j = k
        · subst hjk; exact hjun
        · rw [getD_set_ne true hjk] at hun; exact hun
      refine qOp_mono (fun a' h3 => ih (listed.setIfInBounds j true) a' (inv.set hj hjn) hfree' (ready_mono hr (Ne.symm hji)) h3.1 ?_) h2
      rw [Array.setIfInBounds_comm _ _ hji]
      exact h3.2

theorem anyL_lex {n g : Nat} {Lq : Act → Prop} (hsel : Region.noSelect ops = true) (hs : Region.sinkB md ops n = true) (hc : Region.chainB md ops n = true) (hn : n < ops.size) :
    ∀ (l : List Oper) (k : Nat) (listed : Array Bool) (a : Act), (∀ j, j < l.length → l[j]? = ops[k + j]?) → k + l.length = n → HeadInv md ops n listed →
    Region.lexHead md ops g l.length k listed = true → wpQuiet P ops C Lq l a →
    anyL P md ops C n (fun listed' a' => Region.seqB md ops g n listed' = true ∧ Lq a') l.length listed a
  | [], k, listed, a, _, hk, _, hB, h => by
    have : k = n := by simpa using hk
    subst this
    exact ⟨by simpa [Region.lexHead] using hB, h⟩
  | o :: l, k, listed, a, hl, hk, inv, hB, h => by
    have h0 : ops[k]? = some o := by simpa using (hl 0 (by simp)).symm
    simp only [List.length_cons, Region.lexHead, Bool.and_eq_true] at hB
    obtain ⟨⟨hr, hf⟩, hB'⟩ := hB
    have hkn : k < n := by simp only [List.length_cons] at hk; omega
    have hr' : k ∈ Region.ready md ops listed := by simpa using hr
    have hst : qOp P ops C k (wpQuiet P ops C Lq l) a := by unfold qOp; simp only [h0]; exact h
    obtain ⟨v, hy, hK⟩ := yieldsIn_of_qOp h0 hst
    exact anyL_first h0 (Region.noSelect_spec hsel) hs hc hn hkn (fun listed' a' hL => seqB_ready hL.1) l.length listed a inv (Region.free_spec h0 hf) hr' hy
      (anyL_lex hsel hs hc hn l (k + 1) _ _ (fun j hj => by have := hl (j + 1) (by simp; omega); simpa [Nat.add_assoc, Nat.add_comm 1 j] using this) (by simp only [List.length_cons] at hk; omega) (inv.set hr' hkn) hB' hK)

/-- the operations but the last ones only read, or call what only reads; the last ones stand in one row -/
theorem region {id : Nat} {Q : Exit → Act → World → Prop} {a : Act} {w : World} {l : List Oper} (n : Nat) (hm : P.follows .mixedOrders = true) (hB : Region.lexTailB .any l.toArray n = true)
    (h : wpQuiet P l.toArray (fun w' => ∃ n, w' = w.drewN n) (fun a' => ∀ w', (∃ n, w' = w.drewN n) → wpList P l.toArray Q (l.drop n) a' w') (l.take n) a) : (Code.region id l.toArray true).wp P Q a w := by
  simp only [Region.lexTailB, Bool.and_eq_true, decide_eq_true_eq] at hB
  obtain ⟨⟨⟨⟨hsel, hn⟩, hs⟩, hc⟩, hlex⟩ := hB
  have hn' : n < l.length := by simpa using hn
  have htl : (l.take n).length = n := by simp; omega
  have hdl : (l.drop n).length = l.toArray.size - n := by simp
  have inv0 : HeadInv .any l.toArray n (Array.replicate l.toArray.size false) :=
    ⟨by simp, fun j oj _ hl => (by rw [getD_replicate_false] at hl; cases hl), fun t _ ht => getD_in (by simpa using ht) (getD_replicate_false _ _)⟩
  have H := anyL_lex (md := .any) (g := l.toArray.size - n) hsel hs hc hn (l.take n) 0 _ a (fun j hj => by
    have hj' : j < n := by rw [htl] at hj; exact hj
    simp [hj']) (by simpa using htl) inv0 (by rw [htl]; exact hlex) h
  refine wp_region_any hm ?_
  have := any_of_head (C := fun w' => ∃ n, w' = w.drewN n) (Q' := Q) (g := l.toArray.size - n) (fun listed a' w' hw' hL => by
    have := wpAny_of_seq (md := .any) (Q' := Q) (l.drop n) n listed a' w' (fun j => by simp [List.getElem?_drop]) (by rw [hdl]; exact hL.1) (hL.2 w' hw')
    rwa [hdl] at this) _ _ _ _ ⟨1, rfl⟩ H
  rw [htl, show n + (l.toArray.size - n) = l.toArray.size by omega] at this
  exact this

theorem held_of_any {Q : Exit → Act → World → Prop} : ∀ (fuel : Nat) (listed : Array Bool) (a : Act) (w : World), wpAny P md ops Q fuel listed a w → wpAnyH P md ops Q (fun _ => True) fuel listed a w
  | 0, _, _, _, h => h
  | fuel + 1, _, _, _, h => ⟨h.1, fun i hi => wpOp_mono (fun a' w' h' => ⟨trivial, held_of_any fuel _ a' w' h'⟩) (h.2 i hi)⟩

end
end Go.Proofs.Ytiajpjkkopdmgaa.tail

namespace Go.Proofs.Ytiajpjkkopdmgaa.schema
open Go.RowKit Go.Proofs.Ytiajpjkkopdmgaa.rows
set_option linter.unusedVariables false

/-- the call returns a row of its own that holds ys; but for the block of v all stands -/
def MadeF (base : Nat) (ob : Option Nat) (n : Nat) (ys : List Value) (w : World) (e : Ending) (w' : World) : Prop := ∃ v', e = .returned v' ∧ w'.ownsRow base 26 5 v' n ys ∧ w.grownBy w' ob
set_option maxRecDepth 20000 in
theorem insertF_any (base n i g goff vc : Nat) (gC : List Value) (gt : TypeId) (v : Value) (xs news : List Value) (w : World) (hown : w.ownsRow base 26 5 v n xs) (hbase : base ≤ w.heap.size) (hi : i ≤ n)
    (hl : news.length = 5) (hG : Block w g gt gC) (hgo : goff + 5 ≤ gC.length) (hgv : v.ownBlock ≠ some g) (hnews : ∀ j u, news[j]? = some u → gC[goff + j]? = some u) (h1 : ∀ u ∈ news, u.oneCell' = true) (hx1 : ∀ u ∈ xs, u.oneCell' = true) (hn : n ≤ 1000) :
    Calls Try.prog 84 #[v, .int .i64 i, .slice (some ⟨g, goff, none⟩) 1 vc] w (MadeF base v.ownBlock (n + 1) (xs.take (i * 5) ++ (news ++ xs.drop (i * 5))) w) := by
  obtain ⟨i0, hi0, hz0, hz1, hz2⟩ := fd_info_parts
  have hxl := hown.1
  have hcell : ∀ j u, news[j]? = some u → w.cell? ((⟨g, goff, none⟩ : Addr).add j) = some u := fun j u hj => by rw [Addr.add_lit, hG.cell]; exact hnews j u hj
  have b1 : (i : Int) ≤ n := by omega
  have b2 : (n : Int) ≤ 1000 := by omega
  by_cases hin : i = n
  · subst hin
    have e1 : xs.take (i * 5) = xs := List.take_of_length_le (by omega)
    have e2 : xs.drop (i * 5) = [] := List.drop_of_length_le (by omega)
    rw [e1, e2, List.append_nil]
    obtain ⟨bp, cp, rfl, hcp⟩ := ownsRow_slice hown
    have HO := hid hown
    have HC := hid hcell
    have HN2 : Hid (i + 1 ≤ maxLen) := by show _ ≤ _; unfold maxLen; omega
    have HN3 : Hid ((i + 1) * 40 ≤ 140737488355328) := by show _ ≤ _; omega
    have HL := hid hl
    have H1 := hid h1
    have HB := hid hbase
    obtain ⟨OB, hOB⟩ : ∃ OB, (Value.slice bp i cp).ownBlock = OB := ⟨_, rfl⟩
    have HOB := hid hOB
    rw [hOB]
    clear hOB hown hcell hxl hG hgo hnews h1 hx1 e1 e2 hl hbase hgv
    by_cases hci : i = cp
    · subst hci
      go_enter Try.func84, Try.ntmps84
      go_wp2_with (at_builtin; refine wpList_append_fromN rfl _ _ 30 rfl base 26 i0 _ 5 40 Try.underlying30 hi0 hz0 hz1 hz2 (by simp [Value.cells]) (by omega) _ i xs rfl HO.out (some ⟨g, goff, none⟩) 1 vc news rfl (by rw [HL.out]) (.inr ⟨_, rfl, HC.out⟩) H1.out HN2.out HN3.out HB.out ?_)
      intro v' w1 ho hg
      have HO2 := hid ho
      have HG2 := hid hg
      rw [HOB.out] at HG2
      clear ho hg
      go_wp2
      go_ret
      exact ⟨_, rfl, HO2.out, HG2.out⟩
    · go_enter Try.func84, Try.ntmps84
      go_wp2_with (at_builtin; refine wpList_append_fromN rfl _ _ 30 rfl base 26 i0 _ 5 40 Try.underlying30 hi0 hz0 hz1 hz2 (by simp [Value.cells]) (by omega) _ i xs rfl HO.out (some ⟨g, goff, none⟩) 1 vc news rfl (by rw [HL.out]) (.inr ⟨_, rfl, HC.out⟩) H1.out HN2.out HN3.out HB.out ?_)
      intro v' w1 ho hg
      have HO2 := hid ho
      have HG2 := hid hg
      rw [HOB.out] at HG2
      clear ho hg
      go_wp2
      go_ret
      exact ⟨_, rfl, HO2.out, HG2.out⟩
  · rcases hown.2 with ⟨rfl, h0⟩ | ⟨b, cap, cur, rfl, hbb, hB, hnc, hcm, hcs, htake⟩
    · omega
    · obtain ⟨C, rfl⟩ : ∃ C : List Value, cur = C.toArray := ⟨cur.toList, by simp⟩
      simp only [List.size_toArray] at hcs
      have htk : C.take (n * 5) = xs := by simpa using htake
      have hbg : g ≠ b := by intro h; subst h; exact hgv rfl
      have hX1 : C.take (i * 5) = xs.take (i * 5) := by rw [← htk, List.take_take, Nat.min_eq_left (Nat.mul_le_mul_right _ hi)]
      have hX2l : (xs.drop (i * 5)).length = (n - i) * 5 := by rw [List.length_drop, hxl, Nat.sub_mul]
      have hX2c : ∀ j u, (xs.drop (i * 5))[j]? = some u → C[i * 5 + j]? = some u := fun j u hj => by
        rw [List.getElem?_drop, ← htk, List.getElem?_take] at hj
        split at hj
        · exact hj
        · cases hj
      have hX21 : ∀ u ∈ xs.drop (i * 5), u.oneCell' = true := fun u hu => hx1 u (List.mem_of_mem_drop hu)
      obtain ⟨X2, hX2⟩ : ∃ X2, xs.drop (i * 5) = X2 := ⟨_, rfl⟩
      rw [hX2] at hX2l hX2c hX21 ⊢
      rw [← hX1]
      have hlt : i < n := by omega
      have c1 : (i : Int) < n := by omega
      have c2 : ¬ ((i : Int) = (n : Int)) := by omega
      have c3 : ¬ (cap = i) := by omega
      have hcm' : cap ≤ 9223372036854775807 := by unfold maxLen at hcm; omega
      have w1 : IntKind.i64.wrap ((i : Int) + 1) = (i : Int) + 1 := by rw [IntKind.wrap_i64]; omega
      have w2 : IntKind.i64.wrap ((n : Int) + 1) = (n : Int) + 1 := by rw [IntKind.wrap_i64]; omega
      have t1 : ((i : Int) + 1).toNat = i + 1 := by omega
      have t2 : ((n : Int) + 1).toNat = n + 1 := by omega
      have p1 : (0 : Int) ≤ (i : Int) + 1 := by omega
      have p2 : (i : Int) + 1 ≤ (n : Int) + 1 := by omega
      have hBB : Block w b 26 C := hB
      have hOB : (Value.slice (some ⟨b, 0, none⟩) n cap).ownBlock = some b := rfl
      rw [hOB]
      clear hOB
      by_cases hroom : n + 1 ≤ cap
      · have c4 : ¬ ((cap : Int) < (n : Int) + 1) := by omega
        have c5 : ¬ (cap = i + 1) := by omega
        have c6 : (n : Int) + 1 ≤ (cap : Int) := by omega
        have hov : ∀ lb cb, (callFunc 104 #[.slice (some ⟨g, goff, none⟩) 1 vc, .slice (some ⟨b, (i + 1) * 5, none⟩) lb cb]).run Try.prog w = .ok (.value (.bool false)) w := fun lb cb => by
          rw [run_callFunc_extern Try.func104 (by kernel_rfl) (by kernel_rfl) (by kernel_rfl) (e := Extern.SlicesOverlaps.overlaps #[30, 30] #[4]) (by kernel_rfl),
            run_overlapsN w 30 4 26 Try.underlying30 i0 hi0 ⟨g, goff, none⟩ ⟨b, (i + 1) * 5, none⟩ 1 vc lb cb hbg gt 26 gC C hG hBB (by intro h; subst h; simp at hcs; omega)]
          rfl
        have HB := hid hBB
        have HG := hid hG
        have HCS := hid hcs
        have HL := hid hl
        have HX2l := hid hX2l
        have HX2c := hid hX2c
        have HX21 := hid hX21
        have H1 := hid h1
        have HNW := hid hnews
        have HGO := hid hgo
        have HCM := hid hcm
        have HBB := hid hbb
        clear hown hcell hxl hG hgo hnews h1 hx1 hl hbase hgv htake htk hX1 hX2 hX2l hX2c hX21 hB hBB hcs hcm hbb
        go_enter Try.func84, Try.ntmps84
        go_wp2_with (simp only [hov])
        refine tail.region 8 (by kernel_rfl) (by kernel_rfl) ?_
        simp only [List.take_succ_cons, List.take_zero, List.drop_succ_cons, List.drop_zero]
        repeat (go_big_quiet_step (fail))
        refine wpQuiet_nil ?_
        rintro _ ⟨nq, rfl⟩
        refine wpList_copyN rfl _ _ 30 30 rfl 26 i0 5 Try.underlying30 hi0 hz1 _ _ _ _ _ _ rfl rfl b ((i + 1) * 5) C 26 (HB.out.drewN nq) (n - i) (by simp only [Nat.min_def]; split <;> omega) X2 HX2l.out (fun _ => ⟨rfl, ⟨b, i * 5, none⟩, rfl, fun j u hj => by rw [Addr.add_lit, (HB.out.drewN nq).cell]; exact HX2c.out j u hj⟩) (by rw [HX2l.out, HCS.out, ← Nat.add_mul]; exact Nat.mul_le_mul_right _ (by omega)) HX21.out ?_
        intro w3 h3
        have hG3 : Block w3 g gt gC := HG.out.but h3.out.2.1 HG.out.lt hbg
        have HG3 := hid hG3
        have hs3 := h3.out.2.2
        clear hG3
        go_wp2_with (refine wpList_copyN rfl _ _ 30 30 rfl 26 i0 5 Try.underlying30 hi0 hz1 _ _ _ _ _ _ rfl rfl b (i * 5) (splice C ((i + 1) * 5) X2) 26 h3.out.1 1 (by simp only [Nat.min_def]; split <;> omega) news (by rw [HL.out]) (fun _ => ⟨rfl, ⟨g, goff, none⟩, rfl, fun j u hj => by rw [Addr.add_lit, HG3.out.cell]; exact HNW.out j u hj⟩) (by rw [length_splice _ _ _ (by rw [HX2l.out, HCS.out, ← Nat.add_mul]; exact Nat.mul_le_mul_right _ (by omega)), HL.out, HCS.out]; exact (by omega : i * 5 + 5 ≤ cap * 5)) H1.out ?_)
        intro w4 h4
        go_wp2
        go_ret
        have hl2 := two C (i * 5) news X2 (by rw [HL.out, HX2l.out, HCS.out]; omega)
        rw [HL.out, HX2l.out, show i * 5 + 5 = (i + 1) * 5 by omega, show (i + 1) * 5 + (n - i) * 5 = (n + 1) * 5 by omega, List.append_assoc] at hl2
        refine ⟨_, rfl, own_of h4.out.1 HBB.out hroom HCM.out ?_ hl2, ?_⟩
        · rw [length_splice, length_splice, HCS.out]
          · rw [HX2l.out, HCS.out]; omega
          · rw [length_splice, HL.out, HCS.out]
            · omega
            · rw [HX2l.out, HCS.out]; omega
        · have e3 := h3.out.2.1
          have e4 := h4.out.2.1
          exact grown_of_but (v := .slice (some ⟨b, 0, none⟩) n cap) (But.trans (But.drewN e3 0) e4) rfl
      · obtain rfl : n = cap := by omega
        have c4 : (n : Int) < (n : Int) + 1 := by omega
        have k1 : IntKind.i64.wrap ((n : Int) + 1 - (i : Int)) = (n : Int) + 1 - (i : Int) := by rw [IntKind.wrap_i64]; omega
        have HB := hid hBB
        have HG := hid hG
        have HCS := hid hcs
        have HL := hid hl
        have HX2l := hid hX2l
        have HX2c := hid hX2c
        have HX21 := hid hX21
        have H1 := hid h1
        have HNW := hid hnews
        have HGO := hid hgo
        have HCM := hid hcm
        have HBB := hid hbb
        have HBW := hid hbase
        have hsz0 : 0 < 5 := by omega
        have HN3 : Hid ((i + (n + 1 - i)) * 40 ≤ 140737488355328) := by show _ ≤ _; omega
        have HN2 : Hid (i + (n + 1 - i) ≤ maxLen) := by show _ ≤ _; unfold maxLen; omega
        have HF0 : Hid (i * 5 ≤ C.length) := by show _ ≤ _; rw [hcs]; omega
        clear hown hcell hxl hG hgo hnews h1 hx1 hl hbase hgv htake htk hX1 hX2 hX2l hX2c hX21 hB hBB hcs hcm hbb
        go_enter Try.func84, Try.ntmps84
        go_wp2_with (at_builtin; refine wpList_append_zerosN rfl _ _ 30 3 rfl 26 i0 _ 5 40 Try.underlying30 Try.underlying3 hi0 hz0 hz1 hz2 (by simp [Value.cells]) hsz0 b i n rfl (n + 1 - i) _ rfl (by omega) (by omega) C HB.out HF0.out (by omega) (by omega) HN3.out HN2.out ?_)
        intro G R w3 h3
        have hs3 : w.heap.size < w3.heap.size := h3.out.2.2.2.2.2
        have g1 : ¬ (G = i) := by have := h3.out.2.2.1; omega
        have g2 : ¬ (G = i + 1) := by have := h3.out.2.2.1; omega
        have g3 : i + (n + 1 - i) = n + 1 := by omega
        have HG1 := hid h3.out.2.2.1
        have HG2 := hid h3.out.2.2.2.1
        have HRl := hid h3.out.2.1
        have HLT := hid HB.out.lt
        have HLG := hid HG.out.lt
        have HB3 : Hid (Block w3 b 26 C) := hid (HB.out.later h3.out.2.2.2.2.1)
        have HG3 : Hid (Block w3 g gt gC) := hid (HG.out.later h3.out.2.2.2.2.1)
        have HCL : Hid ((C.take (i * 5) ++ R).length = G * 5) := by
          show _ = _
          rw [List.length_append, List.length_take, Nat.min_eq_left HF0.out, HRl.out, ← Nat.add_mul]
          congr 1
          have := HG1.out
          omega
        rw [g3]
        go_wp2_with (refine wpList_copyN rfl _ _ 30 30 rfl 26 i0 5 Try.underlying30 hi0 hz1 _ _ _ _ _ _ rfl rfl w.heap.size (i * 5) (C.take (i * 5) ++ R) 26 h3.out.1 1 (by simp only [Nat.min_def]; split <;> omega) news (by rw [HL.out]) (fun _ => ⟨rfl, ⟨g, goff, none⟩, rfl, fun j u hj => by rw [Addr.add_lit, HG3.out.cell]; exact HNW.out j u hj⟩) (by rw [HCL.out, HL.out]; have := HG1.out; omega) H1.out ?_)
        intro w4 h4
        have HB4 : Hid (Block w4 b 26 C) := hid (HB3.out.but h4.out.2.1 HB3.out.lt (by have := HLT.out; omega))
        have hs4 := h4.out.2.2
        have HL4 : Hid ((splice (C.take (i * 5) ++ R) (i * 5) news).length = G * 5) := hid (by rw [length_splice _ _ _ (by rw [HCL.out, HL.out]; have := HG1.out; omega), HCL.out])
        go_wp2
        refine tail.region 8 (by kernel_rfl) (by kernel_rfl) ?_
        simp only [List.take_succ_cons, List.take_zero, List.drop_succ_cons, List.drop_zero]
        repeat (go_big_quiet_step (fail))
        refine wpQuiet_nil ?_
        rintro _ ⟨nq, rfl⟩
        refine wpList_copyN rfl _ _ 30 30 rfl 26 i0 5 Try.underlying30 hi0 hz1 _ _ _ _ _ _ rfl rfl w.heap.size ((i + 1) * 5) (splice (C.take (i * 5) ++ R) (i * 5) news) 26 (h4.out.1.drewN nq) (n - i) (by simp only [Nat.min_def]; split <;> omega) X2 HX2l.out (fun _ => ⟨rfl, ⟨b, i * 5, none⟩, rfl, fun j u hj => by rw [Addr.add_lit, (HB4.out.drewN nq).cell]; exact HX2c.out j u hj⟩) (by rw [HL4.out, HX2l.out]; have := HG1.out; omega) HX21.out ?_
        intro w5 h5
        go_wp2
        go_ret
        have hl2 := two' (C.take (i * 5) ++ R) (i * 5) news X2 (by rw [HL.out, HX2l.out, HCL.out]; have := HG1.out; omega)
        rw [HL.out, HX2l.out, show i * 5 + 5 = (i + 1) * 5 by omega, show (i + 1) * 5 + (n - i) * 5 = (n + 1) * 5 by omega, List.append_assoc, List.take_left' (by rw [List.length_take, Nat.min_eq_left HF0.out])] at hl2
        refine ⟨_, rfl, own_of h5.out.1 HBW.out (by have := HG1.out; omega) HG2.out ?_ hl2, ?_⟩
        · rw [length_splice, HL4.out]
          rw [HX2l.out, HL4.out]; have := HG1.out; omega
        · exact grown_of_below (h3.out.2.2.2.2.1.trans ((But.trans (But.drewN h4.out.2.1 0) (by have := h5.out.2.1; exact this.mono (by simp [hs4]))).below (by omega) (Nat.le_refl _)))
end Go.Proofs.Ytiajpjkkopdmgaa.schema

namespace Go.Proofs.Ytiajpjkkopdmgaa.schema
open Go.RowKit Go.Proofs.Ytiajpjkkopdmgaa.rows
set_option linter.unusedVariables false

/-- as Made, in place -/
def LessF (base : Nat) (ob : Option Nat) (n : Nat) (ys : List Value) (w : World) (e : Ending) (w' : World) : Prop := ∃ v', e = .returned v' ∧ w'.ownsRow base 26 5 v' n ys ∧ w.grownBy w' ob ∧ v'.ownBlock = ob
set_option maxRecDepth 20000 in
theorem deleteF_any (base N i : Nat) (v : Value) (xs : List Value) (w : World) (hown : w.ownsRow base 26 5 v (N + 1) xs) (hi : i ≤ N) (hx1 : ∀ u ∈ xs, u.oneCell' = true) (hn : N ≤ 1000) :
    Calls Try.prog 85 #[v, .int .i64 i, .int .i64 ((i : Int) + 1)] w (LessF base v.ownBlock N (xs.take (i * 5) ++ xs.drop ((i + 1) * 5)) w) := by
  obtain ⟨i0, hi0, hz0, hz1, hz2⟩ := fd_info_parts
  have hxl := hown.1
  rcases hown.2 with ⟨_, h0⟩ | ⟨b, cap, cur, rfl, hbb, hB, hnc, hcm, hcs, htake⟩
  · omega
  · obtain ⟨C, rfl⟩ : ∃ C : List Value, cur = C.toArray := ⟨cur.toList, by simp⟩
    simp only [List.size_toArray] at hcs
    have htk : C.take ((N + 1) * 5) = xs := by simpa using htake
    have hX1 : C.take (i * 5) = xs.take (i * 5) := by rw [← htk, List.take_take, Nat.min_eq_left (Nat.mul_le_mul_right _ (by omega))]
    have hX2l : (xs.drop ((i + 1) * 5)).length = (N - i) * 5 := by rw [List.length_drop, hxl, ← Nat.sub_mul]; congr 1; omega
    have hX2c : ∀ j u, (xs.drop ((i + 1) * 5))[j]? = some u → C[(i + 1) * 5 + j]? = some u := fun j u hj => by
      rw [List.getElem?_drop, ← htk, List.getElem?_take] at hj
      split at hj
      · exact hj
      · cases hj
    have hX21 : ∀ u ∈ xs.drop ((i + 1) * 5), u.oneCell' = true := fun u hu => hx1 u (List.mem_of_mem_drop hu)
    obtain ⟨X2, hX2⟩ : ∃ X2, xs.drop ((i + 1) * 5) = X2 := ⟨_, rfl⟩
    rw [hX2] at hX2l hX2c hX21 ⊢
    rw [← hX1]
    have hOB : (Value.slice (some ⟨b, 0, none⟩) (N + 1) cap).ownBlock = some b := rfl
    rw [hOB]
    clear hOB
    have c1 : (i : Int) ≤ N := by omega
    have c2 : ¬ ((i : Int) = (i : Int) + 1) := by omega
    have c3 : ¬ (cap = N) := by omega
    have c4 : ¬ (cap = i) := by omega
    have hcm' : cap ≤ 9223372036854775807 := by unfold maxLen at hcm; omega
    have b2 : (N : Int) ≤ 1000 := by omega
    have t1 : ((i : Int) + 1).toNat = i + 1 := by omega
    have t2 : ((N : Int) + 1).toNat = N + 1 := by omega
    have p1 : (0 : Int) ≤ (i : Int) + 1 := by omega
    have hBB : Block w b 26 C := hB
    have hz1c : ∀ u ∈ (Value.cells (.agg #[.int .i64 0, .int .i64 0, .int .i64 0, .int .i64 0, .int .i64 0])).toList, u.oneCell' = true := by simp [Value.cells]; try decide
    have h0z : 0 < 5 := by omega
    have g3 : i + (N - i) = N := by omega
    have HB := hid hBB
    have HCS := hid hcs
    have HX2l := hid hX2l
    have HX2c := hid hX2c
    have HX21 := hid hX21
    have HCM := hid hcm
    have HBB := hid hbb
    have HNC : Hid ((N + 1) * 5 ≤ cap * 5) := Nat.mul_le_mul_right _ hnc
    clear hown hxl hx1 htake htk hX1 hX2 hX2l hX2c hX21 hB hBB hcs hcm hbb
    by_cases c5 : cap = i + 1
    · obtain rfl : i = N := by omega
      subst c5
      go_enter Try.func85, Try.ntmps85
      go_wp2
      refine tail.region 6 (by kernel_rfl) (by kernel_rfl) ?_
      simp only [List.take_succ_cons, List.take_zero, List.drop_succ_cons, List.drop_zero]
      repeat (go_big_quiet_step (fail))
      refine wpQuiet_nil ?_
      rintro _ ⟨nq, rfl⟩
      refine wpList_append_inN rfl _ _ 30 rfl 26 i0 5 Try.underlying30 hi0 hz1 b _ _ rfl C (HB.out.drewN nq) _ 0 _ rfl X2 (by have := HX2l.out; simpa using this) (fun h => absurd h (by omega)) HX21.out (by omega) (by rw [HX2l.out, HCS.out]; have := HNC.out; omega) ?_
      intro w3 h3
      have HL3 : Hid ((splice C (i * 5) X2).length = (i + 1) * 5) := hid (by rw [length_splice _ _ _ (by rw [HX2l.out, HCS.out]; have := HNC.out; omega), HCS.out])
      go_wp2_with (refine wpList_clearN rfl _ 30 rfl 26 i0 _ 5 Try.underlying30 hi0 hz0 (by simp [Value.cells]) hz1c h0z _ 1 _ rfl b (i * 5) (splice C (i * 5) X2) 26 h3.out.1 (fun _ => by simp) (by rw [HL3.out]; have := HNC.out; omega) ?_)
      intro Z w4 h4
      go_wp2
      go_ret
      have hl2 : (splice (splice C (i * 5) X2) (i * 5) Z).take (i * 5) = C.take (i * 5) ++ X2 := by
        rw [splice_head _ _ _ _ (Nat.le_refl _) (by rw [HL3.out]; have := HNC.out; omega)]
        have := splice_take C (i * 5) X2 (by rw [HCS.out]; have := HNC.out; omega)
        rw [HX2l.out, ← Nat.add_mul, g3] at this
        exact this
      refine ⟨_, rfl, own_of h4.out.2.1 HBB.out (by omega) HCM.out (by rw [length_splice _ _ _ (by rw [HL3.out, h4.out.1]; have := HNC.out; omega), HL3.out]) hl2, ?_, rfl⟩
      exact grown_of_but (v := .slice (some ⟨b, 0, none⟩) i (i + 1)) (But.trans (But.drewN h3.out.2.1 0) (h4.out.2.2.1.mono (by have := h3.out.2.2; simp at this; omega))) rfl
    · go_enter Try.func85, Try.ntmps85
      go_wp2
      refine tail.region 6 (by kernel_rfl) (by kernel_rfl) ?_
      simp only [List.take_succ_cons, List.take_zero, List.drop_succ_cons, List.drop_zero]
      repeat (go_big_quiet_step (fail))
      refine wpQuiet_nil ?_
      rintro _ ⟨nq, rfl⟩
      refine wpList_append_inN rfl _ _ 30 rfl 26 i0 5 Try.underlying30 hi0 hz1 b _ _ rfl C (HB.out.drewN nq) _ (N - i) _ (by rfl) X2 HX2l.out (fun h => ⟨⟨b, (i + 1) * 5, none⟩, rfl, fun j u hj => by rw [Addr.add_lit, (HB.out.drewN nq).cell]; exact HX2c.out j u hj⟩) HX21.out (by omega) (by rw [HX2l.out, HCS.out]; have := HNC.out; omega) ?_
      intro w3 h3
      rw [g3]
      have HL3 : Hid ((splice C (i * 5) X2).length = cap * 5) := hid (by rw [length_splice _ _ _ (by rw [HX2l.out, HCS.out]; have := HNC.out; omega), HCS.out])
      go_wp2_with (refine wpList_clearN rfl _ 30 rfl 26 i0 _ 5 Try.underlying30 hi0 hz0 (by simp [Value.cells]) hz1c h0z _ 1 _ rfl b (N * 5) (splice C (i * 5) X2) 26 h3.out.1 (fun _ => by simp) (by rw [HL3.out]; have := HNC.out; omega) ?_)
      intro Z w4 h4
      go_wp2
      go_ret
      have hl2 : (splice (splice C (i * 5) X2) (N * 5) Z).take (N * 5) = C.take (i * 5) ++ X2 := by
        rw [splice_head _ _ _ _ (Nat.le_refl _) (by rw [HL3.out]; have := HNC.out; omega)]
        have := splice_take C (i * 5) X2 (by rw [HCS.out]; have := HNC.out; omega)
        rw [HX2l.out, ← Nat.add_mul, g3] at this
        exact this
      refine ⟨_, rfl, own_of h4.out.2.1 HBB.out (by omega) HCM.out (by rw [length_splice _ _ _ (by rw [HL3.out, h4.out.1]; have := HNC.out; omega), HL3.out]) hl2, ?_, rfl⟩
      exact grown_of_but (v := .slice (some ⟨b, 0, none⟩) N cap) (But.trans (But.drewN h3.out.2.1 0) (h4.out.2.2.1.mono (by have := h3.out.2.2; simp at this; omega))) rfl
end Go.Proofs.Ytiajpjkkopdmgaa.schema
