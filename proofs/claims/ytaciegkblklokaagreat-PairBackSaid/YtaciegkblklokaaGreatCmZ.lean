/- Contracts and lemmas that the claims of this seat share: StepReverse, TypingSteps, PairInverses. Each says its own conditions. -/
import Derived.Test.YtaciegkblklokaaGreatCmL
import Derived.Test.YtaciegkblklokaaGreatCmY
import Derived.Test.YtaciegkblklokaaGreatCmH
import Derived.Test.YtaciegkblklokaaGreatCmN
import Derived.Test.YtaciegkblklokaaGreatCmO
import Derived.Test.YtaciegkblklokaaGreatCmC
import Derived.Test.YtaciegkblklokaaGreatCmP
import Derived.Test.YtaciegkblklokaaGreatCmQ
import Derived.Test.YtaciegkblklokaaGreatCmD
set_option linter.unusedVariables false
namespace Go.Proofs.YtaciegkblklokaaGreat.pair
open Go.RowKit Go.Proofs.YtaciegkblklokaaGreat.schema
open Go.Proofs.YtaciegkblklokaaGreat.step (Sp St stV stV_append stV_length stV_at C_len exec_indexP)
open Go.Proofs.YtaciegkblklokaaGreat.pen (ret0)
theorem put_stV {Q : List St} {i : Nat} (p : St) (D : List Value) (hi : i < Q.length) : put (stV Q ++ D) (i * 16) p.C = stV (Q.set i p) ++ D := by
 have e : Q = Q.take i ++ (Q[i] :: Q.drop (i + 1)) := by simp
 have h1 : stV Q ++ D = stV (Q.take i) ++ Q[i].C ++ (stV (Q.drop (i + 1)) ++ D) := by
  conv => lhs; rw [e]
  rw [stV_append, stV]
  simp [List.append_assoc]
 have hl : (stV (Q.take i)).length = i * 16 := by rw [stV_length, List.length_take]; congr 1; omega
 rw [h1, ← hl, put_mid _ _ _ _ (by rw [C_len, C_len]), List.set_eq_take_append_cons_drop, if_pos hi, stV_append, stV]
 simp [List.append_assoc]
theorem stV_range {w : World} {g : Nat} {Q : List St} {D : List Value} (h : Block w g 32 (stV Q ++ D)) {i : Nat} {p : St} (hp : Q[i]? = some p) : w.rangeAt g (i * 16) p.C :=
 h.range _ _ (fun j v hv => by
  have hi : i < Q.length := (List.getElem?_eq_some_iff.1 hp).1
  have hj : j < 16 := by have := (List.getElem?_eq_some_iff.1 hv).1; rwa [C_len] at this
  rw [List.getElem?_append_left (by rw [stV_length]; omega), stV_at Q i p j hp hj]
  exact hv)
def Swp (P : List St) (k : Nat) (Q : List St) : Prop := Q.length = P.length ∧ ∀ m, m < P.length → Q[m]? = if m < k ∨ P.length ≤ m + k then P[P.length - 1 - m]? else P[m]?
theorem swp_next {P Q : List St} {k j : Nat} {x y : St} (h : Swp P k Q) (hj : j + k + 1 = P.length) (hk : k < j) (hx : Q[k]? = some x) (hy : Q[j]? = some y) : Swp P (k + 1) ((Q.set k y).set j x) := by
 obtain ⟨hl, hm⟩ := h
 have h1 := hm k (by omega)
 have h2 := hm j (by omega)
 rw [if_neg (by omega)] at h1 h2
 rw [hx] at h1
 rw [hy] at h2
 refine ⟨by simpa using hl, fun m hmn => ?_⟩
 rw [List.getElem?_set, List.getElem?_set]
 by_cases e1 : j = m
 ·subst e1
  rw [if_pos rfl, if_pos (by simp; omega), if_pos (by omega), h1]
  congr 1; omega
 ·rw [if_neg e1]
  by_cases e2 : k = m
  ·subst e2
   rw [if_pos rfl, if_pos (by omega), if_pos (by omega), h2]
   congr 1; omega
  ·rw [if_neg e2, hm m hmn]
   by_cases hc : m < k ∨ P.length ≤ m + k
   ·rw [if_pos hc, if_pos (by omega)]
   ·rw [if_neg hc, if_neg (by omega)]
theorem swp_end {P Q : List St} {k j : Nat} (h : Swp P k Q) (hj : j + k + 1 = P.length) (hk : ¬ k < j) : Q = P.reverse := by
 obtain ⟨hl, hm⟩ := h
 refine List.ext_getElem? fun m => ?_
 by_cases hmn : m < P.length
 ·rw [hm m hmn, List.getElem?_reverse hmn]
  by_cases hc : m < k ∨ P.length ≤ m + k
  ·rw [if_pos hc]
  ·rw [if_neg hc]
   congr 1; omega
 ·rw [List.getElem?_eq_none (by omega), List.getElem?_eq_none (by simp; omega)]
theorem swp_zero (P : List St) : Swp P 0 P := ⟨rfl, fun m hm => by rw [if_neg (by omega)]⟩
def Turned (B : Nat) (u : Option Addr) (c : Nat) (P : List St) (w : World) (e : Ending) (w' : World) : Prop :=
 e = .returned (.tuple #[]) ∧ w'.ownsRow B 32 16 (.slice u P.length c) P.length (stV P.reverse) ∧ w.grownBy w' (Value.slice u P.length c).ownBlock
theorem grown_setCells {w w1 : World} {g o : Nat} {vs : List Value} (h : w.grownBy w1 (some g)) : w.grownBy (w1.setCells g o vs) (some g) := by
 obtain ⟨a, b, c⟩ := rest_setCells g vs o w1
 refine ⟨a.trans h.os, b.trans h.tape, c.trans h.output, by rw [size_setCells]; exact h.size, fun k hk hne => (heap_setCells g vs o w1 k (fun e => hne (by rw [e]))).trans (h.block k hk hne)⟩
theorem grown_later {w w1 w2 : World} {g : Nat} (h : w.grownBy w1 (some g)) (hb : Below w1.heap.size w1 w2) : w.grownBy w2 (some g) :=
 ⟨hb.os.trans h.os, hb.tape.trans h.tape, hb.output.trans h.output, Nat.le_trans h.size hb.size, fun k hk hne => (hb.block k (Nat.lt_of_lt_of_le hk h.size)).trans (h.block k hk hne)⟩
set_option maxRecDepth 20000 in
set_option maxHeartbeats 1600000 in
theorem reverse_any (P : List St) (B : Nat) (u : Option Addr) (c : Nat) (w : World) (ho : w.ownsRow B 32 16 (.slice u P.length c) P.length (stV P)) (hn : P.length ≤ 1000) :
  Calls Tryz.prog 49 #[.slice u P.length c] w (Turned B u c P w) := by
 have hr : w.ownsRow B 32 16 (.slice u P.length c) P.length (stV P) := ho
 rcases ho.2 with ⟨hv, h0⟩ | ⟨g, cap, cur, hv, hB, hg, hcp, hcm, hsz, htk⟩
 ·obtain rfl := List.eq_nil_of_length_eq_zero h0
  have HR : Hid (Turned B u c [] w (.returned (.tuple #[])) w) := hid ⟨rfl, hr, grown_refl _ _⟩
  cases hv
  clear hr ho h0 hn
  generalize Turned B none 0 [] w = R at *
  go_enter Tryz.func49, Tryz.ntmps49
  go_wp2
  go_loopw [2, 3] (fun i j wr => i = .int .i64 0 ∧ j = .int .i64 (-1) ∧ w = wr) (fun _ _ _ => 0)
  case atStart => exact ⟨rfl, rfl, rfl⟩
  case round =>
   obtain ⟨rfl, rfl, hw⟩ := hrel
   go_wp2
   subst hw
   exact ret0 rfl rfl HR.out
 ·obtain ⟨h1, h2⟩ : u = some ⟨g, 0, none⟩ ∧ c = cap := by cases hv; exact ⟨rfl, rfl⟩
  subst h1 h2
  clear hv
  obtain ⟨D, hD⟩ : ∃ D, cur.toList = stV P ++ D := ⟨cur.toList.drop (P.length * 16), by rw [← htk, List.take_append_drop]⟩
  have hDl : (stV P ++ D).length = c * 16 := by rw [← hD, Array.length_toList]; exact hsz
  have hBk : Block w g 32 (stV P ++ D) := by
   unfold Block
   rw [← hD]
   simpa using hg
  have HEND : Hid (∀ Q wr, Q = P.reverse → Block wr g 32 (stV Q ++ D) → w.grownBy wr (some g) → Turned B (some ⟨g, 0, none⟩) c P w (.returned (.tuple #[])) wr) := hid (fun Q wr hQ hb hgr => by
   subst hQ
   refine ⟨rfl, ⟨by rw [stV_length, List.length_reverse], .inr ⟨g, c, (stV P.reverse ++ D).toArray, rfl, hB, hb, hcp, hcm, ?_, ?_⟩⟩, hgr⟩
   ·rw [List.size_toArray, List.length_append, stV_length, List.length_reverse, ← stV_length P, ← List.length_append]; exact hDl
   ·rw [List.take_left' (by rw [stV_length, List.length_reverse])])
  have HB0 := hid hBk
  clear hr ho htk hsz hD hDl hBk hg hcm
  have HCP := hid hcp
  generalize Turned B (some ⟨g, 0, none⟩) c P w = R at *
  by_cases hpos : P.length = 0
  ·have HR : Hid (R (.returned (.tuple #[])) w) := hid (HEND.out P w (by obtain rfl := List.eq_nil_of_length_eq_zero hpos; rfl) HB0.out (grown_refl _ _))
   rw [hpos]
   clear HEND HB0 hpos HCP hcp
   go_enter Tryz.func49, Tryz.ntmps49
   go_wp2
   go_loopw [2, 3] (fun i j wr => i = .int .i64 0 ∧ j = .int .i64 (-1) ∧ w = wr) (fun _ _ _ => 0)
   case atStart => exact ⟨rfl, rfl, rfl⟩
   case round =>
    obtain ⟨rfl, rfl, hw⟩ := hrel
    go_wp2
    subst hw
    exact ret0 rfl rfl HR.out
  have h1 : (1 : Int) ≤ P.length := by omega
  have h2 : (P.length : Int) ≤ 1000 := by omega
  clear hpos hn hcp
  go_enter Tryz.func49, Tryz.ntmps49
  go_wp2
  go_loopw [2, 3] (fun i j wr => ∃ (k jn : Nat) (Q : List St), jn + k + 1 = P.length ∧ i = .int .i64 (k : Int) ∧ j = .int .i64 (jn : Int) ∧ Hid (Swp P k Q) ∧ Hid (Block wr g 32 (stV Q ++ D)) ∧ Hid (w.grownBy wr (some g))) (fun i j _ => (intOf j).toNat)
  case atStart => exact ⟨0, P.length - 1, P, by omega, rfl, by congr 1; omega, hid (swp_zero P), HB0, hid (grown_refl _ _)⟩
  case round =>
   obtain ⟨k, jn, Q, hkj, rfl, rfl, HSW, HBQ, HG⟩ := hrel
   by_cases hlt : k < jn
   ·have i1 : (k : Int) < (jn : Int) := by omega
    obtain ⟨x, hx⟩ : ∃ x, Hid (Q[k]? = some x) := ⟨_, hid (List.getElem?_eq_getElem (by rw [HSW.out.1]; omega))⟩
    obtain ⟨y, hy⟩ : ∃ y, Hid (Q[jn]? = some y) := ⟨_, hid (List.getElem?_eq_getElem (by rw [HSW.out.1]; omega))⟩
    have HNX := hid (swp_next HSW.out hkj hlt hx.out hy.out)
    have HK : Hid (k < P.length) := hid (by omega)
    have HJ : Hid (jn < P.length) := hid (by omega)
    have HQL : Hid (Q.length = P.length) := hid HSW.out.1
    go_wp2
    obtain ⟨wd0, hwd0⟩ : ∃ x, Hid (wr.drew = x) := ⟨_, hid rfl⟩
    have hQ0 : Block wd0 g 32 (stV Q ++ D) := by rw [← hwd0.out]; exact HBQ.out
    have hG0 : w.grownBy wd0 (some g) := by rw [← hwd0.out]; exact grown_later HG.out (below_drewN (Below.refl _ _) 1)
    refine plan.regionS (S := fun _ => True) ?_
    rw [hwd0.out]
    refine plan.firstS 0 _ (.slice (some ⟨g, 0, none⟩) P.length c) rfl (fun w' _ => (by kernel_rfl)) trivial ?_
    refine plan.firstS 1 _ (.int .i64 (k : Int)) rfl (fun w' _ => (by kernel_rfl)) trivial ?_
    refine plan.firstS 2 _ (.slice (some ⟨g, 0, none⟩) P.length c) rfl (fun w' _ => (by kernel_rfl)) trivial ?_
    refine plan.firstS 3 _ (.int .i64 (jn : Int)) rfl (fun w' _ => (by kernel_rfl)) trivial ?_
    refine plan.firstS 4 _ (.slice (some ⟨g, 0, none⟩) P.length c) rfl (fun w' _ => (by kernel_rfl)) trivial ?_
    refine plan.firstS 5 _ (.int .i64 (jn : Int)) rfl (fun w' _ => (by kernel_rfl)) trivial ?_
    refine plan.firstS 6 _ (.pointer (some ⟨g, 0 + jn * 16, none⟩)) rfl (fun w' _ => exec_indexP (b := g) (off := 0) (len := P.length) (cap := c) (i := jn) rfl HJ.out) trivial ?_
    refine plan.firstS 8 _ (.slice (some ⟨g, 0, none⟩) P.length c) rfl (fun w' _ => (by kernel_rfl)) trivial ?_
    refine plan.firstS 9 _ (.int .i64 (k : Int)) rfl (fun w' _ => (by kernel_rfl)) trivial ?_
    refine plan.firstS 10 _ (.pointer (some ⟨g, 0 + k * 16, none⟩)) rfl (fun w' _ => exec_indexP (b := g) (off := 0) (len := P.length) (cap := c) (i := k) rfl HK.out) trivial ?_
    refine plan.readsS 7 11 21 25 _ _ (.agg y.C.toArray) (.agg x.C.toArray) (by decide) (by decide) rfl rfl rfl rfl (exec_load_at (b := g) (off := 0 + jn * 16) (cs := y.C) rfl (by rw [Nat.zero_add]; exact stV_range hQ0 hy.out) Tryz.underlying32 rfl info_st.out) (exec_load_at (b := g) (off := 0 + jn * 16) (cs := y.C) rfl (by rw [Nat.zero_add]; exact stV_range hQ0 hy.out) Tryz.underlying32 rfl info_st.out) (exec_load_at (b := g) (off := 0 + k * 16) (cs := x.C) rfl (by rw [Nat.zero_add]; exact stV_range hQ0 hx.out) Tryz.underlying32 rfl info_st.out) (exec_load_at (b := g) (off := 0 + k * 16) (cs := x.C) rfl (by rw [Nat.zero_add]; exact stV_range hQ0 hx.out) Tryz.underlying32 rfl info_st.out) trivial ?_
    refine plan.firstS 12 _ (.pointer (some ⟨g, 0 + k * 16, none⟩)) rfl (fun w' _ => exec_indexP (b := g) (off := 0) (len := P.length) (cap := c) (i := k) rfl HK.out) trivial ?_
    obtain ⟨wd1, hwd1⟩ : ∃ x, Hid (wd0.setCells g (0 + k * 16) y.C = x) := ⟨_, hid rfl⟩
    have hQ1 : Block wd1 g 32 (stV (Q.set k y) ++ D) := by have := hQ0.setCells (vs := y.C) (o := 0 + k * 16); rw [Nat.zero_add, put_stV y D (by rw [HQL.out]; exact HK.out)] at this; rw [← hwd1.out, Nat.zero_add]; exact this
    have hG1 : w.grownBy wd1 (some g) := by rw [← hwd1.out]; exact grown_setCells hG0
    have hlen1 : 0 + k * 16 + (y.C.toArray).size ≤ (stV Q ++ D).length := by rw [List.length_append, stV_length, HQL.out, List.size_toArray, C_len]; have := HK.out; omega
    refine plan.thenS (w1 := wd1) 13 _ rfl rfl rfl (by rw [← hwd1.out]; exact exec_put_agg (cells := y.C.toArray) rfl hQ0 hlen1 info_st.out (all_oneCell_toArray (step.C_one y))) trivial ?_
    refine plan.firstS 14 _ (.pointer (some ⟨g, 0 + jn * 16, none⟩)) rfl (fun w' _ => exec_indexP (b := g) (off := 0) (len := P.length) (cap := c) (i := jn) rfl HJ.out) trivial ?_
    obtain ⟨wd2, hwd2⟩ : ∃ z, Hid (wd1.setCells g (0 + jn * 16) x.C = z) := ⟨_, hid rfl⟩
    have hQ2 : Block wd2 g 32 (stV ((Q.set k y).set jn x) ++ D) := by have := hQ1.setCells (vs := x.C) (o := 0 + jn * 16); rw [Nat.zero_add, put_stV x D (by rw [List.length_set, HQL.out]; exact HJ.out)] at this; rw [← hwd2.out, Nat.zero_add]; exact this
    have hG2 : w.grownBy wd2 (some g) := by rw [← hwd2.out]; exact grown_setCells hG1
    have hlen2 : 0 + jn * 16 + (x.C.toArray).size ≤ (stV (Q.set k y) ++ D).length := by rw [List.length_append, stV_length, List.length_set, HQL.out, List.size_toArray, C_len]; have := HJ.out; omega
    refine plan.lastS (w1 := wd2) 15 _ rfl rfl rfl (by rw [← hwd2.out]; exact exec_put_agg (cells := x.C.toArray) rfl hQ1 hlen2 info_st.out (all_oneCell_toArray (step.C_one x))) trivial ?_
    have HQ2 := hid hQ2
    have HG2 := hid hG2
    obtain ⟨j2, hj2⟩ : ∃ j2, jn = j2 + 1 := ⟨jn - 1, by omega⟩
    have hj3 : (jn : Int) - 1 = (j2 : Int) := by omega
    clear hQ0 hG0 hQ1 hG1 hQ2 hG2 hlen1 hlen2 hwd0 hwd1 hwd2
    walk_nrm
    go_wp2
    exact ⟨⟨k + 1, j2, _, by omega, by go_num, by congr 1, HNX, HQ2, HG2⟩, by simp [intOf]; omega⟩
   ·have hd : ¬ (k : Int) < (jn : Int) := by omega
    go_wp2
    exact ret0 rfl rfl (HEND.out Q wr (swp_end HSW.out hkj hlt) HBQ.out HG.out)
end Go.Proofs.YtaciegkblklokaaGreat.pair
namespace Go.Proofs.YtaciegkblklokaaGreat.typing
open Go.RowKit Go.Proofs.YtaciegkblklokaaGreat.schema
open Go.Proofs.YtaciegkblklokaaGreat.field (newB)
theorem small_right {w : World} {x : Option Addr} {v : Int} {G : List Fm} (h : FmL w x G) (hr : Right v (forms G)) : Small w G := by
 refine ⟨by have := hr.2.1; rw [forms_length] at this; omega, fun p hp => ⟨(h.2 p hp).rf, ?_⟩⟩
 have := (hr.2.2.1 p.p (List.mem_map_of_mem hp)).2.1.2
 have h2 : p.p.2.length = p.fL.length := rfl
 omega
def AllAs (r : Int × List schema.Form × Nat × Nat) (w : World) (e : Ending) (w' : World) : Prop :=
 ∃ x xc G, e = .returned (.tuple #[zS r.1 x (List.length (α := Fm) G) xc, .int .i64 (r.2.2.1 : Nat), .int .i64 (r.2.2.2 : Nat)]) ∧ FmL w' x G ∧ forms G = r.2.1 ∧ Below w.heap.size w w'
structure Al (S : Nat) (v : Int) (x : Option Addr) (xc : Nat) (G : List Fm) (w wr : World) : Prop where
 box : Block wr S 24 (zS v x G.length xc)
 res : Block wr (S + 1) 24 [.int .i64 0, .slice none 0 0]
 fml : FmL wr x G
 far : Far (S + 2) x G
 small : G.length ≤ 40 ∧ ∀ p ∈ G, p.fL.length ≤ 40
 below : Below S w wr
theorem Al.later {S : Nat} {v : Int} {x : Option Addr} {xc : Nat} {G : List Fm} {w wr w' : World} (h : Al S v x xc G w wr) (hb : Below wr.heap.size wr w') : Al S v x xc G w w' :=
 ⟨h.box.later hb, h.res.later hb, h.fml.below hb, h.far, h.small, h.below.trans (hb.mono (by have := h.box.lt; omega))⟩
theorem Al.isSmall {S : Nat} {v : Int} {x : Option Addr} {xc : Nat} {G : List Fm} {w wr : World} (h : Al S v x xc G w wr) : Small wr G := ⟨h.small.1, fun p hp => ⟨(h.fml.2 p hp).rf, h.small.2 p hp⟩⟩
end Go.Proofs.YtaciegkblklokaaGreat.typing
namespace Go.Proofs.YtaciegkblklokaaGreat.pair
open Go.RowKit Go.Proofs.YtaciegkblklokaaGreat.schema Go.Proofs.YtaciegkblklokaaGreat.typing
open Go.Proofs.YtaciegkblklokaaGreat.field (newB)
open Go.Proofs.YtaciegkblklokaaGreat.step (Sp St StL sps sps_length step_at Lists OwnS intV Z16 st_fd st_int spC stV stV_append stV_length own_sts st_info_parts C_one C_len own_after)
theorem fds_grown {w w' : World} {x : Option Addr} {L : List field.Fd} {row : Option Nat} {N : Nat} (h : field.Fds w x L) (hg : w.grownBy w' row) (hf : ∀ z, x = some z → N ≤ z.block) (hr : ∀ g, row = some g → g < N) : field.Fds w' x L := by
 rcases h with h | ⟨b, off, rfl, hlt, hc⟩
 ·exact .inl h
 ·have hb : N ≤ b := hf _ rfl
  have e := fun q => World.cell?_of_block (w := w) (w' := w') (a := ⟨b, q, none⟩) (hg.block b hlt (fun he => by have := hr b he.symm; omega))
  refine .inr ⟨b, off, rfl, Nat.lt_of_lt_of_le hlt hg.size, fun i p hp => ?_⟩
  obtain ⟨c0, c1, c2, c3, c4⟩ := hc i p hp
  exact ⟨(e _).trans c0, (e _).trans c1, (e _).trans c2, (e _).trans c3, (e _).trans c4⟩
theorem fml_grown {w w' : World} {x : Option Addr} {G : List Fm} {row : Option Nat} {N : Nat} (h : FmL w x G) (hg : w.grownBy w' row) (hf : Far N x G) (hr : ∀ g, row = some g → g < N) : FmL w' x G := by
 refine ⟨?_, fun p hp => ⟨fds_grown (h.2 p hp).rf hg (hf.2 p hp) hr, (h.2 p hp).cf, (h.2 p hp).df⟩⟩
 rcases h.1 with h1 | ⟨b, off, rfl, hlt, hc⟩
 ·exact .inl h1
 ·have hb : N ≤ b := hf.1 _ rfl
  have e := fun q => World.cell?_of_block (w := w) (w' := w') (a := ⟨b, q, none⟩) (hg.block b hlt (fun he => by have := hr b he.symm; omega))
  refine .inr ⟨b, off, rfl, Nat.lt_of_lt_of_le hlt hg.size, fun i p hp => ?_⟩
  obtain ⟨c0, c1⟩ := hc i p hp
  exact ⟨(e _).trans c0, (e _).trans c1⟩
structure Ivs (S : Nat) (v : Int) (x : Option Addr) (xc : Nat) (G : List Fm) (P : List St) (ua : Option Addr) (uc : Nat) (w wr : World) : Prop where
 box : Block wr S 24 (zS v x G.length xc)
 fml : FmL wr x G
 small : G.length ≤ 40 ∧ ∀ p ∈ G, p.fL.length ≤ 40
 row : wr.ownsRow (S + 1) 32 16 (.slice ua P.length uc) P.length (stV P)
 each : ∀ p ∈ P, OwnS (S + 1) wr p
 below : Below S w wr
variable {S : Nat} {v : Int} {x : Option Addr} {xc : Nat} {G : List Fm} {P : List St} {ua : Option Addr} {uc : Nat} {w : World}
theorem Ivs.later {wr w' : World} (h : Ivs S v x xc G P ua uc w wr) (hb : Below wr.heap.size wr w') : Ivs S v x xc G P ua uc w w' :=
 ⟨h.box.later hb, h.fml.below hb, h.small, ownsRow_later h.row hb, fun p hp => (h.each p hp).later hb, h.below.trans (hb.mono (Nat.le_of_lt h.box.lt))⟩
theorem Ivs.isSmall {wr : World} (h : Ivs S v x xc G P ua uc w wr) : Small wr G := ⟨h.small.1, fun p hp => ⟨(h.fml.2 p hp).rf, h.small.2 p hp⟩⟩
theorem Ivs.next {w8 w9 : World} {N : Nat} {p : St} {ua2 : Option Addr} {uc2 : Nat} {v3 : Int} {y : Option Addr} {yc : Nat} {H : List Fm} (h : Ivs S v x xc G P ua uc w w8) (hp : OwnS (S + 1) w8 p)
  (ho : w9.ownsRow (S + 1) 32 16 (.slice ua2 (P.length + 1) uc2) (P.length + 1) (stV P ++ p.C)) (hg : w8.grownBy w9 (Value.slice ua P.length uc).ownBlock)
  (hH : FmL w8 y H) (hfar : Far N y H) (hN : S < N) (hr : ∀ g, (Value.slice ua P.length uc).ownBlock = some g → g < N) (hs : H.length ≤ 40 ∧ ∀ q ∈ H, q.fL.length ≤ 40) :
  Block w9 S 24 (zS v x G.length xc) ∧ Ivs S v3 y yc H (P ++ [p]) ua2 uc2 w ((w9.setCell ⟨S, 0, none⟩ (.int .i64 v3)).setCell ⟨S, 1, none⟩ (.slice y H.length yc)) := by
 have hS : Block w9 S 24 (zS v x G.length xc) := (hg.block S h.box.lt (fun he => by have := World.ownsRow.lt h.row S he.symm; omega)).trans h.box
 have hH9 := fml_grown hH hg hfar hr
 have hne : H ≠ [] → ∀ z, y = some z → z.block ≠ S := fun _ z hz => by have := hfar.1 z hz; omega
 have hi := stay_grown 3 h.row hg st_int
 have hf := stay_grown 26 h.row hg st_fd
 have hlen : (P ++ [p]).length = P.length + 1 := by simp
 have hb9 : Below S w w9 := h.below.trans ⟨hg.os, hg.tape, hg.output, hg.size, fun k hk => hg.block k (by have := h.box.lt; omega) (fun he => by have := World.ownsRow.lt h.row k he.symm; omega)⟩
 refine ⟨hS, ?_, fml_set2 (fml_set2 hH9 hne hS (by simp)) hne (hS.setCell 0 _) (by simp), hs, ?_, fun q hq => ?_, below_setCells (below_setCells hb9 (Nat.le_refl _) 0 [_]) (Nat.le_refl _) 1 [_]⟩
 ·have := (hS.setCell 0 (.int .i64 v3)).setCell 1 (.slice y H.length yc)
  simpa using this
 ·rw [hlen, stV_append]
  have : stV [p] = p.C := by simp [stV]
  rw [this]
  exact own_after (own_after ho (by omega)) (by omega)
 ·have : OwnS (S + 1) w9 q := by
   rcases List.mem_append.1 hq with h1 | h1
   ·exact (h.each q h1).stay hi hf
   ·rw [List.mem_singleton.1 h1]; exact hp.stay hi hf
  exact (this.after (by omega)).after (by omega)
def InvsAs (b : List Sp × Nat) (k : Nat) (w : World) (e : Ending) (w' : World) : Prop :=
 ∃ q qc P, e = .returned (.tuple #[.slice q (List.length (α := St) P) qc, .int .i64 (k : Nat), .int .i64 (b.2 : Nat)]) ∧ sps P = b.1 ∧ StL w' q P ∧ Below w.heap.size w w'
theorem sps_push (P : List St) (p : St) : (sps (P ++ [p])).reverse = p.s :: (sps P).reverse := by simp [sps]
theorem st_news {w : World} {g : Nat} {p : St} (hb : Block w g 32 p.C) : (1 : Nat) = 0 ∨ ∃ ad, some (⟨g, 0, none⟩ : Addr) = some ad ∧ ∀ j u, p.C[j]? = some u → w.cell? (ad.add j) = some u :=
 .inr ⟨_, rfl, fun j u hj => by rw [Addr.add_lit, Nat.zero_add]; exact (hb.cell j).trans hj⟩
set_option maxRecDepth 20000 in
set_option maxHeartbeats 3200000 in
theorem inverses_any (v : Int) (a : Option Addr) (cap : Nat) (F : List Fm) (la : Option Addr) (lc : Nat) (L : List St) (w : World) (h : FmL w a F) (hF : Small w F) (hl : StL w la L) (hn : L.length ≤ 60) (h40 : ∀ p ∈ L, p.s.l.length ≤ 40) (hT : ∀ p ∈ L, p.s.t.length ≤ 1000000) :
  Calls Tryz.prog 24 #[zS v a F.length cap, .slice la L.length lc] w (InvsAs (backs v (forms F) (sps L) []) (all 0 v (forms F) (sps L)).2.2.1 w) := by
 obtain ⟨i0, hi, hz0, hz1, hz2⟩ := st_info_parts
 have hml : (L.length : Int) ≤ 60 := by omega
 have hB1 : Block ((w.alloc (.cells (zS v a F.length cap) 24))) w.heap.size 24 (zS v a F.length cap) := Block.new _ _ _
 have hb1 := newB w (.cells (zS v a F.length cap) 24)
 have HV0 : Hid (Ivs w.heap.size v a cap F [] none 0 w ((w.alloc (.cells (zS v a F.length cap) 24)))) := hid ⟨hB1, h.below hb1, ⟨hF.1, fun p hp => (hF.2 p hp).2⟩, World.ownsRow_nil _ _ _ _, by simp, hb1⟩
 have HL := hid hl
 have HLN := hid hn
 have HL40 := hid h40
 have HLT := hid hT
 obtain ⟨R, hR⟩ : ∃ R, Hid (backs v (forms F) (sps L) [] = R) := ⟨_, hid rfl⟩
 obtain ⟨A, hA⟩ : ∃ A, Hid (all 0 v (forms F) (sps L) = A) := ⟨_, hid rfl⟩
 have HQ0 : Hid (backs v (forms F) ((sps L).drop 0) (sps []).reverse = R) := hid hR.out
 have HA0 : Hid (all 0 v (forms F) ((sps L).drop 0) = A) := hid hA.out
 rw [hR.out, hA.out]
 clear h hF hl h40 hT hB1 hb1 hR hA hn
 unfold InvsAs
 go_enter Tryz.func24, Tryz.ntmps24
 go_wp2
 go_loopw [7, 14] (fun u n wr => ∃ (k : Nat) (v2 : Int) (x : Option Addr) (xc : Nat) (G : List Fm) (P : List St) (ua : Option Addr) (uc : Nat), k ≤ L.length ∧ Hid (P.length = k) ∧ u = .slice ua P.length uc ∧ n = .int .i64 (k : Int) ∧ Hid (Ivs w.heap.size v2 x xc G P ua uc w wr) ∧ Hid (backs v2 (forms G) ((sps L).drop k) (sps P).reverse = R) ∧ Hid (all k v2 (forms G) ((sps L).drop k) = A)) (fun _ n _ => L.length - (intOf n).toNat)
 case atStart => exact ⟨0, v, a, cap, F, [], none, 0, Nat.zero_le _, hid rfl, rfl, rfl, HV0, HQ0, HA0⟩
 case round =>
  obtain ⟨k, v2, x, xc, G, P, ua, uc, hk, hPk, rfl, rfl, HV, HQ, HA⟩ := hrel
  have hQ := HQ.out
  have hA := HA.out
  clear HQ HA HV0 HQ0 HA0
  by_cases hlt : k < L.length
  ·obtain ⟨b, off, p, rfl, hbl, hp, hls, z0, z1, z2, z3, z4, z5, z6, z7, z8, z9, z10, z11, z12, z13, z14, z15⟩ := step_at HL.out (HV.out.below) hlt
   have i1 : (k : Int) < L.length := by omega
   have hdrop : (sps L).drop k = p.s :: (sps L).drop (k + 1) := by
    have h1 : (sps L)[k]? = some p.s := by unfold sps; rw [List.getElem?_map, hp]; rfl
    rw [List.drop_eq_getElem_cons (List.getElem?_eq_some_iff.1 h1).1, (List.getElem?_eq_some_iff.1 h1).2]
   rw [hdrop] at hQ hA
   unfold backs at hQ
   unfold all at hA
   have hN := newB wr (.cells (zP p.s p.ta p.tc p.la p.lc) 32)
   have HT1 := hid (HLT.out p (List.mem_of_getElem? hp))
   have cO := on_any v2 x xc G p.s p.ta p.tc p.la p.lc _ (HV.out.fml.below hN) (HV.out.isSmall.below hN) (hls.below hN) (HL40.out p (List.mem_of_getElem? hp))
   have cI := fun (w' : World) (hb : Below wr.heap.size wr w') (h0 : (on v2 (forms G) p.s).2.2 = 0) => inverse_any v2 x xc G p.s p.ta p.tc p.la p.lc w' (HV.out.fml.below hb) (HV.out.isSmall.below hb) (hls.below hb) HT1.out h0
   have hok := fun h0 => on_ok (v := v2) (F := forms G) (s := p.s) h0
   generalize on v2 (forms G) p.s = r at cO hok hQ hA cI
   generalize inv (forms G) p.s = q at hQ cI
   obtain ⟨v3, PF, n⟩ := r
   simp only at hok hQ hA cI
   unfold OnAs at cO
   have HV2 := hid (HV.out.later hN)
   have HK2 := hid (Block.new wr 32 (zP p.s p.ta p.tc p.la p.lc))
   have x0 := HV2.out.box.cell 0
   have x1 := HV2.out.box.cell 1
   have HN1 := hid hN
   have HRB : Hid (∀ g, (Value.slice ua P.length uc).ownBlock = some g → g < ((wr.alloc (.cells (zP p.s p.ta p.tc p.la p.lc) 32))).heap.size) := hid (fun g hg => by have := (World.ownsRow.lt HV.out.row g hg).2; simp; omega)
   have HSZ : Hid (w.heap.size < ((wr.alloc (.cells (zP p.s p.ta p.tc p.la p.lc) 32))).heap.size) := hid HV2.out.box.lt
   clear hN hls hp hdrop
   by_cases h0 : n = 0
   ·obtain ⟨_, rfl, hR3, _⟩ := hok h0
    subst h0
    rw [if_pos rfl] at hQ hA
    have HQ := hid hQ
    have HA := hid hA
    have HR3 := hid hR3
    replace cI := fun w' hb => cI w' hb rfl
    unfold InvAs at cI
    have HPN : Hid (P.length ≤ 1000) := hid (by have := HLN.out; have := hPk.out; omega)
    clear hQ hA hok hR3
    go_wp2_with (first
     | (go_at_call 19; ((with_reducible refine cO.mono ?_); rintro e w5 ⟨y5, yc5, H5, rfl, hH, hfo, hfar, hb5⟩; have hN5 := newB w5 (.cells (zS v3 y5 H5.length yc5) 24); have HV6 := hid ((HV2.out.later hb5).later hN5); have HK6 := hid ((HK2.out.later hb5).later hN5); have HH := hid (hH.below hN5); have HF5 := hid hfo; have HFR := hid hfar; have hbw := (HN1.out.trans (hb5.mono HN1.out.size)); have hbw6 := hbw.trans (hN5.mono hbw.size); have cJ := cI _ hbw6; have HNB := hid (Block.new w5 24 (zS v3 y5 H5.length yc5)); have q0 := HV6.out.box.cell 0; have q1 := HV6.out.box.cell 1; have y0 := HK6.out.cell 0; have y1 := HK6.out.cell 1; have y2 := HK6.out.cell 2; have y3 := HK6.out.cell 3; have y4 := HK6.out.cell 4; have y5_ := HK6.out.cell 5; have y6 := HK6.out.cell 6; have y7 := HK6.out.cell 7; have y8 := HK6.out.cell 8; have y9 := HK6.out.cell 9; have y10 := HK6.out.cell 10; have y11 := HK6.out.cell 11; have y12 := HK6.out.cell 12; have y13 := HK6.out.cell 13; have y14 := HK6.out.cell 14; have y15 := HK6.out.cell 15; have HNLT : Hid (((wr.alloc (.cells (zP p.s p.ta p.tc p.la p.lc) 32))).heap.size ≤ w5.heap.size) := hid hb5.size; clear hN5 hb5 hH hfo hfar hbw hbw6))
     | (go_at_call 20; ((with_reducible refine cJ.mono ?_); rintro e w7 ⟨xa, xc2, ya, yc, rfl, ho7, hb7⟩; have hN7 := newB w7 (.cells (zP q xa xc2 ya yc) 32); have HV8 := hid ((HV6.out.later hb7).later hN7); have HO8 : Hid (OwnS (w.heap.size + 1) (w7.alloc (.cells (zP q xa xc2 ya yc) 32)) ⟨q, xa, xc2, ya, yc⟩) := hid ((ho7.low (by have := HV6.out.box.lt; omega)).later hN7); have HN8 := hid ((HNB.out.later hb7).later hN7); have HH8 := hid ((HH.out.below hb7).below hN7); have HPB : Hid (Block (w7.alloc (.cells (zP q xa xc2 ya yc) 32)) w7.heap.size 32 (St.C ⟨q, xa, xc2, ya, yc⟩)) := hid (Block.new w7 32 (St.C ⟨q, xa, xc2, ya, yc⟩)); have HM1 : Hid (P.length + 1 ≤ maxLen) := hid (by have := HPN.out; unfold maxLen; omega); have HM2 : Hid ((P.length + 1) * 168 ≤ 140737488355328) := hid (by have := HPN.out; omega); have HM3 : Hid (w.heap.size + 1 ≤ (w7.alloc (.cells (zP q xa xc2 ya yc) 32)).heap.size) := hid (by have := HV8.out.box.lt; omega); clear hN7 hb7 ho7))
     | (at_builtin; (refine wpList_append_fromN rfl _ _ 33 rfl (w.heap.size + 1) 32 i0 _ 16 168 Tryz.underlying33 hi hz0 hz1 hz2 (by simp [Value.cells]) (by omega) (.slice ua P.length uc) P.length (stV P) rfl HV8.out.row (some ⟨w7.heap.size, 0, none⟩) 1 1 (St.C ⟨q, xa, xc2, ya, yc⟩) rfl rfl (st_news HPB.out) (C_one _) HM1.out HM2.out HM3.out ?_)))
    intro u9 w9 ho9 hg9
    obtain ⟨ua2, uc2, rfl, _⟩ := ownsRow_slice ho9
    have hS5 := small_right HH8.out (v := v3) (by rw [HF5.out]; exact HR3.out)
    have hX := HV8.out.next (p := ⟨q, xa, xc2, ya, yc⟩) (v3 := v3) (yc := yc5) HO8.out ho9 hg9 HH8.out HFR.out HSZ.out HRB.out ⟨hS5.1, fun r hr => (hS5.2 r hr).2⟩
    have hNX : Block w9 w5.heap.size 24 (zS v3 y5 H5.length yc5) := (hg9.block w5.heap.size HN8.out.lt (fun he => by have := HRB.out w5.heap.size he.symm; have := HNLT.out; omega)).trans HN8.out
    have c0 := hX.1.cell 0
    have c1 := hX.1.cell 1
    have f0 := hX.1.frozen 0
    have f1 := hX.1.frozen 1
    have n0 := hNX.cell 0
    have n1 := hNX.cell 1
    have HX := hid hX.2
    have HLE : Hid ((P ++ [(⟨q, xa, xc2, ya, yc⟩ : St)]).length = P.length + 1) := hid (by simp)
    have HLK : Hid ((P ++ [(⟨q, xa, xc2, ya, yc⟩ : St)]).length = k + 1) := hid (by rw [HLE.out, hPk.out])
    have HQ2 : Hid (backs v3 (forms H5) ((sps L).drop (k + 1)) (sps (P ++ [(⟨q, xa, xc2, ya, yc⟩ : St)])).reverse = R) := hid (by rw [HF5.out, sps_push]; exact HQ.out)
    have HA2 : Hid (all (k + 1) v3 (forms H5) ((sps L).drop (k + 1)) = A) := hid (by rw [HF5.out]; exact HA.out)
    have HNE : Hid (w5.heap.size ≠ w.heap.size) := hid (by have := HSZ.out; have := HNLT.out; omega)
    clear hX hNX ho9 hg9 hS5 HN8 HPB HM1 HM2 HM3 HV8 HO8 HH8 HQ HA cI cO q0 q1 y0 y1 y2 y3 y4 y5_ y6 y7 y8 y9 y10 y11 y12 y13 y14 y15 x0 x1 z0 z1 z2 z3 z4 z5 z6 z7 z8 z9 z10 z11 z12 z13 z14 z15
    go_wp2
    exact ⟨⟨k + 1, v3, y5, yc5, H5, _, ua2, uc2, by omega, HLK, by rw [HLE.out], by go_num, HX, HQ2, HA2⟩, by simp [intOf]; omega⟩
   ·rw [if_neg h0] at hQ hA
    subst hQ hA
    have hne : (((n : Nat) : Int) != 0) = true := by simpa using h0
    clear hok h0 cI
    go_wp2_with (go_at_call 19; ((with_reducible refine cO.mono ?_); rintro e w5 ⟨y5, yc5, H5, rfl, hH, hfo, hfar, hb5⟩; have hN5 := newB w5 (.cells (zS v3 y5 H5.length yc5) 24); have HB6 := hid ((HV2.out.later hb5).later hN5).below; clear hN5 hb5 hH hfo hfar))
    go_ret3
    exact ⟨none, 0, [], rfl, rfl, StL.nil _, HB6.out⟩
  ·obtain rfl : k = L.length := by omega
   rw [List.drop_of_length_le (by unfold sps; simp)] at hQ hA
   unfold backs at hQ
   unfold all at hA
   subst hQ hA
   have cR := reverse_any P (w.heap.size + 1) ua uc wr HV.out.row (by have := HLN.out; have := hPk.out; omega)
   unfold Turned at cR
   have hd : ¬ (L.length : Int) < (L.length : Int) := by omega
   go_wp2_with (go_at_call 49; ((with_reducible refine cR.mono ?_); rintro e w3 ⟨rfl, ho3, hg3⟩; have HO3 := hid ho3; have HG3 := hid hg3; clear ho3 hg3))
   go_ret3
   have hlr : (P.reverse).length = P.length := List.length_reverse
   have hb3 : Below w.heap.size w w3 := HV.out.below.trans ⟨HG3.out.os, HG3.out.tape, HG3.out.output, HG3.out.size, fun j hj => HG3.out.block j (by have := HV.out.box.lt; omega) (fun he => by have := World.ownsRow.lt HV.out.row j he.symm; omega)⟩
   have hi := stay_grown 3 HV.out.row HG3.out st_int
   have hf := stay_grown 26 HV.out.row HG3.out st_fd
   refine ⟨ua, uc, P.reverse, by rw [hlr]; rfl, by simp [sps], ⟨own_sts HO3.out, fun p hp => (((HV.out.each p (by simpa using hp)).stay hi hf).lists)⟩, hb3⟩
end Go.Proofs.YtaciegkblklokaaGreat.pair
