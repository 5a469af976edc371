
import Derived.Test.YtiajpjkkopdmgaaCmQ
import Derived.Test.YtiajpjkkopdmgaaCmAF
import Derived.Test.YtiajpjkkopdmgaaCmG
import Derived.Conc.WalkWords
import Derived.Test.YtiajpjkkopdmgaaCmS
import Derived.Test.YtiajpjkkopdmgaaCmAD
import Derived.Test.YtiajpjkkopdmgaaCmA
import Derived.Test.YtiajpjkkopdmgaaCmD
import Derived.Test.YtiajpjkkopdmgaaCmF

namespace Go.Proofs.Ytiajpjkkopdmgaa.typing
open Go.RowKit Go.Proofs.Ytiajpjkkopdmgaa.schema
open Go.Proofs.Ytiajpjkkopdmgaa.field (newB)
set_option linter.unusedVariables false

theorem fds_set {w : World} {S o : Nat} {v : Value} {a : Option Addr} {L : List field.Fd} (h : field.Fds w a L) (hf : ∀ y, a = some y → y.block ≠ S) : field.Fds (w.setCell ⟨S, o, none⟩ v) a L := by
  rcases h with h | ⟨b, off, rfl, hlt, hc⟩
  · exact .inl h
  · have e := fun q => World.cell?_of_block (w := w) (w' := w.setCell ⟨S, o, none⟩ v) (a := ⟨b, q, none⟩) (Below.heap_setCell w ⟨S, o, none⟩ v b (hf _ rfl))
    refine .inr ⟨b, off, rfl, by simpa using hlt, fun i p hp => ?_⟩
    obtain ⟨c0, c1, c2, c3, c4⟩ := hc i p hp
    exact ⟨(e _).trans c0, (e _).trans c1, (e _).trans c2, (e _).trans c3, (e _).trans c4⟩
theorem fml_set {w : World} {S o n : Nat} {v : Value} {x : Option Addr} {G : List Fm} (h : FmL w x G) (hf : Far n x G) (hS : S < n) : FmL (w.setCell ⟨S, o, none⟩ v) x G := by
  refine ⟨?_, fun p hp => ⟨fds_set (h.2 p hp).rf (fun y hy => by have := hf.2 p hp y hy; omega), (h.2 p hp).cf, (h.2 p hp).df⟩⟩
  rcases h.1 with h1 | ⟨b, off, rfl, hlt, hc⟩
  · exact .inl h1
  · have hb : b ≠ S := by have := hf.1 _ rfl; simp only at this; omega
    have e := fun q => World.cell?_of_block (w := w) (w' := w.setCell ⟨S, o, none⟩ v) (a := ⟨b, q, none⟩) (Below.heap_setCell w ⟨S, o, none⟩ v b hb)
    refine .inr ⟨b, off, rfl, by simpa using hlt, fun i p hp => ?_⟩
    obtain ⟨c0, c1⟩ := hc i p hp
    exact ⟨(e _).trans c0, (e _).trans c1⟩
theorem small_right {w : World} {x : Option Addr} {v : Int} {G : List Fm} (h : FmL w x G) (hr : Right v (forms G)) : Small w G := by
  refine ⟨by have := hr.2.1; rw [forms_length] at this; omega, fun p hp => ⟨(h.2 p hp).rf, ?_⟩⟩
  have := (hr.2.2.1 p.p (List.mem_map_of_mem hp)).2.1.2
  have h2 : p.p.2.length = p.fL.length := rfl
  omega
/-- while the steps are applied: the variable at S, the result's behind it -/
structure Al (S : Nat) (v : Int) (x : Option Addr) (xc : Nat) (G : List Fm) (w wr : World) : Prop where
  box : Block wr S 24 [.int .i64 v, .slice x G.length xc]
  res : Block wr (S + 1) 24 [.int .i64 0, .slice none 0 0]
  fml : FmL wr x G
  far : Far (S + 2) x G
  small : G.length ≤ 40 ∧ ∀ p ∈ G, p.fL.length ≤ 40
  below : Below S w wr
theorem Al.later {S : Nat} {v : Int} {x : Option Addr} {xc : Nat} {G : List Fm} {w wr w' : World} (h : Al S v x xc G w wr) (hb : Below wr.heap.size wr w') : Al S v x xc G w w' :=
  ⟨h.box.later hb, h.res.later hb, h.fml.below hb, h.far, h.small, h.below.trans (hb.mono (by have := h.box.lt; omega))⟩
theorem Al.isSmall {S : Nat} {v : Int} {x : Option Addr} {xc : Nat} {G : List Fm} {w wr : World} (h : Al S v x xc G w wr) : Small wr G := ⟨h.small.1, fun p hp => ⟨(h.fml.2 p hp).rf, h.small.2 p hp⟩⟩
theorem al_mk {S : Nat} {v2 : Int} {c0 c1 : Value} {y : Option Addr} {yc : Nat} {H : List Fm} {w wr : World} (hbox : Block wr S 24 [c0, c1]) (hres : Block wr (S + 1) 24 [.int .i64 0, .slice none 0 0]) (hb : Below S w wr) (hf : FmL wr y H) (hy : Far (S + 2) y H) (hs : H.length ≤ 40 ∧ ∀ p ∈ H, p.fL.length ≤ 40) :
    Al S v2 y yc H w ((wr.setCell ⟨S, 0, none⟩ (.int .i64 v2)).setCell ⟨S, 1, none⟩ (.slice y H.length yc)) := by
  refine ⟨?_, ?_, fml_set (fml_set hf hy (by omega)) hy (by omega), hy, hs, below_setCells (below_setCells hb (Nat.le_refl _) 0 [_]) (Nat.le_refl _) 1 [_]⟩
  · have := (hbox.setCell 0 (.int .i64 v2)).setCell 1 (.slice y H.length yc)
    simpa using this
  · exact (hres.apart _ _ _ (by omega)).apart _ _ _ (by omega)
end Go.Proofs.Ytiajpjkkopdmgaa.typing

namespace Go.Proofs.Ytiajpjkkopdmgaa.typing
open Go.RowKit Go.Proofs.Ytiajpjkkopdmgaa.schema
open Go.Proofs.Ytiajpjkkopdmgaa.field (newB results_cell3)
open Go.Proofs.Ytiajpjkkopdmgaa.step (Lists St StL sps step_at)
set_option linter.unusedVariables false

/-- the call returns a schema, a place and an error as r says -/
def AllAs (r : Int × List schema.Form × Nat × Nat) (w : World) (e : Ending) (w' : World) : Prop :=
  ∃ x xc G, e = .returned (.tuple #[.agg #[.int .i64 r.1, .slice x (List.length (α := Fm) G) xc], .int .i64 (r.2.2.1 : Nat), .int .i64 (r.2.2.2 : Nat)]) ∧ FmL w' x G ∧ forms G = r.2.1 ∧ Below w.heap.size w w'
set_option maxRecDepth 20000 in
set_option maxHeartbeats 3200000 in
theorem all_any (v : Int) (a : Option Addr) (cap : Nat) (F : List Fm) (la : Option Addr) (lc : Nat) (L : List St) (w : World) (h : FmL w a F) (hF : Small w F) (hl : StL w la L) (hn : L.length ≤ 60) (h40 : ∀ p ∈ L, p.s.l.length ≤ 40) :
    Calls Try.prog 11 #[.agg #[.int .i64 v, .slice a F.length cap], .slice la L.length lc] w (AllAs (all 0 v (forms F) (sps L)) w) := by
  have hml : (L.length : Int) ≤ 60 := by omega
  obtain ⟨W2, hW2⟩ : ∃ W2, W2 = ((w.alloc (.cells #[.int .i64 v, .slice a F.length cap] 24))).alloc (.cells #[.int .i64 0, .slice none 0 0] 24) := ⟨_, rfl⟩
  have hb2 : Below w.heap.size w W2 := by rw [hW2]; exact (((Below.refl _ _).alloc (Nat.le_refl _) _).alloc (by simp) _)
  have hs2 : W2.heap.size = w.heap.size + 2 := by rw [hW2]; simp
  have hB1 : Block W2 w.heap.size 24 [.int .i64 v, .slice a F.length cap] := by rw [hW2]; exact (Block.new w _ _).alloc _
  have hB2 : Block W2 (w.heap.size + 1) 24 [.int .i64 0, .slice none 0 0] := by rw [hW2]; have := Block.new ((w.alloc (.cells #[.int .i64 v, .slice a F.length cap] 24))) 24 [.int .i64 0, .slice none 0 0]; simpa using this
  have cC := cloned_any v a cap F W2 (h.below hb2).1 (hF.below hb2)
  unfold ClonedAs at cC
  rw [hs2] at cC
  have HB1 := hid hB1
  have HB2 := hid hB2
  have HW := hid hb2
  have HS := hid hF
  have HL := hid hl
  have HL40 := hid h40
  obtain ⟨R, hR⟩ : ∃ R, Hid (all 0 v (forms F) (sps L) = R) := ⟨_, hid rfl⟩
  rw [hR.out]
  have HW2 := hid hW2
  have HS2 := hid hs2
  rw [hW2] at cC
  clear h hF hl h40 hb2 hs2 hB1 hB2 hW2
  unfold AllAs
  go_enter Try.func11, Try.ntmps11
  go_wp2_with (go_at_call 30; ((with_reducible refine cC.mono ?_); rintro e w1 ⟨u, G, rfl, ho, he, hfo, hb1⟩; obtain ⟨x, xc, rfl, _⟩ := ownsRow_slice ho; rw [← HW2.out, ← HS2.out] at hb1; have k0 := HB1.out.later hb1; have k1 := HB2.out.later hb1; have z0 := k0.cell 0; have z1 := k0.cell 1; have f0 := k0.frozen 0; have f1 := k0.frozen 1; have K0 := hid k0; have K1 := hid k1; have HO := hid ho; have HE := hid he; have HFO := hid hfo; have HB := hid hb1; clear k0 k1 ho he hfo hb1))
  have hA : Al w.heap.size v x xc G w ((w1.setCell ⟨w.heap.size, 0, none⟩ (.int .i64 v)).setCell ⟨w.heap.size, 1, none⟩ (.slice x G.length xc)) := by
    have hG8 : G.length = F.length := by have := congrArg List.length HFO.out; rwa [forms_length, forms_length] at this
    refine al_mk K0.out K1.out (HW.out.trans (HB.out.mono HW.out.size)) ⟨(own_fms HO.out).1, fun p hp => (HE.out p hp).ok⟩ ⟨far_row HO.out, fun p hp => far_row (HE.out p hp)⟩ ⟨by rw [hG8]; exact HS.out.1, fun p hp => ?_⟩
    have hm : p.p ∈ forms F := by rw [← HFO.out]; exact List.mem_map_of_mem hp
    obtain ⟨q, hq, hqp⟩ := List.mem_map.1 hm
    have := (HS.out.2 q hq).2
    rw [show p.fL = q.fL from congrArg Prod.snd hqp.symm]
    exact this
  have hQ : all 0 v (forms G) ((sps L).drop 0) = R := by rw [HFO.out]; exact hR.out
  have HA := hid hA
  have HQ := hid hQ
  clear hA hQ z0 z1 f0 f1 K0 K1 HO HE HFO HB cC
  generalize (w1.setCell ⟨w.heap.size, 0, none⟩ (.int .i64 v)).setCell ⟨w.heap.size, 1, none⟩ (.slice x G.length xc) = W3 at *
  go_loopw [15] (fun n wr => ∃ (k : Nat) (v2 : Int) (y : Option Addr) (yc : Nat) (H : List Fm), k ≤ L.length ∧ n = .int .i64 (k : Int) ∧ Hid (Al w.heap.size v2 y yc H w wr) ∧ Hid (all k v2 (forms H) ((sps L).drop k) = R)) (fun n _ => L.length - (intOf n).toNat)
  case atStart => exact ⟨0, v, x, xc, G, Nat.zero_le _, rfl, HA, HQ⟩
  case round =>
    obtain ⟨k, v2, y, yc, H, hk, rfl, HA, HQ⟩ := hrel
    have hQ := HQ.out
    clear HQ
    by_cases hlt : k < L.length
    · obtain ⟨b, off, p, rfl, hbl, hp, hls, z0, z1, z2, z3, z4, z5, z6, z7, z8, z9, z10, z11, z12, z13, z14, z15⟩ := step_at HL.out HA.out.below hlt
      have i1 : (k : Int) < L.length := by omega
      have hdrop : (sps L).drop k = p.s :: (sps L).drop (k + 1) := by
        have h1 : (sps L)[k]? = some p.s := by unfold sps; rw [List.getElem?_map, hp]; rfl
        rw [List.drop_eq_getElem_cons (List.getElem?_eq_some_iff.1 h1).1, (List.getElem?_eq_some_iff.1 h1).2]
      rw [hdrop] at hQ
      unfold all at hQ
      have hN := newB wr (.cells #[.int .i64 p.s.op, .int .i64 p.s.fm, .int .i64 p.s.fd, .int .i64 p.s.pl, .int .i64 p.s.tt, .int .i64 p.s.a, .int .i64 p.s.b, .int .i64 p.s.f.id, .int .i64 p.s.f.kind, .int .i64 p.s.f.lo, .int .i64 p.s.f.hi, .int .i64 p.s.f.most, .int .i64 p.s.v.n, .string p.s.v.s, .slice p.ta p.s.t.length p.tc, .slice p.la p.s.l.length p.lc] 32)
      have cO := on_any v2 y yc H p.s p.ta p.tc p.la p.lc _ (HA.out.fml.below hN) (HA.out.isSmall.below hN) (hls.below hN) (HL40.out p (List.mem_of_getElem? hp))
      have hok := fun h0 => on_ok (v := v2) (F := forms H) (s := p.s) h0
      generalize on v2 (forms H) p.s = r at cO hok hQ
      obtain ⟨v3, P, n⟩ := r
      simp only at hok hQ
      unfold OnAs at cO
      have HA2 := hid (HA.out.later hN)
      have x0 := HA2.out.box.cell 0
      have x1 := HA2.out.box.cell 1
      clear hN hls hp hdrop
      by_cases h0 : n = 0
      · obtain ⟨_, rfl, hR3, _⟩ := hok h0
        subst h0
        rw [if_pos rfl] at hQ
        have HQ := hid hQ
        have HR3 := hid hR3
        clear hQ hok hR3
        go_wp2_with (go_at_call 8; ((with_reducible refine cO.mono ?_); rintro e w5 ⟨y5, yc5, H5, rfl, hH, hfo, hfar, hb5⟩; have hN5 := newB w5 (.cells #[.int .i64 v3, .slice y5 H5.length yc5] 24); have HA5 := hid ((HA2.out.later hb5).later hN5); have HH := hid (hH.below hN5); have HF5 := hid hfo; have HFR := hid hfar; have y0 := (Block.new w5 24 [.int .i64 v3, .slice y5 H5.length yc5]).cell 0; have y1 := (Block.new w5 24 [.int .i64 v3, .slice y5 H5.length yc5]).cell 1; have q0 := HA5.out.box.cell 0; have q1 := HA5.out.box.cell 1; have g0 := HA5.out.box.frozen 0; have g1 := HA5.out.box.frozen 1; clear hN5 hb5 hH hfo hfar))
        have hF5 : Far (w.heap.size + 2) y5 H5 := by
          have h1 := HA2.out.res.lt
          exact ⟨fun z hz => by have := HFR.out.1 z hz; omega, fun r hr z hz => by have := HFR.out.2 r hr z hz; omega⟩
        have hS5 := small_right HH.out (v := v3) (by rw [HF5.out]; exact HR3.out)
        exact ⟨⟨k + 1, v3, y5, yc5, H5, by omega, by go_num, hid (al_mk HA5.out.box HA5.out.res HA5.out.below HH.out hF5 ⟨hS5.1, fun r hr => (hS5.2 r hr).2⟩), hid (by rw [HF5.out]; exact HQ.out)⟩, by simp [intOf]; omega⟩
      · rw [if_neg h0] at hQ
        subst hQ
        have hne : (((n : Nat) : Int) != 0) = true := by simpa using h0
        clear hok h0
        go_wp2_with (go_at_call 8; ((with_reducible refine cO.mono ?_); rintro e w5 ⟨y5, yc5, H5, rfl, hH, hfo, hfar, hb5⟩; have hN5 := newB w5 (.cells #[.int .i64 v3, .slice y5 H5.length yc5] 24); have HA5 := hid ((HA2.out.later hb5).later hN5); have g0 := HA5.out.res.cell 0; have g1 := HA5.out.res.cell 1; have g2 := HA5.out.res.frozen 0; have g3 := HA5.out.res.frozen 1; clear hN5 hb5 hH hfo hfar))
        have hB := (HA5.out.res.setCell 0 (.int .i64 0)).setCell 1 (.slice none 0 0)
        refine bodyPost_ret (results_cell3 (b := w.heap.size + 1) (o := 0) rfl rfl hB.whole Try.underlying24 rfl (sc_info2 _ _)) rfl ?_
        exact ⟨none, 0, [], rfl, ⟨.inl rfl, by simp⟩, rfl, below_setCells (below_setCells HA5.out.below (by omega) 0 [_]) (by omega) 1 [_]⟩
    · obtain rfl : k = L.length := by omega
      rw [List.drop_of_length_le (by unfold sps; simp)] at hQ
      unfold all at hQ
      subst hQ
      have x0 := HA.out.box.cell 0
      have x1 := HA.out.box.cell 1
      have g0 := HA.out.res.cell 0
      have g1 := HA.out.res.cell 1
      have g2 := HA.out.res.frozen 0
      have g3 := HA.out.res.frozen 1
      go_wp2
      have hB := (HA.out.res.setCell 0 (.int .i64 v2)).setCell 1 (.slice y H.length yc)
      refine bodyPost_ret (results_cell3 (b := w.heap.size + 1) (o := 0) rfl rfl hB.whole Try.underlying24 rfl (sc_info2 _ _)) rfl ?_
      exact ⟨y, yc, H, rfl, fml_set (fml_set HA.out.fml HA.out.far (by omega)) HA.out.far (by omega), rfl, below_setCells (below_setCells HA.out.below (by omega) 0 [_]) (by omega) 1 [_]⟩
end Go.Proofs.Ytiajpjkkopdmgaa.typing

namespace Go.Proofs.Ytiajpjkkopdmgaa.step
open Go.RowKit
set_option linter.unusedVariables false

theorem exec_indexP {o : Oper} {a : Act} {w : World} {x y : Operand} {b off len cap i : Nat} (ho : o.op = .indexAddr 34 x y) (hx : a.eval x = .slice (some ⟨b, off, none⟩) len cap) (hy : a.eval y = .int .i64 (i : Int)) (hi : i < len) :
    (execOp a.eval o).run Try.prog w = .ok (.value (.pointer (some ⟨b, off + i * 16, none⟩))) w := by
  unfold execOp
  rw [ho]
  simp only [hx, hy]
  go_simp
/-- the step k, as one range, in a later world -/
theorem step_range {w w' : World} {a : Option Addr} {L : List St} (h : StL w a L) (hb : Below w.heap.size w w') {k : Nat} (hk : k < L.length) :
    ∃ b off p, a = some ⟨b, off, none⟩ ∧ b < w'.heap.size ∧ L[k]? = some p ∧ Lists w' p.s p.ta p.la ∧ w'.rangeAt b (off + k * 16) p.C := by
  have h' := h.below hb
  rcases h'.row with rfl | ⟨b, off, ha, hlt, hc⟩
  · simp at hk
  · have hp := List.getElem?_eq_getElem hk
    exact ⟨b, off, _, ha, hlt, hp, h'.each _ (List.mem_of_getElem? hp), fun j v hj => hc k _ hp j v hj⟩
end Go.Proofs.Ytiajpjkkopdmgaa.step

namespace Go.Proofs.Ytiajpjkkopdmgaa.plan
open Go Go.RowKit
set_option linter.unusedVariables false
section
variable {P : Program} {md : Region.Mode} {Q : Exit → Act → World → Prop} {l : List Oper}
/-- a store, the only operation that may come up; others follow -/
theorem thenS {S : World → Prop} {f : Nat} {listed : Array Bool} {a : Act} {w w1 : World} (i : Nat) (o : Oper) (hi : l[i]? = some o) (hg : o.guard = none) (hd : o.dst = none) (hr : Region.ready md l.toArray listed = [i])
    (hv : (execOp a.eval o).run P w = .ok .skip w1) (hS : S w1) (h : wpAnyH P md l.toArray (NoPanic Q) S f (listed.setIfInBounds i true) a w1) : wpAnyH P md l.toArray (NoPanic Q) S (f + 1) listed a w := by
  refine wpAnyH_all hr (by simp) fun j hj => ?_
  obtain rfl : j = i := by simpa using hj
  have hi' : l.toArray[j]? = some o := by simpa using hi
  have hw : Region.wanted o (yielded l.toArray a.tmps) = true := by unfold Region.wanted; rw [hg]
  unfold wpOp
  have e : a.put o.dst undef = a := by rw [hd]; rfl
  simp only [hi', hw, if_true, Oper.wp, hv, Oper.upon]
  exact .inl ⟨hS, by rw [e]; exact h⟩
end
end Go.Proofs.Ytiajpjkkopdmgaa.plan

namespace Go.Proofs.Ytiajpjkkopdmgaa.typing
open Go.RowKit Go.Proofs.Ytiajpjkkopdmgaa.schema
open Go.Proofs.Ytiajpjkkopdmgaa.field (newB results_cell3)
open Go.Proofs.Ytiajpjkkopdmgaa.step (Lists St StL sps step_at step_range exec_indexP)
set_option linter.unusedVariables false

/-- while the steps are applied: the variable at S, the result's behind it; the schema's forms lie in neither -/
structure Al2 (S : Nat) (v : Int) (x : Option Addr) (xc : Nat) (G : List Fm) (w wr : World) : Prop where
  box : Block wr S 24 [.int .i64 v, .slice x G.length xc]
  res : Block wr (S + 1) 24 [.int .i64 0, .slice none 0 0]
  fml : FmL wr x G
  off : G ≠ [] → ∀ z, x = some z → z.block < S ∨ S + 2 ≤ z.block
  small : G.length ≤ 40 ∧ ∀ p ∈ G, p.fL.length ≤ 40
  below : Below S w wr
theorem Al2.later {S : Nat} {v : Int} {x : Option Addr} {xc : Nat} {G : List Fm} {w wr w' : World} (h : Al2 S v x xc G w wr) (hb : Below wr.heap.size wr w') : Al2 S v x xc G w w' :=
  ⟨h.box.later hb, h.res.later hb, h.fml.below hb, h.off, h.small, h.below.trans (hb.mono (by have := h.box.lt; omega))⟩
theorem Al2.isSmall {S : Nat} {v : Int} {x : Option Addr} {xc : Nat} {G : List Fm} {w wr : World} (h : Al2 S v x xc G w wr) : Small wr G := ⟨h.small.1, fun p hp => ⟨(h.fml.2 p hp).rf, h.small.2 p hp⟩⟩
theorem al2_mk {S : Nat} {v2 : Int} {c0 c1 : Value} {y : Option Addr} {yc : Nat} {H : List Fm} {w wr : World} (hbox : Block wr S 24 [c0, c1]) (hres : Block wr (S + 1) 24 [.int .i64 0, .slice none 0 0]) (hb : Below S w wr) (hf : FmL wr y H) (hy : H ≠ [] → ∀ z, y = some z → z.block < S ∨ S + 2 ≤ z.block) (hs : H.length ≤ 40 ∧ ∀ p ∈ H, p.fL.length ≤ 40) :
    Al2 S v2 y yc H w ((wr.setCell ⟨S, 0, none⟩ (.int .i64 v2)).setCell ⟨S, 1, none⟩ (.slice y H.length yc)) := by
  have hne : H ≠ [] → ∀ z, y = some z → z.block ≠ S := fun h z hz => by have := hy h z hz; omega
  refine ⟨?_, ?_, fml_set2 (fml_set2 hf hne hbox (by simp)) hne (hbox.setCell 0 _) (by simp), hy, hs, below_setCells (below_setCells hb (Nat.le_refl _) 0 [_]) (Nat.le_refl _) 1 [_]⟩
  · have := (hbox.setCell 0 (.int .i64 v2)).setCell 1 (.slice y H.length yc)
    simpa using this
  · exact (hres.apart _ _ _ (by omega)).apart _ _ _ (by omega)
/-- a schema's rows stay where a struct of two cells is stored into another block -/
theorem fml_store {w : World} {g : Nat} {v : Int} {x xa : Option Addr} {n xc : Nat} {G : List Fm} (h : FmL w x G) (hx : ∀ z, x = some z → z.block ≠ g) (hB : Block w g 24 [.int .i64 0, .slice none 0 0]) :
    FmL (w.setCells g 0 [.int .i64 v, .slice xa n xc]) x G ∧ Block (w.setCells g 0 [.int .i64 v, .slice xa n xc]) g 24 [.int .i64 v, .slice xa n xc] := by
  refine ⟨fml_set2 (S := g) (o := 1) (fml_set2 (S := g) (o := 0) h (fun _ => hx) hB (by simp)) (fun _ => hx) (hB.setCell 0 (.int .i64 v)) (by simp), ?_⟩
  have := hB.setCells (vs := [.int .i64 v, .slice xa n xc]) (o := 0)
  rwa [put_all _ _ (by simp)] at this
theorem fml_store0 {w : World} {g : Nat} {v : Int} {x xa : Option Addr} {n xc : Nat} {G : List Fm} (h : FmL w x G) (hx : ∀ z, x = some z → G ≠ [] → z.block < g) (hB : Block w g 24 [.int .i64 0, .slice none 0 0]) :
    FmL (w.setCells g 0 [.int .i64 v, .slice xa n xc]) x G ∧ Block (w.setCells g 0 [.int .i64 v, .slice xa n xc]) g 24 [.int .i64 v, .slice xa n xc] := by
  have hx' : G ≠ [] → ∀ z, x = some z → z.block ≠ g := fun hne z hz => by have := hx z hz hne; omega
  refine ⟨fml_set2 (S := g) (o := 1) (fml_set2 (S := g) (o := 0) h hx' hB (by simp)) hx' (hB.setCell 0 (.int .i64 v)) (by simp), ?_⟩
  have := hB.setCells (vs := [.int .i64 v, .slice xa n xc]) (o := 0)
  rwa [put_all _ _ (by simp)] at this
set_option maxRecDepth 20000 in
set_option maxHeartbeats 3200000 in
theorem refAll_any (v : Int) (a : Option Addr) (cap : Nat) (F : List Fm) (la : Option Addr) (lc : Nat) (L : List St) (w : World) (h : FmL w a F) (hF : Small w F) (hl : StL w la L) (hn : L.length ≤ 60) (h40 : ∀ p ∈ L, p.s.l.length ≤ 40) :
    Calls Try.prog 12 #[.agg #[.int .i64 v, .slice a F.length cap], .slice la L.length lc] w (AllAs (all 0 v (forms F) (sps L)) w) := by
  have hml : (L.length : Int) ≤ 60 := by omega
  obtain ⟨W2, hW2⟩ : ∃ W2, W2 = ((w.alloc (.cells #[.int .i64 v, .slice a F.length cap] 24))).alloc (.cells #[.int .i64 0, .slice none 0 0] 24) := ⟨_, rfl⟩
  have hb2 : Below w.heap.size w W2 := by rw [hW2]; exact (((Below.refl _ _).alloc (Nat.le_refl _) _).alloc (by simp) _)
  have hA : Al2 w.heap.size v a cap F w W2 := by
    refine ⟨by rw [hW2]; exact (Block.new w _ _).alloc _, by rw [hW2]; have := Block.new ((w.alloc (.cells #[.int .i64 v, .slice a F.length cap] 24))) 24 [.int .i64 0, .slice none 0 0]; simpa using this, h.below hb2, fun hne z hz => ?_, ⟨hF.1, fun p hp => (hF.2 p hp).2⟩, hb2⟩
    rcases h.1 with h1 | ⟨b, off, hb, hlt, _⟩
    · exact absurd h1 hne
    · rw [hb] at hz
      cases hz
      exact .inl hlt
  have HA0 := hid hA
  have HL := hid hl
  have HL40 := hid h40
  have HN := hid hn
  obtain ⟨R, hR⟩ : ∃ R, Hid (all 0 v (forms F) (sps L) = R) := ⟨_, hid rfl⟩
  rw [hR.out]
  have HW2 := hid hW2
  clear h hF hl h40 hb2 hA hW2 hn
  unfold AllAs
  go_enter Try.func12, Try.ntmps12
  go_wp2
  rw [← HW2.out]
  go_loopw [7] (fun n wr => ∃ (k : Nat) (v2 : Int) (y : Option Addr) (yc : Nat) (H : List Fm), k ≤ L.length ∧ n = .int .i64 (k : Int) ∧ Hid (Al2 w.heap.size v2 y yc H w wr) ∧ Hid (all k v2 (forms H) ((sps L).drop k) = R)) (fun n _ => L.length - (intOf n).toNat)
  case atStart => exact ⟨0, v, a, cap, F, Nat.zero_le _, rfl, HA0, hR⟩
  case round =>
    obtain ⟨k, v2, y, yc, H, hk, rfl, HA, HQ⟩ := hrel
    have hQ := HQ.out
    clear HQ
    by_cases hlt : k < L.length
    · obtain ⟨b, off, p, rfl, hbl, hp, hls, hrg⟩ := step_range HL.out HA.out.below hlt
      have i1 : (k : Int) < L.length := by omega
      have hdrop : (sps L).drop k = p.s :: (sps L).drop (k + 1) := by
        have h1 : (sps L)[k]? = some p.s := by unfold sps; rw [List.getElem?_map, hp]; rfl
        rw [List.drop_eq_getElem_cons (List.getElem?_eq_some_iff.1 h1).1, (List.getElem?_eq_some_iff.1 h1).2]
      rw [hdrop] at hQ
      unfold all at hQ
      have HHL := hid (HL40.out p (List.mem_of_getElem? hp))
      have HLT := hid hlt
      have HC : Hid (∀ w', Below wr.heap.size wr w' → Al2 w.heap.size v2 y yc H w w' ∧ Lists w' p.s p.ta p.la ∧ w'.rangeAt b (off + k * 16) p.C) := hid (fun w' hb => ⟨HA.out.later hb, hls.below hb, range_later hrg hb hbl⟩)
      have cO := fun (w' : World) (hb : Below wr.heap.size wr w') => refOn_any v2 y yc H p.s p.ta p.tc p.la p.lc w' (HC.out _ hb).1.fml (HC.out _ hb).1.isSmall (HC.out _ hb).2.1 HHL.out
      have hok := fun h0 => on_ok (v := v2) (F := forms H) (s := p.s) h0
      generalize on v2 (forms H) p.s = r at cO hok hQ
      obtain ⟨v3, P, n⟩ := r
      simp only at hok hQ
      unfold OnR at cO
      clear hls hp hdrop hrg
      have hw2 := HA.out.res.lt
      go_wp2
      refine plan.regionS (S := fun w' => Below wr.heap.size wr w') (by kernel_rfl) ?_
      have hS : Below wr.heap.size wr wr.drew := below_drewN (Below.refl _ _) 1
      generalize wr.drew = wd at *
      refine plan.firstS 0 _ (.agg #[.int .i64 v2, .slice y H.length yc]) rfl (by kernel_rfl) (by kernel_rfl) (by kernel_rfl) (by kernel_rfl) (fun w' hS' => exec_load_at (b := w.heap.size) (off := 0) rfl (by kernel_rfl) (HC.out _ hS').1.box.whole Try.underlying24 rfl info_sc.out) hS ?_
      refine plan.firstS 1 _ (.slice (some ⟨b, off, none⟩) L.length lc) rfl (by kernel_rfl) (by kernel_rfl) (by kernel_rfl) (by kernel_rfl) (fun w' hS' => (by kernel_rfl)) hS ?_
      refine plan.firstS 2 _ (.int .i64 (k : Int)) rfl (by kernel_rfl) (by kernel_rfl) (by kernel_rfl) (by kernel_rfl) (fun w' hS' => (by kernel_rfl)) hS ?_
      refine plan.firstS 3 _ (.pointer (some ⟨b, off + k * 16, none⟩)) rfl (by kernel_rfl) (by kernel_rfl) (by kernel_rfl) (by kernel_rfl) (fun w' hS' => exec_indexP (b := b) (off := off) (len := L.length) (cap := lc) (i := k) rfl (by kernel_rfl) (by kernel_rfl) HLT.out) hS ?_
      refine plan.firstS 4 _ (.agg #[.int .i64 p.s.op, .int .i64 p.s.fm, .int .i64 p.s.fd, .int .i64 p.s.pl, .int .i64 p.s.tt, .int .i64 p.s.a, .int .i64 p.s.b, .int .i64 p.s.f.id, .int .i64 p.s.f.kind, .int .i64 p.s.f.lo, .int .i64 p.s.f.hi, .int .i64 p.s.f.most, .int .i64 p.s.v.n, .string p.s.v.s, .slice p.ta p.s.t.length p.tc, .slice p.la p.s.l.length p.lc]) rfl (by kernel_rfl) (by kernel_rfl) (by kernel_rfl) (by kernel_rfl) (fun w' hS' => exec_load_at (b := b) (off := off + k * 16) rfl (by kernel_rfl) (HC.out _ hS').2.2 Try.underlying32 rfl st_info) hS ?_
      refine bothS 5 9 (by kernel_rfl) ?_ ?_
      · refine ⟨_, rfl, rfl, .inr ⟨9, #[.agg #[.int .i64 v2, .slice y H.length yc], .agg #[.int .i64 p.s.op, .int .i64 p.s.fm, .int .i64 p.s.fd, .int .i64 p.s.pl, .int .i64 p.s.tt, .int .i64 p.s.a, .int .i64 p.s.b, .int .i64 p.s.f.id, .int .i64 p.s.f.kind, .int .i64 p.s.f.lo, .int .i64 p.s.f.hi, .int .i64 p.s.f.most, .int .i64 p.s.v.n, .string p.s.v.s, .slice p.ta p.s.t.length p.tc, .slice p.la p.s.l.length p.lc]], (by kernel_rfl), (cO wd hS).mono ?_⟩⟩
        rintro e w5 ⟨y5, yc5, H5, rfl, hH, hfo, hfar, hb5⟩
        have hS5 : Below wr.heap.size wr w5 := hS.trans (hb5.mono hS.size)
        refine ⟨_, rfl, hS5, ?_⟩
        refine plan.firstS 6 _ (.tuple #[.agg #[.int .i64 v3, .slice y5 H5.length yc5], .int .i64 (n : Nat)]) rfl (by kernel_rfl) (by kernel_rfl) (by kernel_rfl) (by kernel_rfl) (fun w' hS' => (by kernel_rfl)) hS5 ?_
        refine plan.firstS 7 _ (.agg #[.int .i64 v3, .slice y5 H5.length yc5]) rfl (by kernel_rfl) (by kernel_rfl) (by kernel_rfl) (by kernel_rfl) (fun w' hS' => (by kernel_rfl)) hS5 ?_
        refine plan.firstS 8 _ (.int .i64 (n : Nat)) rfl (by kernel_rfl) (by kernel_rfl) (by kernel_rfl) (by kernel_rfl) (fun w' hS' => (by kernel_rfl)) hS5 ?_
        have hfm := hH.below (newB w5 (.cells #[.int .i64 0, .slice none 0 0] 24))
        have hZ := Block.new w5 24 [.int .i64 0, .slice none 0 0]
        have hbl : ∀ z, y5 = some z → H5 ≠ [] → z.block < w5.heap.size := fun z hz hne => by
          rcases hH.1 with h1 | ⟨b2, o2, e2, hl2, _⟩
          · exact absurd h1 hne
          · rw [e2] at hz; cases hz; exact hl2
        have hS8 : Below wr.heap.size wr (w5.alloc (.cells #[.int .i64 0, .slice none 0 0] 24)) := hS5.alloc hS5.size _
        refine plan.oneS (w1 := w5.alloc (.cells #[.int .i64 0, .slice none 0 0] 24)) 9 _ (.pointer (some ⟨w5.heap.size, 0, none⟩)) rfl rfl (by kernel_rfl) (by kernel_rfl) hS8 ?_
        have HOFF : Hid (H5 ≠ [] → ∀ z, y5 = some z → z.block < w.heap.size ∨ w.heap.size + 2 ≤ z.block) := hid (fun _ z hz => by have := hfar z hz; have := hS.size; omega)
        have hz5 := hS5.size
        obtain ⟨w6, hw6⟩ : ∃ x, x = w5.alloc (.cells #[.int .i64 0, .slice none 0 0] 24) := ⟨_, rfl⟩
        rw [← hw6] at hS8 hfm hZ ⊢
        obtain ⟨g, hg⟩ : ∃ x, x = w5.heap.size := ⟨_, rfl⟩
        rw [← hg] at hZ hbl hz5 ⊢
        clear hw6 hg hH hfar hb5 hS5
        have hst := fml_store0 (v := v3) (xa := y5) (n := H5.length) (xc := yc5) hfm hbl hZ
        have hS9 : Below wr.heap.size wr (w6.setCells g 0 [.int .i64 v3, .slice y5 H5.length yc5]) := below_setCells hS8 hz5 0 _
        refine plan.thenS (w1 := w6.setCells g 0 [.int .i64 v3, .slice y5 H5.length yc5]) 10 _ rfl rfl rfl (by kernel_rfl) (plan.exec_store_all (cells := #[.int .i64 v3, .slice y5 H5.length yc5]) rfl (by kernel_rfl) (by kernel_rfl) hZ rfl info_sc.out (by simp [Value.oneCell'])) hS9 ?_
        generalize w6.setCells g 0 [.int .i64 v3, .slice y5 H5.length yc5] = w7 at *
        refine plan.oneS (w1 := w7) 11 _ (.int .i64 (n : Nat)) rfl rfl (by kernel_rfl) (by kernel_rfl) hS9 ?_
        refine plan.doneS (by kernel_rfl) ?_
        obtain ⟨hH7, hT7⟩ := hst
        have HH7 := hid hH7
        have HA7 := hid (HC.out _ hS9).1
        have y0 := hT7.cell 0
        have y1 := hT7.cell 1
        clear hH7 hT7 hS9 hfm hbl hZ hS cO HC
        by_cases h0 : n = 0
        · obtain ⟨_, rfl, hR3, _⟩ := hok h0
          subst h0
          rw [if_pos rfl] at hQ
          have q0 := HA7.out.box.cell 0
          have q1 := HA7.out.box.cell 1
          have g0 := HA7.out.box.frozen 0
          have g1 := HA7.out.box.frozen 1
          have hS5 := small_right HH7.out (v := v3) (by rw [hfo]; exact hR3)
          have HQ2 := hid hQ
          have HS5 := hid hS5
          have HFO := hid hfo
          clear hok hQ hS5 hfo hR3
          walk_nrm
          go_wp2
          exact ⟨⟨k + 1, v3, y5, yc5, H5, by omega, by go_num, hid (al2_mk HA7.out.box HA7.out.res HA7.out.below HH7.out HOFF.out ⟨HS5.out.1, fun r hr => (HS5.out.2 r hr).2⟩), hid (by rw [HFO.out]; exact HQ2.out)⟩, by simp [intOf]; omega⟩
        · rw [if_neg h0] at hQ
          subst hQ
          have hne : (((n : Nat) : Int) != 0) = true := by simpa using h0
          have g0 := HA7.out.res.cell 0
          have g1 := HA7.out.res.cell 1
          have g2 := HA7.out.res.frozen 0
          have g3 := HA7.out.res.frozen 1
          clear hok h0
          walk_nrm
          go_wp2
          have hB := (HA7.out.res.setCell 0 (.int .i64 0)).setCell 1 (.slice none 0 0)
          refine bodyPost_ret (results_cell3 (b := w.heap.size + 1) (o := 0) rfl rfl hB.whole Try.underlying24 rfl (sc_info2 _ _)) rfl ?_
          exact ⟨none, 0, [], rfl, ⟨.inl rfl, by simp⟩, rfl, below_setCells (below_setCells HA7.out.below (by omega) 0 [_]) (by omega) 1 [_]⟩
      · refine ⟨_, rfl, rfl, .inl ⟨.pointer (some ⟨wd.heap.size, 0, none⟩), wd.alloc (.cells #[.int .i64 0, .slice none 0 0] 24), (by kernel_rfl), (hS.alloc hS.size _), ?_⟩⟩
        have hSa : Below wr.heap.size wr (wd.alloc (.cells #[.int .i64 0, .slice none 0 0] 24)) := hS.alloc hS.size _
        have hZ0 := Block.new wd 24 [.int .i64 0, .slice none 0 0]
        have hza : (wd.alloc (.cells #[.int .i64 0, .slice none 0 0] 24)).heap.size = wd.heap.size + 1 := by simp
        obtain ⟨wa, hwa⟩ : ∃ x, x = wd.alloc (.cells #[.int .i64 0, .slice none 0 0] 24) := ⟨_, rfl⟩
        rw [← hwa] at hSa hZ0 hza ⊢
        refine plan.callS 5 _ 9 #[.agg #[.int .i64 v2, .slice y H.length yc], .agg #[.int .i64 p.s.op, .int .i64 p.s.fm, .int .i64 p.s.fd, .int .i64 p.s.pl, .int .i64 p.s.tt, .int .i64 p.s.a, .int .i64 p.s.b, .int .i64 p.s.f.id, .int .i64 p.s.f.kind, .int .i64 p.s.f.lo, .int .i64 p.s.f.hi, .int .i64 p.s.f.most, .int .i64 p.s.v.n, .string p.s.v.s, .slice p.ta p.s.t.length p.tc, .slice p.la p.s.l.length p.lc]] rfl (by kernel_rfl) (by kernel_rfl) (by kernel_rfl) ((cO wa hSa).mono ?_)
        rintro e w5 ⟨y5, yc5, H5, rfl, hH, hfo, hfar, hb5⟩
        have hS8 : Below wr.heap.size wr w5 := hSa.trans (hb5.mono hSa.size)
        refine ⟨_, rfl, hS8, ?_⟩
        refine plan.firstS 6 _ (.tuple #[.agg #[.int .i64 v3, .slice y5 H5.length yc5], .int .i64 (n : Nat)]) rfl (by kernel_rfl) (by kernel_rfl) (by kernel_rfl) (by kernel_rfl) (fun w' hS' => (by kernel_rfl)) hS8 ?_
        refine plan.firstS 7 _ (.agg #[.int .i64 v3, .slice y5 H5.length yc5]) rfl (by kernel_rfl) (by kernel_rfl) (by kernel_rfl) (by kernel_rfl) (fun w' hS' => (by kernel_rfl)) hS8 ?_
        refine plan.firstS 8 _ (.int .i64 (n : Nat)) rfl (by kernel_rfl) (by kernel_rfl) (by kernel_rfl) (by kernel_rfl) (fun w' hS' => (by kernel_rfl)) hS8 ?_
        have hfm := hH
        have hZ := hZ0.later hb5
        have HOFF : Hid (H5 ≠ [] → ∀ z, y5 = some z → z.block < w.heap.size ∨ w.heap.size + 2 ≤ z.block) := hid (fun _ z hz => by have := hfar z hz; have := hS.size; omega)
        have hz5 := hS.size
        have hoff : ∀ z, y5 = some z → z.block ≠ wd.heap.size := fun z hz => by have := hfar z hz; omega
        obtain ⟨g, hg⟩ : ∃ x, x = wd.heap.size := ⟨_, rfl⟩
        rw [← hg] at hZ hoff hz5 ⊢
        clear hwa hg hZ0 hza hH hfar hb5 hSa
        have hst := fml_store (v := v3) (xa := y5) (n := H5.length) (xc := yc5) hfm hoff hZ
        have hS9 : Below wr.heap.size wr (w5.setCells g 0 [.int .i64 v3, .slice y5 H5.length yc5]) := below_setCells hS8 hz5 0 _
        refine plan.thenS (w1 := w5.setCells g 0 [.int .i64 v3, .slice y5 H5.length yc5]) 10 _ rfl rfl rfl (by kernel_rfl) (plan.exec_store_all (cells := #[.int .i64 v3, .slice y5 H5.length yc5]) rfl (by kernel_rfl) (by kernel_rfl) hZ rfl info_sc.out (by simp [Value.oneCell'])) hS9 ?_
        generalize w5.setCells g 0 [.int .i64 v3, .slice y5 H5.length yc5] = w7 at *
        refine plan.oneS (w1 := w7) 11 _ (.int .i64 (n : Nat)) rfl rfl (by kernel_rfl) (by kernel_rfl) hS9 ?_
        refine plan.doneS (by kernel_rfl) ?_
        obtain ⟨hH7, hT7⟩ := hst
        have HH7 := hid hH7
        have HA7 := hid (HC.out _ hS9).1
        have y0 := hT7.cell 0
        have y1 := hT7.cell 1
        clear hH7 hT7 hS9 hfm hoff hZ hS cO HC
        by_cases h0 : n = 0
        · obtain ⟨_, rfl, hR3, _⟩ := hok h0
          subst h0
          rw [if_pos rfl] at hQ
          have q0 := HA7.out.box.cell 0
          have q1 := HA7.out.box.cell 1
          have g0 := HA7.out.box.frozen 0
          have g1 := HA7.out.box.frozen 1
          have hS5 := small_right HH7.out (v := v3) (by rw [hfo]; exact hR3)
          have HQ2 := hid hQ
          have HS5 := hid hS5
          have HFO := hid hfo
          clear hok hQ hS5 hfo hR3
          walk_nrm
          go_wp2
          exact ⟨⟨k + 1, v3, y5, yc5, H5, by omega, by go_num, hid (al2_mk HA7.out.box HA7.out.res HA7.out.below HH7.out HOFF.out ⟨HS5.out.1, fun r hr => (HS5.out.2 r hr).2⟩), hid (by rw [HFO.out]; exact HQ2.out)⟩, by simp [intOf]; omega⟩
        · rw [if_neg h0] at hQ
          subst hQ
          have hne : (((n : Nat) : Int) != 0) = true := by simpa using h0
          have g0 := HA7.out.res.cell 0
          have g1 := HA7.out.res.cell 1
          have g2 := HA7.out.res.frozen 0
          have g3 := HA7.out.res.frozen 1
          clear hok h0
          walk_nrm
          go_wp2
          have hB := (HA7.out.res.setCell 0 (.int .i64 0)).setCell 1 (.slice none 0 0)
          refine bodyPost_ret (results_cell3 (b := w.heap.size + 1) (o := 0) rfl rfl hB.whole Try.underlying24 rfl (sc_info2 _ _)) rfl ?_
          exact ⟨none, 0, [], rfl, ⟨.inl rfl, by simp⟩, rfl, below_setCells (below_setCells HA7.out.below (by omega) 0 [_]) (by omega) 1 [_]⟩
    · obtain rfl : k = L.length := by omega
      rw [List.drop_of_length_le (by unfold sps; simp)] at hQ
      unfold all at hQ
      subst hQ
      have x0 := HA.out.box.cell 0
      have x1 := HA.out.box.cell 1
      have g0 := HA.out.res.cell 0
      have g1 := HA.out.res.cell 1
      have g2 := HA.out.res.frozen 0
      have g3 := HA.out.res.frozen 1
      go_wp2
      have hB := (HA.out.res.setCell 0 (.int .i64 v2)).setCell 1 (.slice y H.length yc)
      have hne : H ≠ [] → ∀ z, y = some z → z.block ≠ w.heap.size + 1 := fun h z hz => by have := HA.out.off h z hz; omega
      refine bodyPost_ret (results_cell3 (b := w.heap.size + 1) (o := 0) rfl rfl hB.whole Try.underlying24 rfl (sc_info2 _ _)) rfl ?_
      exact ⟨y, yc, H, rfl, fml_set2 (fml_set2 HA.out.fml hne HA.out.res (by simp)) hne (HA.out.res.setCell 0 _) (by simp), rfl, below_setCells (below_setCells HA.out.below (by omega) 0 [_]) (by omega) 1 [_]⟩
end Go.Proofs.Ytiajpjkkopdmgaa.typing

namespace Go.Proofs.Ytiajpjkkopdmgaa.typingAll
open Go.RowKit Go.Proofs.Ytiajpjkkopdmgaa.schema Go.Proofs.Ytiajpjkkopdmgaa.typing
open Go.Proofs.Ytiajpjkkopdmgaa.field (Gives newB gives_from)
open Go.Proofs.Ytiajpjkkopdmgaa.step (Lists St StL sps GreatL great_not)
set_option linter.unusedVariables false

theorem all_small : ∀ (k : Nat) (v : Int) (F : List schema.Form) (L : List step.Sp), F.length ≤ 40 → (all k v F L).2.1.length ≤ 40
  | _, v, F, [], h => h
  | k, v, F, s :: r, h => by
    unfold all
    by_cases h0 : (on v F s).2.2 = 0
    · rw [if_pos h0]
      obtain ⟨_, _, hR, _⟩ := on_ok h0
      exact all_small (k + 1) _ _ r (Nat.le_trans hR.2.1 (by decide))
    · rw [if_neg h0]
      simp
set_option maxRecDepth 20000 in
set_option maxHeartbeats 3200000 in
theorem walk0 (v : Int) (sa : Option Addr) (sc : Nat) (F : List Fm) (la : Option Addr) (lc : Nat) (L : List St) (w : World) (h : FmL w sa F) (hF : F.length ≤ maxLen) (hl : StL w la L) (hL : L.length ≤ maxLen) :
    Calls Try.prog 4 #[.agg #[.int .i64 v, .slice sa F.length sc], .slice la L.length lc] w (Yes w) := by
  have hw : Below w.heap.size w (w.alloc (.cells #[.int .i64 v, .slice sa F.length sc] 24)) := newB w (.cells #[.int .i64 v, .slice sa F.length sc] 24)
  have hA : Block (w.alloc (.cells #[.int .i64 v, .slice sa F.length sc] 24)) w.heap.size 24 [.int .i64 v, .slice sa F.length sc] := Block.new w _ _
  obtain ⟨W0, hW0⟩ : ∃ x, (w.alloc (.cells #[.int .i64 v, .slice sa F.length sc] 24)) = x := ⟨_, rfl⟩
  have HW0 := hid hW0
  rw [hW0] at hA hw
  have hf0 := h.below hw
  have hl0 := hl.below hw
  have cG := great_any v sa sc F la lc L W0 hf0 hF hl0 hL
  obtain ⟨g, hg⟩ : ∃ g : Bool, (greatB (forms F) || decide (GreatL (sps L))) = g := ⟨_, rfl⟩
  rw [hg] at cG
  have HX : Hid (∀ w', Below W0.heap.size W0 w' → Block w' w.heap.size 24 [.int .i64 v, .slice sa F.length sc] ∧ Below w.heap.size w w') := hid (fun w' hb => ⟨hA.later hb, hw.trans (hb.mono hw.size)⟩)
  have cA := fun w' => awake_any w'
  clear hW0
  unfold Yes at cA ⊢
  unfold Gives at cG
  cases g
  rotate_left
  · clear h hl hA hw hf0 hl0 hg hF hL
    rw [← HW0.out] at cG
    go_enter Try.func4, Try.ntmps4
    go_wp2_with (first
      | (go_at_call 6; ((with_reducible refine cG.mono ?_); clear cG; rintro e w1 ⟨rfl, hb1⟩; rw [HW0.out] at hb1))
      | (go_at_call 7; ((with_reducible refine (cA _).mono ?_); rintro e w8 ⟨rfl, hb8⟩)))
    go_ret
    exact ⟨rfl, (HX.out _ (hb1.trans (hb8.mono hb1.size))).2⟩
  obtain ⟨hsm, hll⟩ := small_of h hg
  have hg2 : ¬ GreatL (sps L) := by simp only [Bool.or_eq_false_iff, decide_eq_false_iff_not] at hg; exact hg.2
  have h60 : L.length ≤ 60 := by have := (great_not hg2).1; unfold sps at this; simpa using this
  have cO := fun (w' : World) (hb : Below W0.heap.size W0 w') => all_any v sa sc F la lc L w' (hf0.below hb) ((hsm.below hw).below hb) (hl0.below hb) h60 hll
  have cQ := fun (w' : World) (hb : Below W0.heap.size W0 w') => refAll_any v sa sc F la lc L w' (hf0.below hb) ((hsm.below hw).below hb) (hl0.below hb) h60 hll
  have hon := all_small 0 v (forms F) (sps L) (by rw [forms_length]; exact hsm.1)
  generalize all 0 v (forms F) (sps L) = R at cO cQ hon
  obtain ⟨v', P, m, n⟩ := R
  simp only at hon
  unfold AllAs at cO cQ
  have HON := hid hon
  clear h hl hA hw hf0 hl0 hg hsm hll hon hF hL hg2 h60
  rw [← HW0.out] at cG
  go_enter Try.func4, Try.ntmps4
  go_wp2_with (first
    | (go_at_call 6; ((with_reducible refine cG.mono ?_); clear cG; rintro e w1 ⟨rfl, hb1⟩; rw [HW0.out] at hb1; have hB2 := hb1; obtain ⟨k0, hbw1⟩ := HX.out _ hB2; have z0 := k0.cell 0; have z1 := k0.cell 1; clear k0))
    | (go_at_call 11; ((with_reducible refine (cO _ hB2).mono ?_); rintro e w3 ⟨x, xc, G, rfl, hG, hfo, hb3⟩; have hB3 := hB2.trans (hb3.mono hB2.size); have hN3 := newB w3 (.cells #[.int .i64 v', .slice x G.length xc] 24); have hB4 := hB3.trans (hN3.mono hB3.size); obtain ⟨k0, hbw4⟩ := HX.out _ hB4; have z0 := k0.cell 0; have z1 := k0.cell 1; have KX := hid (Block.new w3 24 [.int .i64 v', .slice x G.length xc]); have HG := hid (hG.below hN3); have HGL : Hid (G.length ≤ maxLen) := hid (by have h8 := HON.out; rw [← hfo, forms_length] at h8; unfold maxLen; omega); have HFO := hid hfo; clear k0 hG hfo))
    | (go_at_call 12; ((with_reducible refine (cQ _ hB4).mono ?_); rintro e w5 ⟨y, yc, H, rfl, hH, hfo, hb5⟩; have hN5 := newB w5 (.cells #[.int .i64 v', .slice y H.length yc] 24); have hb6 := hb5.trans (hN5.mono hb5.size); have hB6 := hB4.trans (hb6.mono hB4.size); have kx := KX.out.later hb6; have x0 := kx.cell 0; have x1 := kx.cell 1; have KY := Block.new w5 24 [.int .i64 v', .slice y H.length yc]; have y0 := KY.cell 0; have y1 := KY.cell 1; have HG6 := hid (HG.out.below hb6); have HH := hid (hH.below hN5); have HHL : Hid (H.length ≤ maxLen) := hid (by have h8 := HON.out; rw [← hfo, forms_length] at h8; unfold maxLen; omega); have HFO2 := hid hfo; clear kx KY hH hfo))
    | (go_at_call 10; ((with_reducible refine (refSame_any v' x xc G v' y yc H _ HG6.out HH.out HGL.out HHL.out).mono ?_); unfold Gives; rw [decide_eq_true (show v' = v' ∧ forms G = forms H from ⟨rfl, by rw [HFO.out, HFO2.out]⟩)]; rintro e w7 ⟨rfl, hb7⟩; have hB7 := hB6.trans (hb7.mono hB6.size)))
    | (go_at_call 7; ((with_reducible refine (cA _).mono ?_); rintro e w8 ⟨rfl, hb8⟩)))
  go_ret
  exact ⟨rfl, (HX.out _ (hB7.trans (hb8.mono hB7.size))).2⟩
theorem walk (p : Sc) (a : Option Addr) (cap : Nat) (L : List St) (w : World) (hp : p.Good w) (hs : step.Sts w a L) (hg : ∀ q ∈ L, q.Good w) (hl : L.length ≤ cap) (hm : cap ≤ maxLen) : Calls Try.prog 4 #[p.val, .slice a L.length cap] w (Yes w) :=
  walk0 p.ver p.f p.fCap p.fL a cap L w ⟨hp.rf, fun y hy => (hp.mf y hy).ok⟩ (Nat.le_trans hp.cf hp.df) ⟨hs, fun q hq => (hg q hq).lists⟩ (Nat.le_trans hl hm)
end Go.Proofs.Ytiajpjkkopdmgaa.typingAll

namespace Go.Proofs.Ytiajpjkkopdmgaa.typingAll
open Go.ChangeShapes Go.WideShapes Go.ChangeAt Go.RowKit Go.Proofs.Ytiajpjkkopdmgaa.schema Go.Proofs.Ytiajpjkkopdmgaa.step
open Go.ChangeMaps (open_string shut_string)
set_option linter.unusedVariables false
set_option maxRecDepth 100000 in
theorem lifted (os : Os) (started : os.Started) (H : Type) (enc : TypeId × Value → H) :
    ReturnsInHanded {} Try.checked os 4 .any (Rows.typingAllSpec.pre6 enc Try.prog Try.f4 Rows.typingAllRow.domain false) (Rows.typingAllSpec.post enc Try.prog Try.f4 false true false false) := by
  refine returnsInHanded_of_change_sized (C := Try.checked) own started (by kernel_rfl) Try.func4
    (ChangeSpec.witness6 (enc := enc) (C := Try.checked) false ⟨#[], #[.agg #[.int .i64 0, .slice none 0 0], .slice none 0 0], []⟩ 8 (by kernel_rfl) (by kernel_rfl) (by kernel_rfl) (by kernel_rfl)) ?_
  intro W base args ds gs before hval0 hW hcnd hsz0 _
  have hsz : (DataW.weightsEach Try.prog (Try.f4.params.toList ++ Rows.typingAllSpec.plain.varTypes Try.prog) (ds ++ gs)).all (· ≤ reachBytes) = true := hsz0
  clear hsz0
  have hval : ∀ (j : Nat) t v, Try.f4.params[j]? = some t → args[j]? = some v → Value.okWide Try.prog W .any base t v := hval0
  have hW' := hW
  obtain ⟨p, q, hA0, hV, rfl, hfz, hnd⟩ := hW
  have hA : DataW.TrodAll enc Try.prog W 0 (fun _ => true) true Try.f4.params.toList args.toList ds p := hA0
  rw [Try.params4] at hA hval hsz
  obtain ⟨v0, vs0, d0, ds0, p0, q0, hargs, rfl, rfl, h0, r0⟩ := trodAll_cons hA
  obtain ⟨v1, vs1, d1, ds1, p1, q1, rfl, rfl, rfl, h1, r1⟩ := trodAll_cons r0
  obtain ⟨rfl, rfl, rfl⟩ := trodAll_nil r1
  obtain rfl : args = #[v0, v1] := by cases args; simp_all
  obtain ⟨rfl, rfl⟩ := trodVars_none hV
  have k0 := h0
  have lt0 : ∀ x ∈ p0, x.block < W.heap.size := by obtain ⟨m, hm⟩ := k0; exact DataW.trod_lt m _ _ _ hm
  obtain ⟨pc0, fp0, rfl⟩ := open_Sc_arg Try.underlying24 (by kernel_rfl) (by kernel_rfl) (by kernel_rfl) Go.Proofs.Ytiajpjkkopdmgaa.schema.fmRow (hval 0 24 v0 rfl rfl) h0
  obtain ⟨a1, len1, cap1, rfl⟩ := okWide_slice Try.underlying34 (hval 1 34 v1 rfl rfl)
  have k1 := h1
  have lt1 : ∀ x ∈ p1, x.block < W.heap.size := by obtain ⟨m, hm⟩ := k1; exact DataW.trod_lt m _ _ _ hm
  obtain ⟨l1, rfl, ac1, fp1, lc1, cm1⟩ := open_Sts Try.underlying34 Go.Proofs.Ytiajpjkkopdmgaa.step.stType h1
  clear hA0 hval0
  refine (walk pc0 a1 cap1 l1 W fp0 ac1 fp1 lc1 cm1).mono fun e W' ⟨he, bel⟩ => ?_
  subst he
  exact ⟨_, rfl, _, _, _, [], _, [], hW', trodAll_mk1 (shut_bool Try.underlying4 _), (trodAll_cons_mk (Below.trod laidOut (by kernel_rfl) (of_decide_eq_true (by kernel_rfl)) k0 bel lt0) (trodAll_cons_mk (Below.trod laidOut (by kernel_rfl) (of_decide_eq_true (by kernel_rfl)) k1 bel lt1) trodAll_mk0)), rfl, bel.frame _, fun h => by cases h⟩

theorem holds : Rows.TypingAllSaid :=
  OpenClaim.holds_of_wide 4 Try.f4 rfl rfl rfl rfl rfl rfl rfl ⟨rfl, rfl, rfl, rfl, rfl⟩ rfl rfl rfl rfl rfl (by kernel_rfl) Try.func4 (by kernel_rfl)
    (of_decide_eq_true (by kernel_rfl)) (by unfold Func.isWrapper; first | (rw [if_pos (by decide +kernel)]; kernel_rfl) | (rw [if_neg (by decide +kernel)]; exact ⟨rfl, rfl⟩))
    (fun os started H enc _ => lifted os started H enc)
#print axioms holds
end Go.Proofs.Ytiajpjkkopdmgaa.typingAll
