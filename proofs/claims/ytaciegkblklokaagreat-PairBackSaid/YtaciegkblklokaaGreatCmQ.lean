/- Contracts and lemmas that the claims of this seat share: TypingRefForms, TypingRefKit. Each says its own conditions. -/
import Derived.Test.YtaciegkblklokaaGreatCmC
import Derived.Test.YtaciegkblklokaaGreatCmI
import Derived.Test.YtaciegkblklokaaGreatCmH
import Derived.Test.YtaciegkblklokaaGreatCmJ
import Derived.Test.YtaciegkblklokaaGreatCmO
import Derived.Conc.WalkWords
import Derived.Test.YtaciegkblklokaaGreatCmK
set_option linter.unusedVariables false
namespace Go.Proofs.YtaciegkblklokaaGreat.typing
open Go.RowKit Go.Proofs.YtaciegkblklokaaGreat.schema
open Go.Proofs.YtaciegkblklokaaGreat.field (newB)
structure Fo (S L : Nat) (v : Int) (u : Value) (G : List Fm) (W0 wr : World) : Prop where
 box : Block wr S 24 [.int .i64 v, u]
 row : wr.ownsRow L 58 2 u G.length (fmV G)
 low : S < L ∧ L ≤ wr.heap.size
 below : Below S W0 wr
theorem Fo.later {S L : Nat} {v : Int} {u : Value} {G : List Fm} {W0 wr w' : World} (h : Fo S L v u G W0 wr) (hb : Below wr.heap.size wr w') : Fo S L v u G W0 w' :=
 ⟨h.box.later hb, ownsRow_later h.row hb, ⟨h.low.1, Nat.le_trans h.low.2 hb.size⟩, h.below.trans (hb.mono (by have := h.low; omega))⟩
theorem Fo.push {S L : Nat} {v : Int} {u q : Value} {G : List Fm} {p : Fm} {W0 wr w2 : World} (h : Fo S L v u G W0 wr) (ho : w2.ownsRow L 58 2 q (G.length + 1) (fmV (G ++ [p]))) (hg : wr.grownBy w2 u.ownBlock) : Fo S L v q (G ++ [p]) W0 (w2.setCell ⟨S, 1, none⟩ q) := by
 have hl := h.low
 have hne : ∀ k, u.ownBlock = some k → k ≠ S := fun k hk => by have := World.ownsRow.lt h.row k hk; omega
 have hbx : Block w2 S 24 [.int .i64 v, u] := (hg.block S h.box.lt (fun e => hne S e.symm rfl)).trans h.box
 have hb2 : Below S W0 w2 := h.below.grown hg (by omega) (fun k hk => by have := World.ownsRow.lt h.row k hk; omega)
 refine ⟨?_, ?_, ⟨hl.1, ?_⟩, ?_⟩
 ·have := hbx.setCell 1 q; simpa using this
 ·have := own_past' (o := 1) (v := q) ho hl.1; simpa using this
 ·have := hg.size; simp; omega
 ·exact below_setCells hb2 (Nat.le_refl _) 1 [q]
theorem exec_push_run {w : World} {u : Value} {B n g : Nat} {L : List Fm} {p : Fm} (hown : w.ownsRow B 58 2 u n (fmV L)) (hb : Block w g 58 (fmC p)) (hn : n ≤ 1000) (hB : B ≤ w.heap.size) :
  ∃ q w', (∀ (o : Oper) (a : Act) (x y : Operand), o.op = .call { callee := .builtin .append, args := #[x, y], argTypes := #[22, 22] } → o.type = 22 → a.eval x = u → a.eval y = .slice (some ⟨g, 0, none⟩) 1 1 → (execOp a.eval o).run Tryz.prog w = .ok (.value q) w') ∧ w'.ownsRow B 58 2 q (n + 1) (fmV (L ++ [p])) ∧ w.grownBy w' u.ownBlock := by
 obtain ⟨i0, hi, hz0, hz1, hz2⟩ := fm_info_parts
 obtain ⟨q, w', h2, h3, h4, _, _⟩ := run_append_own_at w B 22 22 58 i0 _ 2 32 Tryz.underlying22 hi hz0 hz1 hz2 (by simp [Value.cells]) (by omega) u n (fmV L) hown ⟨g, 0, none⟩ 1 1 (fmC p) (by simp [fmC])
  (fun j v hj => by rw [Addr.add_lit, Nat.zero_add]; exact (hb.cell j).trans hj) (by intro v hv; simp [fmC] at hv; rcases hv with rfl | rfl <;> rfl) (by unfold maxLen; omega) (by omega) hB
 refine ⟨q, w', fun o a x y ho hty hx hy => ?_, by rw [fmV_append]; simpa [fmV] using h3, h4⟩
 unfold execOp
 simp [ho, hty, resolve, invoke, builtin, hx, hy, h2, Result.andThen]
def FormsAs (v : Int) (P : List schema.Form) (w : World) (e : Ending) (w' : World) : Prop := ∃ y yc G, e = .returned (zS v y (List.length (α := Fm) G) yc) ∧ FmL w' y G ∧ forms G = P ∧ (∀ z, y = some z → w.heap.size ≤ z.block) ∧ Below w.heap.size w w'
set_option maxRecDepth 20000 in
set_option maxHeartbeats 3200000 in
theorem refForms_any (v : Int) (a : Option Addr) (cap : Nat) (F : List Fm) (x : Int) (fa : Option Addr) (fc : Nat) (l : List field.Fd) (w : World) (h : FmL w a F) (hF : F.length ≤ 40) (hp : (⟨x, fa, fc, l⟩ : Fm).Ok w) :
  Calls Tryz.prog 48 #[zS v a F.length cap, zS x fa l.length fc] w (FormsAs v (formsR (forms F) x l) w) := by
 obtain ⟨i0, hi0, hz0, hz1, hz2⟩ := fm_info_parts
 have hml : (F.length : Int) ≤ 40 := by omega
 have hll : (l.length : Int) ≤ 9223372036854775807 := by have h1 := hp.cf; have h2 := hp.df; unfold maxLen at h2; simp only at h1 h2; omega
 obtain ⟨W0, hW0⟩ : ∃ W, W = ((w.alloc (.cells (zS v a F.length cap) 24)).alloc (.cells (zS x fa l.length fc) 58)).alloc (.cells #[.int .i64 0, .slice none 0 0] 24) := ⟨_, rfl⟩
 have hs0 : W0.heap.size = w.heap.size + 1 + 1 + 1 := by rw [hW0]; simp
 have hw : Below w.heap.size w W0 := by
  rw [hW0]
  have h1 := newB w (.cells (zS v a F.length cap) 24)
  have h2 := h1.alloc h1.size (.cells (zS x fa l.length fc) 58)
  exact h2.alloc h2.size _
 have hA : Block W0 w.heap.size 24 (zS v a F.length cap) := by rw [hW0]; exact ((Block.new w _ _).alloc _).alloc _
 have hU : Block W0 (w.heap.size + 1) 58 (zS x fa l.length fc) := by
  rw [hW0]
  have := (Block.new ((w.alloc (.cells (zS v a F.length cap) 24))) 58 (zS x fa l.length fc)).alloc (.cells #[.int .i64 0, .slice none 0 0] 24)
  simpa using this
 have hR0 : Block W0 (w.heap.size + 1 + 1) 24 [.int .i64 0, .slice none 0 0] := by
  rw [hW0]
  have := Block.new ((w.alloc (.cells (zS v a F.length cap) 24)).alloc (.cells (zS x fa l.length fc) 58)) 24 [.int .i64 0, .slice none 0 0]
  simpa using this
 have HX : Hid (∀ w', Below (w.heap.size + 1 + 1 + 1) W0 w' → Block w' w.heap.size 24 (zS v a F.length cap) ∧ Block w' (w.heap.size + 1) 58 (zS x fa l.length fc) ∧ Block w' (w.heap.size + 1 + 1) 24 [.int .i64 0, .slice none 0 0] ∧ Below w.heap.size w w') := hid (fun w' hb => by
  rw [← hs0] at hb
  exact ⟨hA.later hb, hU.later hb, hR0.later hb, hw.trans (hb.mono hw.size)⟩)
 have hF1 : Fo (w.heap.size + 1 + 1 + 1) (w.heap.size + 1 + 1 + 1 + 1) v (.slice none 0 0) [] W0 (W0.alloc (.cells (zS v none 0 0) 24)) := by
  refine ⟨?_, World.ownsRow_nil _ _ _ _, ⟨by omega, by simp; omega⟩, ?_⟩
  ·have := Block.new W0 24 (zS v none 0 0)
   rwa [hs0] at this
  ·have := newB W0 (.cells (zS v none 0 0) 24)
   rwa [hs0] at this
 have HF := hid h
 have HPO := hid hp
 have HF40 := hid hF
 obtain ⟨D, hD⟩ : ∃ D, Hid (decide (l = []) = D) := ⟨_, rfl⟩
 have hd : ((l.length : Int) == 0) = D := by
  rw [← hD.out]
  cases l with
  | nil => rfl
  | cons f r => rw [decide_eq_false (by simp), beq_eq_false_iff_ne]; simp; omega
 have HQ0 : Hid (forms ([] : List Fm) ++ go x l ((forms F).drop 0) D = formsR (forms F) x l) := hid (by rw [← hD.out]; rfl)
 obtain ⟨W1, hW1⟩ : ∃ W1, Hid (W1 = W0.alloc (.cells (zS v none 0 0) 24)) := ⟨_, hid rfl⟩
 rw [← hW1.out] at hF1
 have HW0 := hid hW0
 have HF1 := hid hF1
 clear h hp hF hs0 hw hA hU hR0 hF1 hW0
 unfold FormsAs
 go_enter Tryz.func48, Tryz.ntmps48
 go_wp2
 rw [← HW0.out, ← hW1.out]
 have HMK : Hid (l.length ≤ 9223372036854775807) := hid (by omega)
 go_loopw [6, 7] (fun d n wr => ∃ (k : Nat) (dd : Bool) (ua : Option Addr) (uc : Nat) (G : List Fm), k ≤ F.length ∧ d = .bool dd ∧ n = .int .i64 (k : Int) ∧ Hid (Fo (w.heap.size + 1 + 1 + 1) (w.heap.size + 1 + 1 + 1 + 1) v (.slice ua G.length uc) G W0 wr) ∧ Hid (∀ p ∈ G, p.Ok w) ∧ Hid (forms G ++ go x l ((forms F).drop k) dd = formsR (forms F) x l) ∧ Hid (G.length ≤ 2 * k)) (fun _ n _ => F.length - (intOf n).toNat)
 case atStart => exact ⟨0, D, none, 0, [], Nat.zero_le _, rfl, rfl, HF1, hid (fun p hp => by cases hp), HQ0, hid (Nat.zero_le _)⟩
 case round =>
  obtain ⟨k, dd, ua, uc, G, hk, rfl, rfl, HO, HG, HQ, HL⟩ := hrel
  obtain ⟨k0, k1, k2, kb⟩ := HX.out _ HO.out.below
  have z1 := k0.cell 1
  have hk40 := HF40.out
  by_cases hlt : k < F.length
  ·obtain ⟨b, off, p, rfl, hbl, hp, c0, c1, _, _⟩ := form_at HF.out (Below.refl _ _) hlt
   have i1 : (k : Int) < F.length := by omega
   have hpO : p.Ok w := HF.out.2 p (List.mem_of_getElem? hp)
   have HPK := hid hpO
   have HZ : Hid (∀ w', Below (w.heap.size + 1 + 1 + 1) W0 w' → w'.cell? ⟨w.heap.size, 1, none⟩ = some (.slice (some ⟨b, off, none⟩) F.length cap) ∧ w'.cell? ⟨w.heap.size + 1, 0, none⟩ = some (.int .i64 x) ∧ w'.cell? ⟨b, off + k * 2, none⟩ = some (.int .i64 p.id)) := hid (fun w' hb => by
    obtain ⟨q0, q1, _, qb⟩ := HX.out _ hb
    exact ⟨q0.cell 1, q1.cell 0, (qb.cell (p := ⟨b, off + k * 2, none⟩) hbl).trans c0⟩)
   have HR : Hid (∀ w', Below (w.heap.size + 1 + 1 + 1) W0 w' → w'.rangeAt b (off + k * 2) (zS p.id p.f p.fL.length p.fCap)) := hid (fun w' hb => range_later (range2 c0 c1) (HX.out _ hb).2.2.2 hbl)
   have hcons : (forms F).drop k = p.p :: (forms F).drop (k + 1) := by
    have := forms_at hp
    rw [List.drop_eq_getElem_cons (List.getElem?_eq_some_iff.1 this).1, (List.getElem?_eq_some_iff.1 this).2]
   have hQ := HQ.out
   rw [hcons] at hQ
   unfold go at hQ
   simp only [show p.p.1 = p.id from rfl] at hQ
   clear hcons hp hpO c0 c1 hbl k0 k1 k2 kb HQ
   by_cases hpx : p.id = x
   ·have HNE : Hid ((p.id != x) = false) := hid (by simp [hpx])
    have HGE : Hid (decide (p.id ≥ x) = true) := hid (by simp [hpx])
    cases dd
    ·have HN : Hid (forms (G ++ [⟨x, fa, fc, l⟩]) ++ go x l ((forms F).drop (k + 1)) true = formsR (forms F) x l) := hid (by rw [← hQ]; simp [hpx, forms, Fm.p])
     clear hQ hpx
     go_wp2
     replace HO := hid (HO.out.later (w' := wr.drew) (below_drewN (Below.refl _ _) 1))
     have hb := HO.out.below
     have hz := Nat.le_trans (Nat.le_of_lt HO.out.low.1) HO.out.low.2
     refine plan.region (by kernel_rfl) ?_
     refine plan.Rest.first 0 _ (.bool false) rfl (fun w' hb' => (by kernel_rfl)) ?_
     refine plan.Rest.first 1 _ (.bool true) rfl (fun w' hb' => (by kernel_rfl)) ?_
     refine plan.Rest.first 2 _ (.bool true) rfl (fun w' hb' => (by kernel_rfl)) ?_
     refine plan.Rest.first 3 _ (.pointer (some ⟨w.heap.size, 1, none⟩)) rfl (fun w' hb' => (by kernel_rfl)) ?_
     refine plan.Rest.first 4 _ (.slice (some ⟨b, off, none⟩) F.length cap) rfl (fun w' hb' => exec_cell_slice (ad := ⟨w.heap.size, 1, none⟩) rfl (HZ.out _ (hb.trans (hb'.mono hz))).1 Tryz.isAgg22) ?_
     refine plan.Rest.first 5 _ (.int .i64 (k : Int)) rfl (fun w' hb' => (by kernel_rfl)) ?_
     refine plan.Rest.first 6 _ (.pointer (some ⟨b, off + k * 2, none⟩)) rfl (fun w' hb' => (exec_indexM' (b := b) (off := off) (len := F.length) (cap := cap) (i := k) rfl hlt)) ?_
     refine plan.Rest.first 7 _ (.pointer (some ⟨b, off + k * 2, none⟩)) rfl (fun w' hb' => (by kernel_rfl)) ?_
     refine plan.Rest.first 8 _ (.int .i64 p.id) rfl (fun w' hb' => exec_cell_int (ad := ⟨b, off + k * 2, none⟩) rfl (by kernel_rfl) (HZ.out _ (hb.trans (hb'.mono hz))).2.2 Tryz.isAgg3) ?_
     refine plan.Rest.first 9 _ (.pointer (some ⟨w.heap.size + 1, 0, none⟩)) rfl (fun w' hb' => (by kernel_rfl)) ?_
     refine plan.Rest.first 10 _ (.int .i64 x) rfl (fun w' hb' => exec_cell_int (ad := ⟨w.heap.size + 1, 0, none⟩) rfl (by kernel_rfl) (HZ.out _ (hb.trans (hb'.mono hz))).2.1 Tryz.isAgg3) ?_
     refine plan.Rest.first 11 _ (.bool true) rfl (fun w' hb' => (exec_geq_int (n := p.id) (m := x) rfl HGE)) ?_
     refine plan.Rest.first 12 _ (.bool true) rfl (fun w' hb' => (by kernel_rfl)) ?_
     refine plan.Rest.done ?_
     walk_nrm
     clear hb hz
     generalize wr.drew = wrd at *
     obtain ⟨q0, q1, _, _⟩ := HX.out _ HO.out.below
     have y0 := q1.cell 0
     have y1 := q1.cell 1
     have x1 := HO.out.box.cell 1
     have HA := hid (HO.out.later (newB wrd (.cells (zS x fa l.length fc) 58)))
     have HNW := hid (Block.new wrd 58 (zS x fa l.length fc))
     have HLM : Hid (G.length + 1 ≤ maxLen) := hid (by have := HL.out; unfold maxLen; omega)
     have HLB : Hid ((G.length + 1) * 32 ≤ 140737488355328) := hid (by have := HL.out; omega)
     clear q0 q1
     go_wp2_with (at_builtin; refine wpList_append_fromN rfl _ _ 22 rfl (w.heap.size + 1 + 1 + 1 + 1) 58 i0 _ 2 32 Tryz.underlying22 hi0 hz0 hz1 hz2 (by simp [Value.cells]) (by omega) (.slice ua G.length uc) G.length (fmV G) rfl HA.out.row (some ⟨wrd.heap.size, 0, none⟩) 1 1 (fmC ⟨x, fa, fc, l⟩) rfl rfl (.inr ⟨_, rfl, fun j u hj => by rw [Addr.add_lit, Nat.zero_add]; exact (HNW.out.cell j).trans hj⟩) (by intro u hu; simp [fmC] at hu; rcases hu with rfl | rfl <;> rfl) HLM.out HLB.out HA.out.low.2 ?_)
     intro v2 w2 ho hg
     obtain ⟨ra, rc, rfl, _⟩ := ownsRow_slice ho
     have HP := HA.out.push (p := ⟨x, fa, fc, l⟩) (by rw [fmV_append]; simpa [fmV] using ho) hg
     have hbx : Block w2 (w.heap.size + 1 + 1 + 1) 24 (zS v ua G.length uc) := (hg.block _ HA.out.box.lt (fun e => by have := World.ownsRow.lt HA.out.row _ e.symm; have := HA.out.low; omega)).trans HA.out.box
     have hb2 : Below (w.heap.size + 1 + 1 + 1) W0 w2 := HA.out.below.grown hg (by have := HA.out.low; omega) (fun j hj => by have := World.ownsRow.lt HA.out.row j hj; omega)
     have x0 := hbx.cell 0
     have x1 := hbx.cell 1
     have f1 := hbx.frozen 1
     obtain ⟨_, _, q2, _⟩ := HX.out _ hb2
     have r0 := q2.cell 0
     have r1 := q2.cell 1
     have rf0 := q2.frozen 0
     have rf1 := q2.frozen 1
     replace HL : Hid ((G ++ [(⟨x, fa, fc, l⟩ : Fm)]).length ≤ 2 * k + 1) := hid (by have := HL.out; simp; omega)
     replace HG : Hid (∀ r ∈ G ++ [(⟨x, fa, fc, l⟩ : Fm)], r.Ok w) := hid (fun r hr => by rcases List.mem_append.1 hr with h | h; exact HG.out r h; rw [List.mem_singleton.1 h]; exact HPO.out)
     replace HO := hid HP
     clear HP ho hg hbx hb2 HA HNW HLM HLB y0 y1 q2
     go_wp2
     obtain ⟨w5, hw5⟩ : ∃ w5, Hid (w2.setCell ⟨w.heap.size + 1 + 1 + 1, 1, none⟩ (.slice ra (G.length + 1) rc) = w5) := ⟨_, rfl⟩
     rw [hw5.out] at HO ⊢
     obtain ⟨G1, hG1⟩ : ∃ G1, Hid (G ++ [(⟨x, fa, fc, l⟩ : Fm)] = G1) := ⟨_, rfl⟩
     rw [hG1.out] at HO HG HL HN
     have hlen : G.length + 1 = G1.length := by rw [← hG1.out]; simp
     rw [hlen] at HO
     clear hlen x0 x1 f1 r0 r1 rf0 rf1
     replace HO := hid (HO.out.later (w' := w5.drew) (below_drewN (Below.refl _ _) 1))
     have hb := HO.out.below
     have hz := Nat.le_trans (Nat.le_of_lt HO.out.low.1) HO.out.low.2
     refine plan.region (by kernel_rfl) ?_
     refine plan.Rest.first 0 _ (.pointer (some ⟨w.heap.size, 1, none⟩)) rfl (fun w' hb' => (by kernel_rfl)) ?_
     refine plan.Rest.first 1 _ (.slice (some ⟨b, off, none⟩) F.length cap) rfl (fun w' hb' => exec_cell_slice (ad := ⟨w.heap.size, 1, none⟩) rfl (HZ.out _ (hb.trans (hb'.mono hz))).1 Tryz.isAgg22) ?_
     refine plan.Rest.first 2 _ (.int .i64 (k : Int)) rfl (fun w' hb' => (by kernel_rfl)) ?_
     refine plan.Rest.first 3 _ (.pointer (some ⟨b, off + k * 2, none⟩)) rfl (fun w' hb' => (exec_indexM' (b := b) (off := off) (len := F.length) (cap := cap) (i := k) rfl hlt)) ?_
     refine plan.Rest.first 4 _ (.pointer (some ⟨b, off + k * 2, none⟩)) rfl (fun w' hb' => (by kernel_rfl)) ?_
     refine plan.Rest.first 5 _ (.int .i64 p.id) rfl (fun w' hb' => exec_cell_int (ad := ⟨b, off + k * 2, none⟩) rfl (by kernel_rfl) (HZ.out _ (hb.trans (hb'.mono hz))).2.2 Tryz.isAgg3) ?_
     refine plan.Rest.first 6 _ (.pointer (some ⟨w.heap.size + 1, 0, none⟩)) rfl (fun w' hb' => (by kernel_rfl)) ?_
     refine plan.Rest.first 7 _ (.int .i64 x) rfl (fun w' hb' => exec_cell_int (ad := ⟨w.heap.size + 1, 0, none⟩) rfl (by kernel_rfl) (HZ.out _ (hb.trans (hb'.mono hz))).2.1 Tryz.isAgg3) ?_
     refine plan.Rest.first 8 _ (.bool false) rfl (fun w' hb' => (exec_neq_int (n := p.id) (m := x) rfl HNE)) ?_
     refine plan.Rest.done ?_
     walk_nrm
     clear hb hz
     generalize w5.drew = w5d at *
     go_wp2
     exact ⟨⟨k + 1, true, ra, rc, G1, by omega, rfl, by go_num, hid (by exact HO.out), hid HG.out, HN, hid (by have := HL.out; simp; omega)⟩, by simp [intOf]; omega⟩
    ·have HN : Hid (forms G ++ go x l ((forms F).drop (k + 1)) true = formsR (forms F) x l) := hid (by rw [← hQ]; simp [hpx])
     clear hQ hpx
     go_wp2
     replace HO := hid (HO.out.later (w' := wr.drew) (below_drewN (Below.refl _ _) 1))
     have hb := HO.out.below
     have hz := Nat.le_trans (Nat.le_of_lt HO.out.low.1) HO.out.low.2
     refine plan.region (by kernel_rfl) ?_
     refine plan.Rest.first 0 _ (.bool true) rfl (fun w' hb' => (by kernel_rfl)) ?_
     refine plan.Rest.first 1 _ (.bool false) rfl (fun w' hb' => (by kernel_rfl)) ?_
     refine plan.Rest.first 2 _ (.bool false) rfl (fun w' hb' => (by kernel_rfl)) ?_
     refine plan.Rest.skip 3 _ rfl ?_
     refine plan.Rest.skip 4 _ rfl ?_
     refine plan.Rest.skip 5 _ rfl ?_
     refine plan.Rest.skip 6 _ rfl ?_
     refine plan.Rest.skip 7 _ rfl ?_
     refine plan.Rest.skip 8 _ rfl ?_
     refine plan.Rest.skip 9 _ rfl ?_
     refine plan.Rest.skip 10 _ rfl ?_
     refine plan.Rest.skip 11 _ rfl ?_
     refine plan.Rest.first 12 _ (.bool false) rfl (fun w' hb' => (by kernel_rfl)) ?_
     refine plan.Rest.done ?_
     walk_nrm
     clear hb hz
     generalize wr.drew = wrd at *
     go_wp2
     replace HO := hid (HO.out.later (w' := wrd.drew) (below_drewN (Below.refl _ _) 1))
     have hb := HO.out.below
     have hz := Nat.le_trans (Nat.le_of_lt HO.out.low.1) HO.out.low.2
     refine plan.region (by kernel_rfl) ?_
     refine plan.Rest.first 0 _ (.pointer (some ⟨w.heap.size, 1, none⟩)) rfl (fun w' hb' => (by kernel_rfl)) ?_
     refine plan.Rest.first 1 _ (.slice (some ⟨b, off, none⟩) F.length cap) rfl (fun w' hb' => exec_cell_slice (ad := ⟨w.heap.size, 1, none⟩) rfl (HZ.out _ (hb.trans (hb'.mono hz))).1 Tryz.isAgg22) ?_
     refine plan.Rest.first 2 _ (.int .i64 (k : Int)) rfl (fun w' hb' => (by kernel_rfl)) ?_
     refine plan.Rest.first 3 _ (.pointer (some ⟨b, off + k * 2, none⟩)) rfl (fun w' hb' => (exec_indexM' (b := b) (off := off) (len := F.length) (cap := cap) (i := k) rfl hlt)) ?_
     refine plan.Rest.first 4 _ (.pointer (some ⟨b, off + k * 2, none⟩)) rfl (fun w' hb' => (by kernel_rfl)) ?_
     refine plan.Rest.first 5 _ (.int .i64 p.id) rfl (fun w' hb' => exec_cell_int (ad := ⟨b, off + k * 2, none⟩) rfl (by kernel_rfl) (HZ.out _ (hb.trans (hb'.mono hz))).2.2 Tryz.isAgg3) ?_
     refine plan.Rest.first 6 _ (.pointer (some ⟨w.heap.size + 1, 0, none⟩)) rfl (fun w' hb' => (by kernel_rfl)) ?_
     refine plan.Rest.first 7 _ (.int .i64 x) rfl (fun w' hb' => exec_cell_int (ad := ⟨w.heap.size + 1, 0, none⟩) rfl (by kernel_rfl) (HZ.out _ (hb.trans (hb'.mono hz))).2.1 Tryz.isAgg3) ?_
     refine plan.Rest.first 8 _ (.bool false) rfl (fun w' hb' => (exec_neq_int (n := p.id) (m := x) rfl HNE)) ?_
     refine plan.Rest.done ?_
     walk_nrm
     clear hb hz
     generalize wrd.drew = wrdd at *
     go_wp2
     exact ⟨⟨k + 1, true, ua, uc, G, by omega, rfl, by go_num, hid (by exact HO.out), hid HG.out, HN, hid (by have := HL.out; simp; omega)⟩, by simp [intOf]; omega⟩
   ·have HNE : Hid ((p.id != x) = true) := hid (by simpa using hpx)
    cases dd
    ·by_cases hge : x ≤ p.id
     ·have HGE : Hid (decide (p.id ≥ x) = true) := hid (by simpa using hge)
      have HN : Hid (forms ((G ++ [⟨x, fa, fc, l⟩]) ++ [p]) ++ go x l ((forms F).drop (k + 1)) true = formsR (forms F) x l) := hid (by rw [← hQ]; simp [hpx, hge, forms, Fm.p])
      clear hQ hpx hge
      go_wp2
      replace HO := hid (HO.out.later (w' := wr.drew) (below_drewN (Below.refl _ _) 1))
      have hb := HO.out.below
      have hz := Nat.le_trans (Nat.le_of_lt HO.out.low.1) HO.out.low.2
      refine plan.region (by kernel_rfl) ?_
      refine plan.Rest.first 0 _ (.bool false) rfl (fun w' hb' => (by kernel_rfl)) ?_
      refine plan.Rest.first 1 _ (.bool true) rfl (fun w' hb' => (by kernel_rfl)) ?_
      refine plan.Rest.first 2 _ (.bool true) rfl (fun w' hb' => (by kernel_rfl)) ?_
      refine plan.Rest.first 3 _ (.pointer (some ⟨w.heap.size, 1, none⟩)) rfl (fun w' hb' => (by kernel_rfl)) ?_
      refine plan.Rest.first 4 _ (.slice (some ⟨b, off, none⟩) F.length cap) rfl (fun w' hb' => exec_cell_slice (ad := ⟨w.heap.size, 1, none⟩) rfl (HZ.out _ (hb.trans (hb'.mono hz))).1 Tryz.isAgg22) ?_
      refine plan.Rest.first 5 _ (.int .i64 (k : Int)) rfl (fun w' hb' => (by kernel_rfl)) ?_
      refine plan.Rest.first 6 _ (.pointer (some ⟨b, off + k * 2, none⟩)) rfl (fun w' hb' => (exec_indexM' (b := b) (off := off) (len := F.length) (cap := cap) (i := k) rfl hlt)) ?_
      refine plan.Rest.first 7 _ (.pointer (some ⟨b, off + k * 2, none⟩)) rfl (fun w' hb' => (by kernel_rfl)) ?_
      refine plan.Rest.first 8 _ (.int .i64 p.id) rfl (fun w' hb' => exec_cell_int (ad := ⟨b, off + k * 2, none⟩) rfl (by kernel_rfl) (HZ.out _ (hb.trans (hb'.mono hz))).2.2 Tryz.isAgg3) ?_
      refine plan.Rest.first 9 _ (.pointer (some ⟨w.heap.size + 1, 0, none⟩)) rfl (fun w' hb' => (by kernel_rfl)) ?_
      refine plan.Rest.first 10 _ (.int .i64 x) rfl (fun w' hb' => exec_cell_int (ad := ⟨w.heap.size + 1, 0, none⟩) rfl (by kernel_rfl) (HZ.out _ (hb.trans (hb'.mono hz))).2.1 Tryz.isAgg3) ?_
      refine plan.Rest.first 11 _ (.bool true) rfl (fun w' hb' => (exec_geq_int (n := p.id) (m := x) rfl HGE)) ?_
      refine plan.Rest.first 12 _ (.bool true) rfl (fun w' hb' => (by kernel_rfl)) ?_
      refine plan.Rest.done ?_
      walk_nrm
      clear hb hz
      generalize wr.drew = wrd at *
      obtain ⟨q0, q1, _, _⟩ := HX.out _ HO.out.below
      have y0 := q1.cell 0
      have y1 := q1.cell 1
      have x1 := HO.out.box.cell 1
      have HA := hid (HO.out.later (newB wrd (.cells (zS x fa l.length fc) 58)))
      have HNW := hid (Block.new wrd 58 (zS x fa l.length fc))
      have HLM : Hid (G.length + 1 ≤ maxLen) := hid (by have := HL.out; unfold maxLen; omega)
      have HLB : Hid ((G.length + 1) * 32 ≤ 140737488355328) := hid (by have := HL.out; omega)
      clear q0 q1
      go_wp2_with (at_builtin; refine wpList_append_fromN rfl _ _ 22 rfl (w.heap.size + 1 + 1 + 1 + 1) 58 i0 _ 2 32 Tryz.underlying22 hi0 hz0 hz1 hz2 (by simp [Value.cells]) (by omega) (.slice ua G.length uc) G.length (fmV G) rfl HA.out.row (some ⟨wrd.heap.size, 0, none⟩) 1 1 (fmC ⟨x, fa, fc, l⟩) rfl rfl (.inr ⟨_, rfl, fun j u hj => by rw [Addr.add_lit, Nat.zero_add]; exact (HNW.out.cell j).trans hj⟩) (by intro u hu; simp [fmC] at hu; rcases hu with rfl | rfl <;> rfl) HLM.out HLB.out HA.out.low.2 ?_)
      intro v2 w2 ho hg
      obtain ⟨ra, rc, rfl, _⟩ := ownsRow_slice ho
      have HP := HA.out.push (p := ⟨x, fa, fc, l⟩) (by rw [fmV_append]; simpa [fmV] using ho) hg
      have hbx : Block w2 (w.heap.size + 1 + 1 + 1) 24 (zS v ua G.length uc) := (hg.block _ HA.out.box.lt (fun e => by have := World.ownsRow.lt HA.out.row _ e.symm; have := HA.out.low; omega)).trans HA.out.box
      have hb2 : Below (w.heap.size + 1 + 1 + 1) W0 w2 := HA.out.below.grown hg (by have := HA.out.low; omega) (fun j hj => by have := World.ownsRow.lt HA.out.row j hj; omega)
      have x0 := hbx.cell 0
      have x1 := hbx.cell 1
      have f1 := hbx.frozen 1
      obtain ⟨_, _, q2, _⟩ := HX.out _ hb2
      have r0 := q2.cell 0
      have r1 := q2.cell 1
      have rf0 := q2.frozen 0
      have rf1 := q2.frozen 1
      replace HL : Hid ((G ++ [(⟨x, fa, fc, l⟩ : Fm)]).length ≤ 2 * k + 1) := hid (by have := HL.out; simp; omega)
      replace HG : Hid (∀ r ∈ G ++ [(⟨x, fa, fc, l⟩ : Fm)], r.Ok w) := hid (fun r hr => by rcases List.mem_append.1 hr with h | h; exact HG.out r h; rw [List.mem_singleton.1 h]; exact HPO.out)
      replace HO := hid HP
      clear HP ho hg hbx hb2 HA HNW HLM HLB y0 y1 q2
      go_wp2
      obtain ⟨w5, hw5⟩ : ∃ w5, Hid (w2.setCell ⟨w.heap.size + 1 + 1 + 1, 1, none⟩ (.slice ra (G.length + 1) rc) = w5) := ⟨_, rfl⟩
      rw [hw5.out] at HO ⊢
      obtain ⟨G1, hG1⟩ : ∃ G1, Hid (G ++ [(⟨x, fa, fc, l⟩ : Fm)] = G1) := ⟨_, rfl⟩
      rw [hG1.out] at HO HG HL HN
      have hlen : G.length + 1 = G1.length := by rw [← hG1.out]; simp
      rw [hlen] at HO
      clear hlen x0 x1 f1 r0 r1 rf0 rf1
      replace HO := hid (HO.out.later (w' := w5.drew) (below_drewN (Below.refl _ _) 1))
      have hb := HO.out.below
      have hz := Nat.le_trans (Nat.le_of_lt HO.out.low.1) HO.out.low.2
      refine plan.region (by kernel_rfl) ?_
      refine plan.Rest.first 0 _ (.pointer (some ⟨w.heap.size, 1, none⟩)) rfl (fun w' hb' => (by kernel_rfl)) ?_
      refine plan.Rest.first 1 _ (.slice (some ⟨b, off, none⟩) F.length cap) rfl (fun w' hb' => exec_cell_slice (ad := ⟨w.heap.size, 1, none⟩) rfl (HZ.out _ (hb.trans (hb'.mono hz))).1 Tryz.isAgg22) ?_
      refine plan.Rest.first 2 _ (.int .i64 (k : Int)) rfl (fun w' hb' => (by kernel_rfl)) ?_
      refine plan.Rest.first 3 _ (.pointer (some ⟨b, off + k * 2, none⟩)) rfl (fun w' hb' => (exec_indexM' (b := b) (off := off) (len := F.length) (cap := cap) (i := k) rfl hlt)) ?_
      refine plan.Rest.first 4 _ (.pointer (some ⟨b, off + k * 2, none⟩)) rfl (fun w' hb' => (by kernel_rfl)) ?_
      refine plan.Rest.first 5 _ (.int .i64 p.id) rfl (fun w' hb' => exec_cell_int (ad := ⟨b, off + k * 2, none⟩) rfl (by kernel_rfl) (HZ.out _ (hb.trans (hb'.mono hz))).2.2 Tryz.isAgg3) ?_
      refine plan.Rest.first 6 _ (.pointer (some ⟨w.heap.size + 1, 0, none⟩)) rfl (fun w' hb' => (by kernel_rfl)) ?_
      refine plan.Rest.first 7 _ (.int .i64 x) rfl (fun w' hb' => exec_cell_int (ad := ⟨w.heap.size + 1, 0, none⟩) rfl (by kernel_rfl) (HZ.out _ (hb.trans (hb'.mono hz))).2.1 Tryz.isAgg3) ?_
      refine plan.Rest.first 8 _ (.bool true) rfl (fun w' hb' => (exec_neq_int (n := p.id) (m := x) rfl HNE)) ?_
      refine plan.Rest.done ?_
      walk_nrm
      clear hb hz
      generalize w5.drew = w5d at *
      go_wp2
      replace HO := hid (HO.out.later (w' := w5d.drew) (below_drewN (Below.refl _ _) 1))
      have hb := HO.out.below
      refine plan.regionS (S := fun w' => Below (w.heap.size + 1 + 1 + 1) W0 w') ?_
      generalize w5d.drew = w5de at *
      have HA := HO.out.later (newB w5de (.cells (zS p.id p.f p.fL.length p.fCap) 58))
      have hu := exec_push_run HA.row (p := p) (g := w5de.heap.size) (Block.new w5de _ _) (by have := HL.out; omega) HA.low.2
      obtain ⟨q, w3, hq, hq2, hq3⟩ := hu
      obtain ⟨qa, qc, rfl, _⟩ := ownsRow_slice hq2
      have HP := HA.push hq2 hq3
      have hb3 : Below (w.heap.size + 1 + 1 + 1) W0 w3 := HA.below.grown hq3 (by have := HA.low; omega) (fun j hj => by have := World.ownsRow.lt HA.row j hj; omega)
      have hbx : Block w3 (w.heap.size + 1 + 1 + 1) 24 (zS v ra G1.length rc) := (hq3.block _ HA.box.lt (fun e => by have := World.ownsRow.lt HA.row _ e.symm; omega)).trans HA.box
      obtain ⟨w5, hw5⟩ : ∃ w5, Hid (w3.setCell ⟨w.heap.size + 1 + 1 + 1, 1, none⟩ (.slice qa (G1.length + 1) qc) = w5) := ⟨_, rfl⟩
      have hrun := fun (o : Oper) (act : Act) (q1 : o.op = .store 22 (.tmp 59) (.tmp 58)) (q2 : act.eval (.tmp 59) = .pointer (some ⟨w.heap.size + 1 + 1 + 1, 1, none⟩)) (q3 : act.eval (.tmp 58) = .slice qa (G1.length + 1) qc) => exec_put_fm' (o := o) (a := act) q1 q2 q3 (hbx.cell 1) (hbx.frozen 1)
      rw [hw5.out] at hrun HP
      refine plan.firstS 0 _ (.pointer (some ⟨w.heap.size + 1 + 1 + 1, 1, none⟩)) rfl (fun w' hb' => (by kernel_rfl)) hb ?_
      refine plan.firstS 2 _ (.pointer (some ⟨w.heap.size, 1, none⟩)) rfl (fun w' hb' => (by kernel_rfl)) hb ?_
      refine plan.firstS 3 _ (.slice (some ⟨b, off, none⟩) F.length cap) rfl (fun w' hb' => exec_cell_slice (ad := ⟨w.heap.size, 1, none⟩) rfl (HZ.out _ hb').1 Tryz.isAgg22) hb ?_
      refine plan.firstS 4 _ (.int .i64 (k : Int)) rfl (fun w' hb' => (by kernel_rfl)) hb ?_
      refine plan.firstS 5 _ (.pointer (some ⟨b, off + k * 2, none⟩)) rfl (fun w' hb' => (exec_indexM' (b := b) (off := off) (len := F.length) (cap := cap) (i := k) rfl hlt)) hb ?_
      refine plan.firstS 6 _ (zS p.id p.f p.fL.length p.fCap) rfl (fun w' hb' => exec_load_at (b := b) (off := off + k * 2) rfl (HR.out _ hb') Tryz.underlying58 rfl info_fm.out) hb ?_
      refine bothS 1 7 ?_ ?_
      ·refine ⟨_, rfl, rfl, .inl ⟨.slice ra G1.length rc, w5de, (exec_cell_slice (ad := ⟨w.heap.size + 1 + 1 + 1, 1, none⟩) rfl (HO.out.box.cell 1) Tryz.isAgg22), hb, ?_⟩⟩
       refine plan.oneS (w1 := w5de.alloc (.cells (zS p.id p.f p.fL.length p.fCap) 58)) 7 _ (.slice (some ⟨w5de.heap.size, 0, none⟩) 1 1) rfl rfl HA.below ?_
       refine plan.oneS (w1 := w3) 8 _ (.slice qa (G1.length + 1) qc) rfl rfl (hv := (hq _ _ _ _ rfl rfl (by kernel_rfl) (by kernel_rfl))) hb3 ?_
       refine plan.oneS (w1 := w3) 9 _ (.pointer (some ⟨w.heap.size + 1 + 1 + 1, 1, none⟩)) rfl rfl hb3 ?_
       refine plan.lastS (w1 := w5) 10 _ rfl rfl rfl (hrun _ _ rfl (by kernel_rfl) (by kernel_rfl)) HP.below ?_
       walk_nrm
       go_wp2
       exact ⟨⟨k + 1, true, qa, qc, G1 ++ [p], by omega, rfl, by go_num, hid (by have := HP; simpa using this), hid (fun r hr => by rcases List.mem_append.1 hr with h | h; exact HG.out r h; rw [List.mem_singleton.1 h]; exact HPK.out), HN, hid (by have := HL.out; simp; omega)⟩, by simp [intOf]; omega⟩
      ·refine ⟨_, rfl, rfl, .inl ⟨.slice (some ⟨w5de.heap.size, 0, none⟩) 1 1, w5de.alloc (.cells (zS p.id p.f p.fL.length p.fCap) 58), (by kernel_rfl), HA.below, ?_⟩⟩
       refine plan.oneS (w1 := w5de.alloc (.cells (zS p.id p.f p.fL.length p.fCap) 58)) 1 _ (.slice ra G1.length rc) rfl rfl (hv := (exec_cell_slice (ad := ⟨w.heap.size + 1 + 1 + 1, 1, none⟩) rfl (HA.box.cell 1) Tryz.isAgg22)) HA.below ?_
       refine plan.oneS (w1 := w3) 8 _ (.slice qa (G1.length + 1) qc) rfl rfl (hv := (hq _ _ _ _ rfl rfl (by kernel_rfl) (by kernel_rfl))) hb3 ?_
       refine plan.oneS (w1 := w3) 9 _ (.pointer (some ⟨w.heap.size + 1 + 1 + 1, 1, none⟩)) rfl rfl hb3 ?_
       refine plan.lastS (w1 := w5) 10 _ rfl rfl rfl (hrun _ _ rfl (by kernel_rfl) (by kernel_rfl)) HP.below ?_
       walk_nrm
       go_wp2
       exact ⟨⟨k + 1, true, qa, qc, G1 ++ [p], by omega, rfl, by go_num, hid (by have := HP; simpa using this), hid (fun r hr => by rcases List.mem_append.1 hr with h | h; exact HG.out r h; rw [List.mem_singleton.1 h]; exact HPK.out), HN, hid (by have := HL.out; simp; omega)⟩, by simp [intOf]; omega⟩
     ·have HGE : Hid (decide (p.id ≥ x) = false) := hid (by simpa using hge)
      have HN : Hid (forms (G ++ [p]) ++ go x l ((forms F).drop (k + 1)) false = formsR (forms F) x l) := hid (by rw [← hQ]; simp [hpx, hge, forms, Fm.p])
      clear hQ hpx hge
      go_wp2
      replace HO := hid (HO.out.later (w' := wr.drew) (below_drewN (Below.refl _ _) 1))
      have hb := HO.out.below
      have hz := Nat.le_trans (Nat.le_of_lt HO.out.low.1) HO.out.low.2
      refine plan.region (by kernel_rfl) ?_
      refine plan.Rest.first 0 _ (.bool false) rfl (fun w' hb' => (by kernel_rfl)) ?_
      refine plan.Rest.first 1 _ (.bool true) rfl (fun w' hb' => (by kernel_rfl)) ?_
      refine plan.Rest.first 2 _ (.bool true) rfl (fun w' hb' => (by kernel_rfl)) ?_
      refine plan.Rest.first 3 _ (.pointer (some ⟨w.heap.size, 1, none⟩)) rfl (fun w' hb' => (by kernel_rfl)) ?_
      refine plan.Rest.first 4 _ (.slice (some ⟨b, off, none⟩) F.length cap) rfl (fun w' hb' => exec_cell_slice (ad := ⟨w.heap.size, 1, none⟩) rfl (HZ.out _ (hb.trans (hb'.mono hz))).1 Tryz.isAgg22) ?_
      refine plan.Rest.first 5 _ (.int .i64 (k : Int)) rfl (fun w' hb' => (by kernel_rfl)) ?_
      refine plan.Rest.first 6 _ (.pointer (some ⟨b, off + k * 2, none⟩)) rfl (fun w' hb' => (exec_indexM' (b := b) (off := off) (len := F.length) (cap := cap) (i := k) rfl hlt)) ?_
      refine plan.Rest.first 7 _ (.pointer (some ⟨b, off + k * 2, none⟩)) rfl (fun w' hb' => (by kernel_rfl)) ?_
      refine plan.Rest.first 8 _ (.int .i64 p.id) rfl (fun w' hb' => exec_cell_int (ad := ⟨b, off + k * 2, none⟩) rfl (by kernel_rfl) (HZ.out _ (hb.trans (hb'.mono hz))).2.2 Tryz.isAgg3) ?_
      refine plan.Rest.first 9 _ (.pointer (some ⟨w.heap.size + 1, 0, none⟩)) rfl (fun w' hb' => (by kernel_rfl)) ?_
      refine plan.Rest.first 10 _ (.int .i64 x) rfl (fun w' hb' => exec_cell_int (ad := ⟨w.heap.size + 1, 0, none⟩) rfl (by kernel_rfl) (HZ.out _ (hb.trans (hb'.mono hz))).2.1 Tryz.isAgg3) ?_
      refine plan.Rest.first 11 _ (.bool false) rfl (fun w' hb' => (exec_geq_int (n := p.id) (m := x) rfl HGE)) ?_
      refine plan.Rest.first 12 _ (.bool false) rfl (fun w' hb' => (by kernel_rfl)) ?_
      refine plan.Rest.done ?_
      walk_nrm
      clear hb hz
      generalize wr.drew = wrd at *
      go_wp2
      replace HO := hid (HO.out.later (w' := wrd.drew) (below_drewN (Below.refl _ _) 1))
      have hb := HO.out.below
      have hz := Nat.le_trans (Nat.le_of_lt HO.out.low.1) HO.out.low.2
      refine plan.region (by kernel_rfl) ?_
      refine plan.Rest.first 0 _ (.pointer (some ⟨w.heap.size, 1, none⟩)) rfl (fun w' hb' => (by kernel_rfl)) ?_
      refine plan.Rest.first 1 _ (.slice (some ⟨b, off, none⟩) F.length cap) rfl (fun w' hb' => exec_cell_slice (ad := ⟨w.heap.size, 1, none⟩) rfl (HZ.out _ (hb.trans (hb'.mono hz))).1 Tryz.isAgg22) ?_
      refine plan.Rest.first 2 _ (.int .i64 (k : Int)) rfl (fun w' hb' => (by kernel_rfl)) ?_
      refine plan.Rest.first 3 _ (.pointer (some ⟨b, off + k * 2, none⟩)) rfl (fun w' hb' => (exec_indexM' (b := b) (off := off) (len := F.length) (cap := cap) (i := k) rfl hlt)) ?_
      refine plan.Rest.first 4 _ (.pointer (some ⟨b, off + k * 2, none⟩)) rfl (fun w' hb' => (by kernel_rfl)) ?_
      refine plan.Rest.first 5 _ (.int .i64 p.id) rfl (fun w' hb' => exec_cell_int (ad := ⟨b, off + k * 2, none⟩) rfl (by kernel_rfl) (HZ.out _ (hb.trans (hb'.mono hz))).2.2 Tryz.isAgg3) ?_
      refine plan.Rest.first 6 _ (.pointer (some ⟨w.heap.size + 1, 0, none⟩)) rfl (fun w' hb' => (by kernel_rfl)) ?_
      refine plan.Rest.first 7 _ (.int .i64 x) rfl (fun w' hb' => exec_cell_int (ad := ⟨w.heap.size + 1, 0, none⟩) rfl (by kernel_rfl) (HZ.out _ (hb.trans (hb'.mono hz))).2.1 Tryz.isAgg3) ?_
      refine plan.Rest.first 8 _ (.bool true) rfl (fun w' hb' => (exec_neq_int (n := p.id) (m := x) rfl HNE)) ?_
      refine plan.Rest.done ?_
      walk_nrm
      clear hb hz
      generalize wrd.drew = wrdd at *
      go_wp2
      replace HO := hid (HO.out.later (w' := wrdd.drew) (below_drewN (Below.refl _ _) 1))
      have hb := HO.out.below
      refine plan.regionS (S := fun w' => Below (w.heap.size + 1 + 1 + 1) W0 w') ?_
      generalize wrdd.drew = wrdde at *
      have HA := HO.out.later (newB wrdde (.cells (zS p.id p.f p.fL.length p.fCap) 58))
      have hu := exec_push_run HA.row (p := p) (g := wrdde.heap.size) (Block.new wrdde _ _) (by have := HL.out; omega) HA.low.2
      obtain ⟨q, w3, hq, hq2, hq3⟩ := hu
      obtain ⟨qa, qc, rfl, _⟩ := ownsRow_slice hq2
      have HP := HA.push hq2 hq3
      have hb3 : Below (w.heap.size + 1 + 1 + 1) W0 w3 := HA.below.grown hq3 (by have := HA.low; omega) (fun j hj => by have := World.ownsRow.lt HA.row j hj; omega)
      have hbx : Block w3 (w.heap.size + 1 + 1 + 1) 24 (zS v ua G.length uc) := (hq3.block _ HA.box.lt (fun e => by have := World.ownsRow.lt HA.row _ e.symm; omega)).trans HA.box
      obtain ⟨w5, hw5⟩ : ∃ w5, Hid (w3.setCell ⟨w.heap.size + 1 + 1 + 1, 1, none⟩ (.slice qa (G.length + 1) qc) = w5) := ⟨_, rfl⟩
      have hrun := fun (o : Oper) (act : Act) (q1 : o.op = .store 22 (.tmp 59) (.tmp 58)) (q2 : act.eval (.tmp 59) = .pointer (some ⟨w.heap.size + 1 + 1 + 1, 1, none⟩)) (q3 : act.eval (.tmp 58) = .slice qa (G.length + 1) qc) => exec_put_fm' (o := o) (a := act) q1 q2 q3 (hbx.cell 1) (hbx.frozen 1)
      rw [hw5.out] at hrun HP
      refine plan.firstS 0 _ (.pointer (some ⟨w.heap.size + 1 + 1 + 1, 1, none⟩)) rfl (fun w' hb' => (by kernel_rfl)) hb ?_
      refine plan.firstS 2 _ (.pointer (some ⟨w.heap.size, 1, none⟩)) rfl (fun w' hb' => (by kernel_rfl)) hb ?_
      refine plan.firstS 3 _ (.slice (some ⟨b, off, none⟩) F.length cap) rfl (fun w' hb' => exec_cell_slice (ad := ⟨w.heap.size, 1, none⟩) rfl (HZ.out _ hb').1 Tryz.isAgg22) hb ?_
      refine plan.firstS 4 _ (.int .i64 (k : Int)) rfl (fun w' hb' => (by kernel_rfl)) hb ?_
      refine plan.firstS 5 _ (.pointer (some ⟨b, off + k * 2, none⟩)) rfl (fun w' hb' => (exec_indexM' (b := b) (off := off) (len := F.length) (cap := cap) (i := k) rfl hlt)) hb ?_
      refine plan.firstS 6 _ (zS p.id p.f p.fL.length p.fCap) rfl (fun w' hb' => exec_load_at (b := b) (off := off + k * 2) rfl (HR.out _ hb') Tryz.underlying58 rfl info_fm.out) hb ?_
      refine bothS 1 7 ?_ ?_
      ·refine ⟨_, rfl, rfl, .inl ⟨.slice ua G.length uc, wrdde, (exec_cell_slice (ad := ⟨w.heap.size + 1 + 1 + 1, 1, none⟩) rfl (HO.out.box.cell 1) Tryz.isAgg22), hb, ?_⟩⟩
       refine plan.oneS (w1 := wrdde.alloc (.cells (zS p.id p.f p.fL.length p.fCap) 58)) 7 _ (.slice (some ⟨wrdde.heap.size, 0, none⟩) 1 1) rfl rfl HA.below ?_
       refine plan.oneS (w1 := w3) 8 _ (.slice qa (G.length + 1) qc) rfl rfl (hv := (hq _ _ _ _ rfl rfl (by kernel_rfl) (by kernel_rfl))) hb3 ?_
       refine plan.oneS (w1 := w3) 9 _ (.pointer (some ⟨w.heap.size + 1 + 1 + 1, 1, none⟩)) rfl rfl hb3 ?_
       refine plan.lastS (w1 := w5) 10 _ rfl rfl rfl (hrun _ _ rfl (by kernel_rfl) (by kernel_rfl)) HP.below ?_
       walk_nrm
       go_wp2
       exact ⟨⟨k + 1, false, qa, qc, G ++ [p], by omega, rfl, by go_num, hid (by have := HP; simpa using this), hid (fun r hr => by rcases List.mem_append.1 hr with h | h; exact HG.out r h; rw [List.mem_singleton.1 h]; exact HPK.out), HN, hid (by have := HL.out; simp; omega)⟩, by simp [intOf]; omega⟩
      ·refine ⟨_, rfl, rfl, .inl ⟨.slice (some ⟨wrdde.heap.size, 0, none⟩) 1 1, wrdde.alloc (.cells (zS p.id p.f p.fL.length p.fCap) 58), (by kernel_rfl), HA.below, ?_⟩⟩
       refine plan.oneS (w1 := wrdde.alloc (.cells (zS p.id p.f p.fL.length p.fCap) 58)) 1 _ (.slice ua G.length uc) rfl rfl (hv := (exec_cell_slice (ad := ⟨w.heap.size + 1 + 1 + 1, 1, none⟩) rfl (HA.box.cell 1) Tryz.isAgg22)) HA.below ?_
       refine plan.oneS (w1 := w3) 8 _ (.slice qa (G.length + 1) qc) rfl rfl (hv := (hq _ _ _ _ rfl rfl (by kernel_rfl) (by kernel_rfl))) hb3 ?_
       refine plan.oneS (w1 := w3) 9 _ (.pointer (some ⟨w.heap.size + 1 + 1 + 1, 1, none⟩)) rfl rfl hb3 ?_
       refine plan.lastS (w1 := w5) 10 _ rfl rfl rfl (hrun _ _ rfl (by kernel_rfl) (by kernel_rfl)) HP.below ?_
       walk_nrm
       go_wp2
       exact ⟨⟨k + 1, false, qa, qc, G ++ [p], by omega, rfl, by go_num, hid (by have := HP; simpa using this), hid (fun r hr => by rcases List.mem_append.1 hr with h | h; exact HG.out r h; rw [List.mem_singleton.1 h]; exact HPK.out), HN, hid (by have := HL.out; simp; omega)⟩, by simp [intOf]; omega⟩
    ·have HN : Hid (forms (G ++ [p]) ++ go x l ((forms F).drop (k + 1)) true = formsR (forms F) x l) := hid (by rw [← hQ]; simp [hpx, forms, Fm.p])
     clear hQ hpx
     go_wp2
     replace HO := hid (HO.out.later (w' := wr.drew) (below_drewN (Below.refl _ _) 1))
     have hb := HO.out.below
     have hz := Nat.le_trans (Nat.le_of_lt HO.out.low.1) HO.out.low.2
     refine plan.region (by kernel_rfl) ?_
     refine plan.Rest.first 0 _ (.bool true) rfl (fun w' hb' => (by kernel_rfl)) ?_
     refine plan.Rest.first 1 _ (.bool false) rfl (fun w' hb' => (by kernel_rfl)) ?_
     refine plan.Rest.first 2 _ (.bool false) rfl (fun w' hb' => (by kernel_rfl)) ?_
     refine plan.Rest.skip 3 _ rfl ?_
     refine plan.Rest.skip 4 _ rfl ?_
     refine plan.Rest.skip 5 _ rfl ?_
     refine plan.Rest.skip 6 _ rfl ?_
     refine plan.Rest.skip 7 _ rfl ?_
     refine plan.Rest.skip 8 _ rfl ?_
     refine plan.Rest.skip 9 _ rfl ?_
     refine plan.Rest.skip 10 _ rfl ?_
     refine plan.Rest.skip 11 _ rfl ?_
     refine plan.Rest.first 12 _ (.bool false) rfl (fun w' hb' => (by kernel_rfl)) ?_
     refine plan.Rest.done ?_
     walk_nrm
     clear hb hz
     generalize wr.drew = wrd at *
     go_wp2
     replace HO := hid (HO.out.later (w' := wrd.drew) (below_drewN (Below.refl _ _) 1))
     have hb := HO.out.below
     have hz := Nat.le_trans (Nat.le_of_lt HO.out.low.1) HO.out.low.2
     refine plan.region (by kernel_rfl) ?_
     refine plan.Rest.first 0 _ (.pointer (some ⟨w.heap.size, 1, none⟩)) rfl (fun w' hb' => (by kernel_rfl)) ?_
     refine plan.Rest.first 1 _ (.slice (some ⟨b, off, none⟩) F.length cap) rfl (fun w' hb' => exec_cell_slice (ad := ⟨w.heap.size, 1, none⟩) rfl (HZ.out _ (hb.trans (hb'.mono hz))).1 Tryz.isAgg22) ?_
     refine plan.Rest.first 2 _ (.int .i64 (k : Int)) rfl (fun w' hb' => (by kernel_rfl)) ?_
     refine plan.Rest.first 3 _ (.pointer (some ⟨b, off + k * 2, none⟩)) rfl (fun w' hb' => (exec_indexM' (b := b) (off := off) (len := F.length) (cap := cap) (i := k) rfl hlt)) ?_
     refine plan.Rest.first 4 _ (.pointer (some ⟨b, off + k * 2, none⟩)) rfl (fun w' hb' => (by kernel_rfl)) ?_
     refine plan.Rest.first 5 _ (.int .i64 p.id) rfl (fun w' hb' => exec_cell_int (ad := ⟨b, off + k * 2, none⟩) rfl (by kernel_rfl) (HZ.out _ (hb.trans (hb'.mono hz))).2.2 Tryz.isAgg3) ?_
     refine plan.Rest.first 6 _ (.pointer (some ⟨w.heap.size + 1, 0, none⟩)) rfl (fun w' hb' => (by kernel_rfl)) ?_
     refine plan.Rest.first 7 _ (.int .i64 x) rfl (fun w' hb' => exec_cell_int (ad := ⟨w.heap.size + 1, 0, none⟩) rfl (by kernel_rfl) (HZ.out _ (hb.trans (hb'.mono hz))).2.1 Tryz.isAgg3) ?_
     refine plan.Rest.first 8 _ (.bool true) rfl (fun w' hb' => (exec_neq_int (n := p.id) (m := x) rfl HNE)) ?_
     refine plan.Rest.done ?_
     walk_nrm
     clear hb hz
     generalize wrd.drew = wrdd at *
     go_wp2
     replace HO := hid (HO.out.later (w' := wrdd.drew) (below_drewN (Below.refl _ _) 1))
     have hb := HO.out.below
     refine plan.regionS (S := fun w' => Below (w.heap.size + 1 + 1 + 1) W0 w') ?_
     generalize wrdd.drew = wrdde at *
     have HA := HO.out.later (newB wrdde (.cells (zS p.id p.f p.fL.length p.fCap) 58))
     have hu := exec_push_run HA.row (p := p) (g := wrdde.heap.size) (Block.new wrdde _ _) (by have := HL.out; omega) HA.low.2
     obtain ⟨q, w3, hq, hq2, hq3⟩ := hu
     obtain ⟨qa, qc, rfl, _⟩ := ownsRow_slice hq2
     have HP := HA.push hq2 hq3
     have hb3 : Below (w.heap.size + 1 + 1 + 1) W0 w3 := HA.below.grown hq3 (by have := HA.low; omega) (fun j hj => by have := World.ownsRow.lt HA.row j hj; omega)
     have hbx : Block w3 (w.heap.size + 1 + 1 + 1) 24 (zS v ua G.length uc) := (hq3.block _ HA.box.lt (fun e => by have := World.ownsRow.lt HA.row _ e.symm; omega)).trans HA.box
     obtain ⟨w5, hw5⟩ : ∃ w5, Hid (w3.setCell ⟨w.heap.size + 1 + 1 + 1, 1, none⟩ (.slice qa (G.length + 1) qc) = w5) := ⟨_, rfl⟩
     have hrun := fun (o : Oper) (act : Act) (q1 : o.op = .store 22 (.tmp 59) (.tmp 58)) (q2 : act.eval (.tmp 59) = .pointer (some ⟨w.heap.size + 1 + 1 + 1, 1, none⟩)) (q3 : act.eval (.tmp 58) = .slice qa (G.length + 1) qc) => exec_put_fm' (o := o) (a := act) q1 q2 q3 (hbx.cell 1) (hbx.frozen 1)
     rw [hw5.out] at hrun HP
     refine plan.firstS 0 _ (.pointer (some ⟨w.heap.size + 1 + 1 + 1, 1, none⟩)) rfl (fun w' hb' => (by kernel_rfl)) hb ?_
     refine plan.firstS 2 _ (.pointer (some ⟨w.heap.size, 1, none⟩)) rfl (fun w' hb' => (by kernel_rfl)) hb ?_
     refine plan.firstS 3 _ (.slice (some ⟨b, off, none⟩) F.length cap) rfl (fun w' hb' => exec_cell_slice (ad := ⟨w.heap.size, 1, none⟩) rfl (HZ.out _ hb').1 Tryz.isAgg22) hb ?_
     refine plan.firstS 4 _ (.int .i64 (k : Int)) rfl (fun w' hb' => (by kernel_rfl)) hb ?_
     refine plan.firstS 5 _ (.pointer (some ⟨b, off + k * 2, none⟩)) rfl (fun w' hb' => (exec_indexM' (b := b) (off := off) (len := F.length) (cap := cap) (i := k) rfl hlt)) hb ?_
     refine plan.firstS 6 _ (zS p.id p.f p.fL.length p.fCap) rfl (fun w' hb' => exec_load_at (b := b) (off := off + k * 2) rfl (HR.out _ hb') Tryz.underlying58 rfl info_fm.out) hb ?_
     refine bothS 1 7 ?_ ?_
     ·refine ⟨_, rfl, rfl, .inl ⟨.slice ua G.length uc, wrdde, (exec_cell_slice (ad := ⟨w.heap.size + 1 + 1 + 1, 1, none⟩) rfl (HO.out.box.cell 1) Tryz.isAgg22), hb, ?_⟩⟩
      refine plan.oneS (w1 := wrdde.alloc (.cells (zS p.id p.f p.fL.length p.fCap) 58)) 7 _ (.slice (some ⟨wrdde.heap.size, 0, none⟩) 1 1) rfl rfl HA.below ?_
      refine plan.oneS (w1 := w3) 8 _ (.slice qa (G.length + 1) qc) rfl rfl (hv := (hq _ _ _ _ rfl rfl (by kernel_rfl) (by kernel_rfl))) hb3 ?_
      refine plan.oneS (w1 := w3) 9 _ (.pointer (some ⟨w.heap.size + 1 + 1 + 1, 1, none⟩)) rfl rfl hb3 ?_
      refine plan.lastS (w1 := w5) 10 _ rfl rfl rfl (hrun _ _ rfl (by kernel_rfl) (by kernel_rfl)) HP.below ?_
      walk_nrm
      go_wp2
      exact ⟨⟨k + 1, true, qa, qc, G ++ [p], by omega, rfl, by go_num, hid (by have := HP; simpa using this), hid (fun r hr => by rcases List.mem_append.1 hr with h | h; exact HG.out r h; rw [List.mem_singleton.1 h]; exact HPK.out), HN, hid (by have := HL.out; simp; omega)⟩, by simp [intOf]; omega⟩
     ·refine ⟨_, rfl, rfl, .inl ⟨.slice (some ⟨wrdde.heap.size, 0, none⟩) 1 1, wrdde.alloc (.cells (zS p.id p.f p.fL.length p.fCap) 58), (by kernel_rfl), HA.below, ?_⟩⟩
      refine plan.oneS (w1 := wrdde.alloc (.cells (zS p.id p.f p.fL.length p.fCap) 58)) 1 _ (.slice ua G.length uc) rfl rfl (hv := (exec_cell_slice (ad := ⟨w.heap.size + 1 + 1 + 1, 1, none⟩) rfl (HA.box.cell 1) Tryz.isAgg22)) HA.below ?_
      refine plan.oneS (w1 := w3) 8 _ (.slice qa (G.length + 1) qc) rfl rfl (hv := (hq _ _ _ _ rfl rfl (by kernel_rfl) (by kernel_rfl))) hb3 ?_
      refine plan.oneS (w1 := w3) 9 _ (.pointer (some ⟨w.heap.size + 1 + 1 + 1, 1, none⟩)) rfl rfl hb3 ?_
      refine plan.lastS (w1 := w5) 10 _ rfl rfl rfl (hrun _ _ rfl (by kernel_rfl) (by kernel_rfl)) HP.below ?_
      walk_nrm
      go_wp2
      exact ⟨⟨k + 1, true, qa, qc, G ++ [p], by omega, rfl, by go_num, hid (by have := HP; simpa using this), hid (fun r hr => by rcases List.mem_append.1 hr with h | h; exact HG.out r h; rw [List.mem_singleton.1 h]; exact HPK.out), HN, hid (by have := HL.out; simp; omega)⟩, by simp [intOf]; omega⟩
  ·obtain rfl : k = F.length := by omega
   have hQ := HQ.out
   rw [List.drop_of_length_le (by rw [forms_length]; exact Nat.le_refl _)] at hQ
   unfold go at hQ
   clear k0 k1 k2 kb HQ
   cases dd
   ·have HN : Hid (forms (G ++ [⟨x, fa, fc, l⟩]) = formsR (forms F) x l) := hid (by rw [← hQ]; simp [forms, Fm.p])
    clear hQ
    obtain ⟨q0, q1, _, _⟩ := HX.out _ HO.out.below
    have y0 := q1.cell 0
    have y1 := q1.cell 1
    have x1 := HO.out.box.cell 1
    have HA := hid (HO.out.later (newB wr (.cells (zS x fa l.length fc) 58)))
    have HNW := hid (Block.new wr 58 (zS x fa l.length fc))
    have HLM : Hid (G.length + 1 ≤ maxLen) := hid (by have := HL.out; unfold maxLen; omega)
    have HLB : Hid ((G.length + 1) * 32 ≤ 140737488355328) := hid (by have := HL.out; omega)
    clear q0 q1
    go_wp2_with (at_builtin; refine wpList_append_fromN rfl _ _ 22 rfl (w.heap.size + 1 + 1 + 1 + 1) 58 i0 _ 2 32 Tryz.underlying22 hi0 hz0 hz1 hz2 (by simp [Value.cells]) (by omega) (.slice ua G.length uc) G.length (fmV G) rfl HA.out.row (some ⟨wr.heap.size, 0, none⟩) 1 1 (fmC ⟨x, fa, fc, l⟩) rfl rfl (.inr ⟨_, rfl, fun j u hj => by rw [Addr.add_lit, Nat.zero_add]; exact (HNW.out.cell j).trans hj⟩) (by intro u hu; simp [fmC] at hu; rcases hu with rfl | rfl <;> rfl) HLM.out HLB.out HA.out.low.2 ?_)
    intro v2 w2 ho hg
    obtain ⟨ra, rc, rfl, _⟩ := ownsRow_slice ho
    have HP := HA.out.push (p := ⟨x, fa, fc, l⟩) (by rw [fmV_append]; simpa [fmV] using ho) hg
    have hbx : Block w2 (w.heap.size + 1 + 1 + 1) 24 (zS v ua G.length uc) := (hg.block _ HA.out.box.lt (fun e => by have := World.ownsRow.lt HA.out.row _ e.symm; have := HA.out.low; omega)).trans HA.out.box
    have hb2 : Below (w.heap.size + 1 + 1 + 1) W0 w2 := HA.out.below.grown hg (by have := HA.out.low; omega) (fun j hj => by have := World.ownsRow.lt HA.out.row j hj; omega)
    have x0 := hbx.cell 0
    have x1 := hbx.cell 1
    have f1 := hbx.frozen 1
    obtain ⟨_, _, q2, _⟩ := HX.out _ hb2
    have r0 := q2.cell 0
    have r1 := q2.cell 1
    have rf0 := q2.frozen 0
    have rf1 := q2.frozen 1
    replace HL : Hid ((G ++ [(⟨x, fa, fc, l⟩ : Fm)]).length ≤ 2 * F.length + 1) := hid (by have := HL.out; simp; omega)
    replace HG : Hid (∀ r ∈ G ++ [(⟨x, fa, fc, l⟩ : Fm)], r.Ok w) := hid (fun r hr => by rcases List.mem_append.1 hr with h | h; exact HG.out r h; rw [List.mem_singleton.1 h]; exact HPO.out)
    replace HO := hid HP
    clear HP ho hg hbx hb2 HA HNW HLM HLB y0 y1 q2
    go_wp2
    have hR := ((HX.out _ HO.out.below).2.2.1.setCell 0 (.int .i64 v)).setCell 1 (.slice ra (G.length + 1) rc)
    have hrow := own_past' (o := 1) (v := .slice ra (G.length + 1) rc) (own_past' (o := 0) (v := .int .i64 v) HO.out.row (show w.heap.size + 1 + 1 < _ by omega)) (show w.heap.size + 1 + 1 < _ by omega)
    have hbl := below_setCells (below_setCells (HX.out _ HO.out.below).2.2.2 (show w.heap.size ≤ w.heap.size + 1 + 1 by omega) 0 [.int .i64 v]) (show w.heap.size ≤ w.heap.size + 1 + 1 by omega) 1 [.slice ra (G.length + 1) rc]
    have hlen : (G ++ [(⟨x, fa, fc, l⟩ : Fm)]).length = G.length + 1 := by simp
    rw [hlen] at hrow
    refine bodyPost_ret (results_cell (b := w.heap.size + 1 + 1) (o := 0) rfl rfl hR.whole Tryz.underlying24 rfl (sc_info2 _ _)) rfl ?_
    exact ⟨ra, rc, (G ++ [(⟨x, fa, fc, l⟩ : Fm)]), by rw [hlen]; rfl, ⟨(own_fms hrow).1, fun r hr => (HG.out r hr).below hbl⟩, HN.out, (fun z hz => by have := far_row hrow z hz; omega), hbl⟩
   ·have HN : Hid (forms G = formsR (forms F) x l) := hid (by rw [← hQ]; simp)
    clear hQ
    obtain ⟨q0, q1, q2, _⟩ := HX.out _ HO.out.below
    have x0 := HO.out.box.cell 0
    have x1 := HO.out.box.cell 1
    have r0 := q2.cell 0
    have r1 := q2.cell 1
    have rf0 := q2.frozen 0
    have rf1 := q2.frozen 1
    clear q0 q1 q2
    go_wp2
    have hR := ((HX.out _ HO.out.below).2.2.1.setCell 0 (.int .i64 v)).setCell 1 (.slice ua (G.length) uc)
    have hrow := own_past' (o := 1) (v := .slice ua (G.length) uc) (own_past' (o := 0) (v := .int .i64 v) HO.out.row (show w.heap.size + 1 + 1 < _ by omega)) (show w.heap.size + 1 + 1 < _ by omega)
    have hbl := below_setCells (below_setCells (HX.out _ HO.out.below).2.2.2 (show w.heap.size ≤ w.heap.size + 1 + 1 by omega) 0 [.int .i64 v]) (show w.heap.size ≤ w.heap.size + 1 + 1 by omega) 1 [.slice ua (G.length) uc]
    refine bodyPost_ret (results_cell (b := w.heap.size + 1 + 1) (o := 0) rfl rfl hR.whole Tryz.underlying24 rfl (sc_info2 _ _)) rfl ?_
    exact ⟨ua, uc, G, rfl, ⟨(own_fms hrow).1, fun r hr => (HG.out r hr).below hbl⟩, HN.out, (fun z hz => by have := far_row hrow z hz; omega), hbl⟩
end Go.Proofs.YtaciegkblklokaaGreat.typing
namespace Go.Proofs.YtaciegkblklokaaGreat.typing
open Go.RowKit Go.Proofs.YtaciegkblklokaaGreat.schema
open Go.Proofs.YtaciegkblklokaaGreat.field (newB)
structure Fb (S : Nat) (x : Int) (u : Value) (l : List field.Fd) (W0 wr : World) : Prop where
 box : Block wr S 58 [.int .i64 x, u]
 row : wr.ownsRow (S + 1) 26 5 u l.length (fdV l)
 below : Below S W0 wr
theorem Fb.new (x : Int) (W0 : World) : Fb W0.heap.size x (.slice none 0 0) [] W0 (W0.alloc (.cells (zS x none 0 0) 58)) :=
 ⟨Block.new W0 _ _, World.ownsRow_nil _ _ _ _, newB W0 _⟩
theorem Fb.later {S : Nat} {x : Int} {u : Value} {l : List field.Fd} {W0 wr w' : World} (h : Fb S x u l W0 wr) (hb : Below wr.heap.size wr w') : Fb S x u l W0 w' :=
 ⟨h.box.later hb, ownsRow_later h.row hb, h.below.trans (hb.mono (by have := h.box.lt; omega))⟩
theorem Fb.put {S : Nat} {x : Int} {u q : Value} {l l2 : List field.Fd} {W0 wr w2 : World} (h : Fb S x u l W0 wr) (ho : w2.ownsRow wr.heap.size 26 5 q l2.length (fdV l2)) (hb : Below wr.heap.size wr w2) : Fb S x q l2 W0 (w2.setCell ⟨S, 1, none⟩ q) := by
 have hl := h.box.lt
 have hbx := h.box.later hb
 refine ⟨?_, ?_, ?_⟩
 ·have := hbx.setCell 1 q; simpa using this
 ·exact own_past' (own_low ho (by omega)) (by omega)
 ·exact below_setCells (h.below.trans (hb.mono (by omega))) (Nat.le_refl _) 1 [q]
theorem Fb.fds {S : Nat} {x : Int} {a : Option Addr} {c n : Nat} {l : List field.Fd} {W0 wr : World} (h : Fb S x (.slice a n c) l W0 wr) (hn : n = l.length) : field.Fds wr a l ∧ l.length ≤ c := by
 subst hn
 exact ⟨(own_fds h.row).1, (own_fds h.row).2.2⟩
theorem Fb.ok {S : Nat} {x y : Int} {a : Option Addr} {c : Nat} {l : List field.Fd} {W0 wr : World} (h : Fb S x (.slice a l.length c) l W0 wr) : (⟨y, a, c, l⟩ : Fm).Ok wr := ⟨(own_fds h.row).1, (own_cap h.row).1, (own_cap h.row).2⟩
theorem fds_set2 {w : World} {S o : Nat} {t : TypeId} {cs : List Value} {v : Value} {a : Option Addr} {L : List field.Fd} (h : field.Fds w a L) (hB : Block w S t cs) (hc : cs.length < 5) : field.Fds (w.setCell ⟨S, o, none⟩ v) a L := by
 by_cases hL : L = []
 ·exact .inl hL
 rcases h with h | ⟨b, off, rfl, hlt, hp⟩
 ·exact absurd h hL
 ·have hb : b ≠ S := by
   intro e
   subst e
   obtain ⟨f, r, rfl⟩ : ∃ f r, L = f :: r := by cases L with | nil => exact absurd rfl hL | cons f r => exact ⟨f, r, rfl⟩
   have h4 := (hp 0 f rfl).2.2.2.2
   rw [hB.cell] at h4
   have := (List.getElem?_eq_some_iff.1 h4).1
   omega
  have e := fun q => World.cell?_of_block (w := w) (w' := w.setCell ⟨S, o, none⟩ v) (a := ⟨b, q, none⟩) (Below.heap_setCell w ⟨S, o, none⟩ v b hb)
  refine .inr ⟨b, off, rfl, by simpa using hlt, fun i p hp1 => ?_⟩
  obtain ⟨c0, c1, c2, c3, c4⟩ := hp i p hp1
  exact ⟨(e _).trans c0, (e _).trans c1, (e _).trans c2, (e _).trans c3, (e _).trans c4⟩
theorem fml_set2 {w : World} {S o : Nat} {t : TypeId} {cs : List Value} {v : Value} {x : Option Addr} {G : List Fm} (h : FmL w x G) (hx : G ≠ [] → ∀ z, x = some z → z.block ≠ S) (hB : Block w S t cs) (hc : cs.length < 5) : FmL (w.setCell ⟨S, o, none⟩ v) x G := by
 refine ⟨?_, fun p hp => ⟨fds_set2 (h.2 p hp).rf hB hc, (h.2 p hp).cf, (h.2 p hp).df⟩⟩
 by_cases hG : G = []
 ·exact .inl hG
 rcases h.1 with h1 | ⟨b, off, rfl, hlt, hp⟩
 ·exact absurd h1 hG
 ·have hb : b ≠ S := hx hG _ rfl
  have e := fun q => World.cell?_of_block (w := w) (w' := w.setCell ⟨S, o, none⟩ v) (a := ⟨b, q, none⟩) (Below.heap_setCell w ⟨S, o, none⟩ v b hb)
  refine .inr ⟨b, off, rfl, by simpa using hlt, fun i p hp1 => ?_⟩
  obtain ⟨c0, c1⟩ := hp i p hp1
  exact ⟨(e _).trans c0, (e _).trans c1⟩
def OnR (r : Int × List schema.Form × Nat) (w : World) (e : Ending) (w' : World) : Prop :=
 ∃ x xc G, e = .returned (.tuple #[zS r.1 x (List.length (α := Fm) G) xc, .int .i64 (r.2.2 : Nat)]) ∧ FmL w' x G ∧ forms G = r.2.1 ∧ (∀ z, x = some z → w.heap.size ≤ z.block) ∧ Below w.heap.size w w'
theorem go_len (x : Int) (l : List field.Fd) : ∀ (F : List schema.Form) (d : Bool), (go x l F d).length ≤ 2 * F.length + 1
 | [], d => by unfold go; split <;> simp
 | p :: r, d => by
  have := go_len x l r (d || decide (x ≤ p.1))
  unfold go
  simp only [List.length_append, List.length_cons]
  have h1 : (if d = false ∧ x ≤ p.1 then [(x, l)] else []).length ≤ 1 := by split <;> simp
  have h2 : (if p.1 = x then [] else [p]).length ≤ 1 := by split <;> simp
  omega
theorem formsR_len (F : List schema.Form) (x : Int) (l : List field.Fd) : (formsR F x l).length ≤ 2 * F.length + 1 := go_len x l F _
theorem names_zero {v : Int} {F : List schema.Form} {s : step.Sp} (hf : Fit v F s) (h0 : names F s = 0) (h9 : s.op ≠ 9) :
  ∃ p, named F s.fm = some p ∧ (s.op = 1 → 0 ≤ s.pl ∧ s.pl ≤ p.2.length) ∧ (s.op = 7 → 0 ≤ s.pl ∧ s.pl < p.2.length) ∧ (nf s.op = true → 0 ≤ firstAt (ids p.2) s.fd) := by
 unfold names at h0
 rw [if_neg h9] at h0
 cases hn : named F s.fm with
 | none => rw [hn] at h0; simp at h0
 | some p =>
  rw [hn] at h0
  simp only at h0
  by_cases h1 : nf s.op = true ∧ firstAt (ids p.2) s.fd < 0
  ·rw [if_pos h1] at h0; cases h0
  rw [if_neg h1] at h0
  by_cases h2 : (s.op = 1 ∧ 0 ≤ firstAt (ids p.2) s.f.id) ∨ ((s.op = 6 ∨ s.op = 8) ∧ 0 ≤ firstAt (ids p.2) s.tt)
  ·rw [if_pos h2] at h0; cases h0
  rw [if_neg h2] at h0
  by_cases h3 : (s.op = 1 ∧ (p.2.length : Int) < s.pl) ∨ (s.op = 7 ∧ (p.2.length : Int) ≤ s.pl)
  ·rw [if_pos h3] at h0; cases h0
  refine ⟨p, rfl, fun h => ?_, fun h => ?_, fun h => ?_⟩
  ·have hfi := fit_fine hf (m := 2) (by rw [h]; decide)
   unfold step.Sp.Fine at hfi
   simp at hfi
   exact ⟨by omega, Int.not_lt.1 (fun h4 => h3 (.inl ⟨h, h4⟩))⟩
  ·have hfi := fit_fine hf (m := 2) (by rw [h]; decide)
   unfold step.Sp.Fine at hfi
   simp at hfi
   exact ⟨by omega, Int.not_le.1 (fun h4 => h3 (.inr ⟨h, h4⟩))⟩
  ·exact Int.not_lt.1 (fun h4 => h1 ⟨h, h4⟩)
theorem types_len (f : field.Fd) (s : step.Sp) : (types f s).1.length ≤ 2 := by
 unfold types
 repeat' split
 all_goals simp
theorem types_bd {v : Int} {F : List schema.Form} {s : step.Sp} {f : field.Fd} (hf : Fit v F s) (hor : f.Right) : (s.op = 4 → Bd ⟨s, 0, [], false, 0, f⟩) ∧ (s.op = 6 → Bq ⟨s, 0, [], false, 0, f⟩) := by
 have h5 := right_span hor
 refine ⟨fun h => ?_, fun h => ?_⟩
 ·have := fit_fine hf (m := 5) (by rw [h]; decide)
  unfold step.Sp.Fine at this
  simp at this
  unfold Bd
  simp only
  exact ⟨by omega, by omega, by omega, by omega⟩
 ·have := fit_fine hf (m := 4) (by rw [h]; decide)
  unfold step.Sp.Fine at this
  simp at this
  unfold Bq
  simp only
  exact ⟨by omega, by omega⟩
theorem exec_addI {o : Oper} {a : Act} {w : World} {x y : Operand} {t : TypeId} {n m : Int} (ho : o.op = .binOp .add 3 x y t) (h : 0 ≤ n + m ∧ n + m ≤ 1000) (hx : a.eval x = .int .i64 n := by kernel_rfl) (hy : a.eval y = .int .i64 m := by kernel_rfl) :
  (execOp a.eval o).run Tryz.prog w = .ok (.value (.int .i64 (n + m))) w := by
 have h2 : IntKind.i64.wrap (n + m) = n + m := IntWalk.i64_in _ (by omega)
 unfold execOp
 rw [ho]
 simp only [hx, hy]
 go_simp
 try simp [h2]
theorem block_range {w : World} {b k : Nat} {t : TypeId} {L : List field.Fd} {m : field.Fd} (hB : Block w b t (fdV L)) (hm : L[k]? = some m) : w.rangeAt b (0 + k * 5) (zF m) := by
 have key : ∀ c, c < 5 → w.cell? ⟨b, 0 + k * 5 + c, none⟩ = (fdC m)[c]? := fun c hc => by
  rw [hB.cell, Nat.zero_add]
  exact fdV_at L k m c hm hc
 exact range5 (key 0 (by omega)) (key 1 (by omega)) (key 2 (by omega)) (key 3 (by omega)) (key 4 (by omega))
theorem on_boxes (v : Int) (a : Option Addr) (cap : Nat) (F : List Fm) (s : step.Sp) (ta : Option Addr) (tc : Nat) (la : Option Addr) (lc : Nat) (w : World) :
  ∃ W3, Hid (((((w.alloc (.cells (zS v a F.length cap) 24))).alloc (.cells (zP s ta tc la lc) 32)).alloc (.cells #[.int .i64 0, .slice none 0 0] 24)) = W3) ∧ Below w.heap.size w W3 ∧ W3.heap.size = w.heap.size + 3 ∧ Hid (∀ w', Below W3.heap.size W3 w' → Block w' w.heap.size 24 (zS v a F.length cap) ∧ Block w' (w.heap.size + 1) 32 (zP s ta tc la lc) ∧ Block w' (w.heap.size + 1 + 1) 24 [.int .i64 0, .slice none 0 0] ∧ Below w.heap.size w w') := by
 have hbw : Below w.heap.size w ((((w.alloc (.cells (zS v a F.length cap) 24))).alloc (.cells (zP s ta tc la lc) 32)).alloc (.cells #[.int .i64 0, .slice none 0 0] 24)) := by
  have h1 := newB w (.cells (zS v a F.length cap) 24)
  have h2 := h1.alloc h1.size (.cells (zP s ta tc la lc) 32)
  exact h2.alloc h2.size _
 refine ⟨_, hid rfl, hbw, by simp, hid (fun w' hb => ⟨(((Block.new w _ _).alloc _).alloc _).later hb, Block.later (w := ((((w.alloc (.cells (zS v a F.length cap) 24))).alloc (.cells (zP s ta tc la lc) 32)).alloc (.cells #[.int .i64 0, .slice none 0 0] 24))) ?_ hb, Block.later (w := ((((w.alloc (.cells (zS v a F.length cap) 24))).alloc (.cells (zP s ta tc la lc) 32)).alloc (.cells #[.int .i64 0, .slice none 0 0] 24))) ?_ hb, hbw.trans (hb.mono (by simp; omega))⟩)⟩
 ·have := (Block.new ((w.alloc (.cells (zS v a F.length cap) 24))) 32 (zP s ta tc la lc)).alloc (.cells #[.int .i64 0, .slice none 0 0] 24)
  simpa using this
 ·have := Block.new (((w.alloc (.cells (zS v a F.length cap) 24))).alloc (.cells (zP s ta tc la lc) 32)) 24 [.int .i64 0, .slice none 0 0]
  simpa using this
theorem info_sc : Hid ((Tryz.prog.info? 24).map (·.size) = some 2) := by show _ = _; kernel_rfl
end Go.Proofs.YtaciegkblklokaaGreat.typing
