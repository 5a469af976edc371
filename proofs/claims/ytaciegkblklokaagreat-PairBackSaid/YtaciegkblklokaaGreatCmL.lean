/- Contracts and lemmas that the claims of this seat share: StepOwn, PlanPair, PlanThen, PairKit, PlanReads. Each says its own conditions. -/
import Derived.Test.YtaciegkblklokaaGreatCmK
import Derived.Test.YtaciegkblklokaaGreatCmG
import Derived.Test.YtaciegkblklokaaGreatCmA
import Derived.Test.YtaciegkblklokaaGreatCmC
import Derived.Test.YtaciegkblklokaaGreatCmD
import Derived.Test.YtaciegkblklokaaGreatCmF
import Derived.Laws.Cover3
import Derived.Test.YtaciegkblklokaaGreatCmB
import Derived.Test.YtaciegkblklokaaGreatCmH
import Derived.Conc.WalkWords
set_option linter.unusedVariables false
namespace Go.Proofs.YtaciegkblklokaaGreat.step
open Go.RowKit
open Go.Proofs.YtaciegkblklokaaGreat.schema (fdV own_low own_fds own_cap StayT stay_grown)
def intV (l : List Int) : List Value := l.map fun n => Value.int .i64 n
theorem own_ints {w : World} {base n : Nat} {a : Option Addr} {cap : Nat} {L : List Int} {e : TypeId} (h : w.ownsRow base e 1 (.slice a n cap) n (intV L)) : Ins w a L ∧ n = L.length := by
 obtain ⟨hl, hr⟩ := h
 have hn : n = L.length := by have : (intV L).length = L.length := List.length_map _; omega
 rcases hr with ⟨hv, h0⟩ | ⟨b, cap', cur, hv, _, hg, hcp, _, _, htake⟩
 ·cases hv
  exact ⟨.inl (List.eq_nil_of_length_eq_zero (by omega)), hn⟩
 ·cases hv
  refine ⟨.inr ⟨b, 0, rfl, (Array.getElem?_eq_some_iff.1 hg).1, fun i p hp => ?_⟩, hn⟩
  have hi : i < L.length := (List.getElem?_eq_some_iff.1 hp).1
  have h1 : (intV L)[i]? = some (.int .i64 p) := by simp [intV, hp]
  rw [← htake, List.getElem?_take, if_pos (by omega)] at h1
  rw [cell_of_row w b _ cur _ _ hg, Nat.zero_add, ← h1, Array.getElem?_toList]
theorem int_info : (Tryz.prog.info? 3).map (fun i => (i.zero, i.size, i.bytes)) = some (some (.int .i64 0), 1, 8) := by kernel_rfl
theorem int_info_parts : ∃ i, Tryz.prog.info? 3 = some i ∧ i.zero = some (.int .i64 0) ∧ i.size = 1 ∧ i.bytes = 8 := by
 obtain ⟨i, hi, he⟩ := Option.map_eq_some_iff.1 int_info
 simp only [Prod.mk.injEq] at he
 exact ⟨i, hi, he.1, he.2.1, he.2.2⟩
def OwnS (B : Nat) (w : World) (p : St) : Prop := w.ownsRow B 3 1 (.slice p.ta p.s.t.length p.tc) p.s.t.length (intV p.s.t) ∧ w.ownsRow B 26 5 (.slice p.la p.s.l.length p.lc) p.s.l.length (fdV p.s.l)
theorem OwnS.lists {B : Nat} {w : World} {p : St} (h : OwnS B w p) : Lists w p.s p.ta p.la :=
 ⟨(own_ints h.1).1, (own_fds h.2).1, Nat.le_trans (own_cap h.1).1 (own_cap h.1).2, Nat.le_trans (own_cap h.2).1 (own_cap h.2).2⟩
theorem OwnS.low {B B' : Nat} {w : World} {p : St} (h : OwnS B w p) (hB : B' ≤ B) : OwnS B' w p := ⟨own_low h.1 hB, own_low h.2 hB⟩
theorem OwnS.later {B : Nat} {w w' : World} {p : St} (h : OwnS B w p) (hb : Below w.heap.size w w') : OwnS B w' p := ⟨ownsRow_later h.1 hb, ownsRow_later h.2 hb⟩
theorem st_int : (32 : TypeId) ≠ 3 := by decide
theorem st_fd : (32 : TypeId) ≠ 26 := by decide
theorem OwnS.nil (B : Nat) (w : World) (s : Sp) (ht : s.t = []) (hl : s.l = []) : OwnS B w ⟨s, none, 0, none, 0⟩ := by
 refine ⟨?_, ?_⟩
 ·show w.ownsRow B _ 1 (.slice none s.t.length 0) s.t.length (intV s.t)
  rw [ht]; exact World.ownsRow_nil _ _ _ _
 ·show w.ownsRow B _ 5 (.slice none s.l.length 0) s.l.length (fdV s.l)
  rw [hl]; exact World.ownsRow_nil _ _ _ _
theorem own_after {w : World} {B e sz n S o : Nat} {u v : Value} {xs : List Value} (h : w.ownsRow B e sz u n xs) (hS : S < B) : (w.setCell ⟨S, o, none⟩ v).ownsRow B e sz u n xs :=
 ownsRow_heap h (fun g hg => Below.heap_setCell w ⟨S, o, none⟩ v g (by have := (World.ownsRow.lt h g hg).1; show g ≠ S; omega))
theorem OwnS.after {w : World} {B S o : Nat} {v : Value} {p : St} (h : OwnS B w p) (hS : S < B) : OwnS B (w.setCell ⟨S, o, none⟩ v) p := ⟨own_after h.1 hS, own_after h.2 hS⟩
theorem OwnS.stay {w w' : World} {B : Nat} {p : St} (h : OwnS B w p) (h1 : StayT 3 w w') (h2 : StayT 26 w w') : OwnS B w' p := ⟨h1.row h.1, h2.row h.2⟩
theorem ints_news {w : World} {a : Option Addr} {L : List Int} (h : Ins w a L) : L.length = 0 ∨ ∃ ad, a = some ad ∧ ∀ j u, (intV L)[j]? = some u → w.cell? (ad.add j) = some u := by
 rcases h with h | ⟨b, off, ha, hlt, hc⟩
 ·exact .inl (by rw [h]; rfl)
 ·refine .inr ⟨_, ha, fun j u hj => ?_⟩
  unfold intV at hj
  rw [List.getElem?_map, Option.map_eq_some_iff] at hj
  obtain ⟨n, hn, rfl⟩ := hj
  rw [Addr.add_lit]
  exact hc j n hn
theorem intV_length (L : List Int) : (intV L).length = L.length := List.length_map _
theorem intV_one (L : List Int) : ∀ v ∈ intV L, v.oneCell' = true := by intro v hv; obtain ⟨x, _, rfl⟩ := List.mem_map.1 hv; rfl
theorem ints_nil (W : World) (a : Option Addr) (n c : Nat) : (binOp .eql 29 (.slice a n c) (.slice none 0 0)).run Tryz.prog W = .ok (.bool a.isNone) W := by
 have h := run_equal_slice_nil (P := Tryz.prog) W 29 3 a n c Tryz.underlying29
 simp [binOp, h, Result.andThen]
def OwnsI (L : List Int) (w : World) (e : Ending) (w' : World) : Prop := ∃ v, e = .returned v ∧ w'.ownsRow w.heap.size 3 1 v L.length (intV L) ∧ Below w.heap.size w w'
set_option maxRecDepth 20000 in
theorem cloneI_any (a : Option Addr) (cap : Nat) (L : List Int) (w : World) (h : Ins w a L) (hL : L.length ≤ 1000000) :
  Calls Tryz.prog 42 #[.slice a L.length cap] w (OwnsI L w) := by
 obtain ⟨i0, hi, hz0, hz1, hz2⟩ := int_info_parts
 cases a with
 | none =>
  have en := ints_nil w none L.length cap
  simp only [Option.isNone_none] at en
  have hl : L = [] := by
   rcases h with h | ⟨b, off, h, _⟩
   ·exact h
   ·cases h
  have HR : Hid (OwnsI L w (.returned (.slice none 0 0)) w) := hid ⟨_, rfl, by rw [hl]; exact World.ownsRow_nil _ _ _ _, Below.refl _ _⟩
  clear h hl hL
  generalize OwnsI L w = R at *
  generalize L.length = n at *
  go_enter Tryz.func42, Tryz.ntmps42
  go_wp2
  exact HR.out
 | some ad =>
  have en := ints_nil w (some ad) L.length cap
  simp only [Option.isNone_some] at en
  have hb : Below w.heap.size w (w.alloc (.cells #[] 3)) := (Below.refl _ _).alloc (Nat.le_refl _) _
  have HB := hid hb
  have HN := hid (ints_news (h.below hb))
  have HU := hid (intV_length L)
  have HN2 : Hid (0 + L.length ≤ maxLen) := by show _ ≤ _; unfold maxLen; omega
  have HN3 : Hid ((0 + L.length) * 8 ≤ 140737488355328) := by show _ ≤ _; omega
  have HO := hid (World.ownsRow_made (base := w.heap.size) (e := 3) (size := 1) w #[] 0 (Nat.le_refl _) (Nat.zero_le _) rfl)
  have H1 := hid (intV_one L)
  clear h hb hL
  unfold OwnsI
  generalize hX : intV L = X at *
  clear hX
  generalize hn : L.length = n at *
  clear hn
  go_enter Tryz.func42, Tryz.ntmps42
  go_wp2_with (at_builtin; refine wpList_append_from rfl _ _ 29 rfl w.heap.size 3 i0 (.int .i64 0) 8 Tryz.underlying29 hi hz0 hz1 hz2 rfl (.slice (some ⟨w.heap.size, 0, none⟩) 0 0) 0 [] rfl HO.out (some ad) n cap X rfl HU.out HN.out H1.out HN2.out HN3.out HB.out.size ?_)
  intro v' w1 ho hg
  have hbl : Below w.heap.size w w1 := HB.out.grown hg HB.out.size (fun k hk => by cases hk; exact Nat.le_refl _)
  have ho' : w1.ownsRow w.heap.size 3 1 v' n X := by simpa using ho
  have HO2 := hid ho'
  have HB2 := hid hbl
  clear ho ho' hbl hg
  go_wp2
  go_ret
  exact ⟨_, rfl, HO2.out, HB2.out⟩
end Go.Proofs.YtaciegkblklokaaGreat.step
namespace Go.Proofs.YtaciegkblklokaaGreat.plan
open Go Go.RowKit
section
variable {P : Program} {md : Region.Mode} {Q : Exit → Act → World → Prop} {l : List Oper}
theorem skipS {S : World → Prop} {f : Nat} {listed : Array Bool} {a : Act} {w : World} (i : Nat) (o : Oper) (hi : l[i]? = some o) (hS : S w)
  (h : wpAnyH P md l.toArray (NoPanic Q) S f (listed.setIfInBounds i true) (a.put o.dst undef) w) (hs : Region.noSelect l.toArray = true := by kernel_rfl) (hf : Region.free md l.toArray listed i = true := by kernel_rfl) (hr : (Region.ready md l.toArray listed).contains i = true := by kernel_rfl) (hw : Region.wanted o (yielded l.toArray a.tmps) = false := by kernel_rfl) : wpAnyH P md l.toArray (NoPanic Q) S (f + 1) listed a w :=
 wpAnyH_take (by simpa using hi) hs hf hr (fun c a' w' h => h) (.inr ⟨hw, rfl⟩) hS h
theorem pairS {S : World → Prop} {f : Nat} {listed : Array Bool} {a : Act} {w : World} (iB iC dB dC : Nat) (oB oC : Oper) (F : FuncId) (args : Array Value) (V : Value) (t : TypeId) (cs : List Value) (n base : Nat)
  (hi : iB ≠ iC) (hd : dB ≠ dC) (lB : l[iB]? = some oB) (lC : l[iC]? = some oC) (sB : oB.dst = some dB) (sC : oC.dst = some dC)
  (wC' : ∀ g, Region.wanted oC (yielded l.toArray (a.put (some dB) (.slice (some ⟨g, 0, none⟩) n n)).tmps) = true)
  (eB : ∀ w, (execOp a.eval oB).run P w = .ok (.value (.slice (some ⟨w.heap.size, 0, none⟩) n n)) (w.alloc (.cells cs.toArray t)))
  (eB' : ∀ w, (execOp (a.put (some dC) V).eval oB).run P w = .ok (.value (.slice (some ⟨w.heap.size, 0, none⟩) n n)) (w.alloc (.cells cs.toArray t)))
  (eC : ∀ w, (execOp a.eval oC).run P w = .ok (.enter F args) w) (eC' : ∀ g w, (execOp (a.put (some dB) (.slice (some ⟨g, 0, none⟩) n n)).eval oC).run P w = .ok (.enter F args) w)
  (hC : ∀ w, S w → Calls P F args w fun e w' => e = .returned V ∧ Below w.heap.size w w')
  (hS : ∀ w w', S w → Below w.heap.size w w' → S w') (hz : ∀ w, S w → base ≤ w.heap.size) (h0 : S w)
  (h : ∀ g w', S w' → Block w' g t cs → base ≤ g → wpAnyH P md l.toArray (NoPanic Q) S f ((listed.setIfInBounds iB true).setIfInBounds iC true) ((a.put (some dB) (.slice (some ⟨g, 0, none⟩) n n)).put (some dC) V) w') (r0 : Region.ready md l.toArray listed = [iB, iC] := by kernel_rfl) (rB : Region.ready md l.toArray (listed.setIfInBounds iB true) = [iC] := by kernel_rfl) (rC : Region.ready md l.toArray (listed.setIfInBounds iC true) = [iB] := by kernel_rfl) (wB : Region.wanted oB (yielded l.toArray a.tmps) = true := by kernel_rfl) (wC : Region.wanted oC (yielded l.toArray a.tmps) = true := by kernel_rfl) (wB' : Region.wanted oB (yielded l.toArray (a.put (some dC) V).tmps) = true := by kernel_rfl) :
  wpAnyH P md l.toArray (NoPanic Q) S (f + 2) listed a w := by
 have al : ∀ w : World, Below w.heap.size w (w.alloc (.cells cs.toArray t)) := fun w => (Below.refl _ _).alloc (Nat.le_refl _) _
 refine wpAnyH_all r0 (by simp) fun i hm => ?_
 have hm' : i = iB ∨ i = iC := by simpa using hm
 rcases hm' with rfl | rfl
 ·have hi' : l.toArray[i]? = some oB := by simpa using lB
  unfold wpOp
  simp only [hi', wB, if_true, Oper.wp, eB, Oper.upon]
  refine .inl ⟨hS _ _ h0 (al w), ?_⟩
  rw [sB]
  refine wpAnyH_all rB (by simp) fun j hj => ?_
  obtain rfl : j = iC := by simpa using hj
  have hi' : l.toArray[j]? = some oC := by simpa using lC
  unfold wpOp
  simp only [hi', wC', if_true, Oper.wp, eC', Oper.upon]
  refine .inl ((hC _ (hS _ _ h0 (al w))).mono ?_)
  rintro e w' ⟨rfl, hb⟩
  have hS' := hS _ _ (hS _ _ h0 (al w)) hb
  refine ⟨hS', ?_⟩
  rw [sC]
  exact h _ _ hS' ((Block.new w t cs).later hb) (hz _ h0)
 ·have hi' : l.toArray[i]? = some oC := by simpa using lC
  unfold wpOp
  simp only [hi', wC, if_true, Oper.wp, eC, Oper.upon]
  refine .inl ((hC _ h0).mono ?_)
  rintro e w' ⟨rfl, hb⟩
  have hS' := hS _ _ h0 hb
  refine ⟨hS', ?_⟩
  rw [sC]
  refine wpAnyH_all rC (by simp) fun j hj => ?_
  obtain rfl : j = iB := by simpa using hj
  have hi' : l.toArray[j]? = some oB := by simpa using lB
  unfold wpOp
  simp only [hi', wB', if_true, Oper.wp, eB', Oper.upon]
  have hS'' := hS _ _ hS' (al w')
  refine .inl ⟨hS'', ?_⟩
  rw [sB, put_comm _ dC dB _ _ hd.symm, Array.setIfInBounds_comm _ _ hi.symm]
  exact h _ _ hS'' (Block.new w' t cs) (hz _ hS')
theorem bothW {S : World → Prop} {f : Nat} {listed : Array Bool} {a : Act} {w w1 : World} (iB iC : Nat) (oB oC : Oper) (vB V : Value) (F : FuncId) (args : Array Value) (lB : l[iB]? = some oB) (lC : l[iC]? = some oC) (hS1 : S w1)
  (hC : Calls P F args w fun e w' => e = .returned V ∧ S w')
  (hb : wpAnyH P md l.toArray (NoPanic Q) S f (listed.setIfInBounds iB true) (a.put oB.dst vB) w1)
  (hc : ∀ w', S w' → wpAnyH P md l.toArray (NoPanic Q) S f (listed.setIfInBounds iC true) (a.put oC.dst V) w') (r0 : Region.ready md l.toArray listed = [iB, iC] := by kernel_rfl) (wB : Region.wanted oB (yielded l.toArray a.tmps) = true := by kernel_rfl) (wC : Region.wanted oC (yielded l.toArray a.tmps) = true := by kernel_rfl) (eB : (execOp a.eval oB).run P w = .ok (.value vB) w1 := by kernel_rfl) (eC : (execOp a.eval oC).run P w = .ok (.enter F args) w := by kernel_rfl) : wpAnyH P md l.toArray (NoPanic Q) S (f + 1) listed a w := by
 refine wpAnyH_all r0 (by simp) fun i hm => ?_
 have hm' : i = iB ∨ i = iC := by simpa using hm
 rcases hm' with rfl | rfl
 ·have hi' : l.toArray[i]? = some oB := by simpa using lB
  unfold wpOp
  simp only [hi', wB, if_true, Oper.wp, eB, Oper.upon]
  exact .inl ⟨hS1, hb⟩
 ·have hi' : l.toArray[i]? = some oC := by simpa using lC
  unfold wpOp
  simp only [hi', wC, if_true, Oper.wp, eC, Oper.upon]
  refine .inl (hC.mono ?_)
  rintro e w' ⟨rfl, hS'⟩
  exact ⟨hS', hc w' hS'⟩
theorem exec_store_all {o : Oper} {a : Act} {w : World} {ty : TypeId} {x y : Operand} {g : Nat} {t : TypeId} {cs : List Value} {cells : Array Value} (ho : o.op = .store ty x y)
  (hb : Block w g t cs) (hl : cs.length = cells.size) (hs : (P.info? ty).map (·.size) = some cells.size) (h1 : cells.all (·.oneCell') = true) (hx : a.eval x = .pointer (some ⟨g, 0, none⟩) := by kernel_rfl) (hy : a.eval y = .agg cells := by kernel_rfl) : (execOp a.eval o).run P w = .ok .skip (w.setCells g 0 cells.toList) := by
 unfold execOp
 simp [ho, hx, hy, run_storeAt_mid w g 0 ty cells (hb.there 0 cells.size (by omega)) hs h1]
end
end Go.Proofs.YtaciegkblklokaaGreat.plan
namespace Go.Proofs.YtaciegkblklokaaGreat.plan
open Go Go.RowKit
section
variable {P : Program} {md : Region.Mode} {Q : Exit → Act → World → Prop} {l : List Oper}
theorem thenS {S : World → Prop} {f : Nat} {listed : Array Bool} {a : Act} {w w1 : World} (i : Nat) (o : Oper) (hi : l[i]? = some o) (hg : o.guard = none) (hd : o.dst = none)
  (hv : (execOp a.eval o).run P w = .ok .skip w1) (hS : S w1) (h : wpAnyH P md l.toArray (NoPanic Q) S f (listed.setIfInBounds i true) a w1) (hr : Region.ready md l.toArray listed = [i] := by kernel_rfl) : wpAnyH P md l.toArray (NoPanic Q) S (f + 1) listed a w := by
 refine wpAnyH_all hr (by simp) fun j hj => ?_
 obtain rfl : j = i := by simpa using hj
 have hi' : l.toArray[j]? = some o := by simpa using hi
 have hw : Region.wanted o (yielded l.toArray a.tmps) = true := by unfold Region.wanted; rw [hg]
 unfold wpOp
 have e : a.put o.dst undef = a := by rw [hd]; rfl
 simp only [hi', hw, if_true, Oper.wp, hv, Oper.upon]
 exact .inl ⟨hS, by rw [e]; exact h⟩
end
end Go.Proofs.YtaciegkblklokaaGreat.plan
namespace Go.Proofs.YtaciegkblklokaaGreat.pair
open Go.RowKit Go.Proofs.YtaciegkblklokaaGreat.schema Go.Proofs.YtaciegkblklokaaGreat.typing
open Go.Proofs.YtaciegkblklokaaGreat.field (newB)
open Go.Proofs.YtaciegkblklokaaGreat.step (Sp St Lists OwnS intV Z16 st_fd st_int spC)
theorem stay_cells (e : TypeId) {g : Nat} {t : TypeId} {cs : List Value} {w : World} (hB : Block w g t cs) (ht : t ≠ e) (o : Nat) (vs : List Value) : StayT e w (w.setCells g o vs) := by
 intro k cs' fr hk
 refine (heap_setCells g vs o w k ?_).trans hk
 rintro rfl
 unfold Block at hB
 rw [hB] at hk
 exact ht (Obj.cells.inj (Option.some.inj hk)).2.1
structure Iv (n S T B1 B2 G : Nat) (w0 : World) (s : Sp) (ta : Option Addr) (tc : Nat) (la : Option Addr) (lc : Nat) (c : Ch) (fa : Option Addr) (fc : Nat) (X : List Value) (w : World) : Prop where
 step : Block w S 32 (zP s ta tc la lc)
 res : Block w T 32 Z16
 form : Block w B1 58 (zS c.fi fa c.L.length fc)
 old : Block w B2 26 (zF c.old)
 back : Block w G 32 X
 row : w.ownsRow n 26 5 (.slice fa c.L.length fc) c.L.length (fdV c.L)
 below : Below n w0 w
 lt : n ≤ T ∧ S < B1 ∧ T < B1 ∧ B1 < B2 ∧ B2 < G
variable {n S T B1 B2 G : Nat} {w0 : World} {s : Sp} {ta : Option Addr} {tc : Nat} {la : Option Addr} {lc : Nat} {c : Ch} {fa : Option Addr} {fc : Nat} {X : List Value}
theorem Iv.later {w w' : World} (h : Iv n S T B1 B2 G w0 s ta tc la lc c fa fc X w) (hb : Below w.heap.size w w') : Iv n S T B1 B2 G w0 s ta tc la lc c fa fc X w' :=
 ⟨h.step.later hb, h.res.later hb, h.form.later hb, h.old.later hb, h.back.later hb, ownsRow_later h.row hb, h.below.trans (hb.mono (by have := h.res.lt; have := h.lt; omega)), h.lt⟩
theorem Iv.put {w : World} (h : Iv n S T B1 B2 G w0 s ta tc la lc c fa fc X w) (o : Nat) (vs : List Value) : Iv n S T B1 B2 G w0 s ta tc la lc c fa fc (Go.Proofs.YtaciegkblklokaaGreat.put X o vs) (w.setCells G o vs) := by
 have := h.lt
 exact ⟨h.step.aparts _ _ _ (by omega), h.res.aparts _ _ _ (by omega), h.form.aparts _ _ _ (by omega), h.old.aparts _ _ _ (by omega), h.back.setCells,
  (stay_cells _ h.back st_fd o vs).row h.row, below_setCells h.below (by omega) o vs, h.lt⟩
theorem Iv.done {w : World} (h : Iv n S T B1 B2 G w0 s ta tc la lc c fa fc X w) (Y : List Value) (hY : Y.length = 16) : Block (w.setCells T 0 Y) T 32 Y ∧ Below n w0 (w.setCells T 0 Y) ∧ StayT 26 w (w.setCells T 0 Y) ∧ StayT 3 w (w.setCells T 0 Y) := by
 refine ⟨?_, below_setCells h.below h.lt.1 _ _, stay_cells _ h.res st_fd _ _, stay_cells _ h.res st_int _ _⟩
 have := h.res.setCells (vs := Y) (o := 0)
 rwa [put_all _ _ (by rw [hY]; rfl)] at this
theorem inv_boxes (v : Int) (a : Option Addr) (cap : Nat) (F : List Fm) (s : Sp) (ta : Option Addr) (tc : Nat) (la : Option Addr) (lc : Nat) (w : World) :
  ∃ W3, Hid (((((w.alloc (.cells (zS v a F.length cap) 24))).alloc (.cells (zP s ta tc la lc) 32)).alloc (.cells zZ 32)) = W3) ∧ Below w.heap.size w W3 ∧ W3.heap.size = w.heap.size + 3 ∧ Hid (∀ w', Below W3.heap.size W3 w' → Block w' w.heap.size 24 (zS v a F.length cap) ∧ Block w' (w.heap.size + 1) 32 (zP s ta tc la lc) ∧ Block w' (w.heap.size + 1 + 1) 32 Z16 ∧ Below w.heap.size w w') := by
 have hbw : Below w.heap.size w ((((w.alloc (.cells (zS v a F.length cap) 24))).alloc (.cells (zP s ta tc la lc) 32)).alloc (.cells zZ 32)) := by
  have h1 := newB w (.cells (zS v a F.length cap) 24)
  have h2 := h1.alloc h1.size (.cells (zP s ta tc la lc) 32)
  exact h2.alloc h2.size _
 refine ⟨_, hid rfl, hbw, by simp, hid (fun w' hb => ⟨(((Block.new w _ _).alloc _).alloc _).later hb, Block.later (w := ((((w.alloc (.cells (zS v a F.length cap) 24))).alloc (.cells (zP s ta tc la lc) 32)).alloc (.cells zZ 32))) ?_ hb, Block.later (w := ((((w.alloc (.cells (zS v a F.length cap) 24))).alloc (.cells (zP s ta tc la lc) 32)).alloc (.cells zZ 32))) ?_ hb, hbw.trans (hb.mono (by simp; omega))⟩)⟩
 ·have := (Block.new ((w.alloc (.cells (zS v a F.length cap) 24))) 32 (zP s ta tc la lc)).alloc (.cells zZ 32)
  simpa using this
 ·have := Block.new (((w.alloc (.cells (zS v a F.length cap) 24))).alloc (.cells (zP s ta tc la lc) 32)) 32 Z16
  simpa using this
def InvAs (r : Sp) (w : World) (e : Ending) (w' : World) : Prop := ∃ xa xc ya yc, e = .returned (zP r xa xc ya yc) ∧ OwnS w.heap.size w' ⟨r, xa, xc, ya, yc⟩ ∧ Below w.heap.size w w'
theorem exec_put_i64 {o : Oper} {a : Act} {w : World} {x y : Operand} {ad : Addr} {v : Value} {m : Int} (ho : o.op = .store 3 x y) (hc : w.cell? ad = some v) (hf : w.frozen? ad = false) (hx : a.eval x = .pointer (some ad) := by kernel_rfl) (hy : a.eval y = .int .i64 m := by kernel_rfl) : (execOp a.eval o).run Tryz.prog w = .ok .skip (w.setCell ad (.int .i64 m)) := by
 unfold execOp
 rw [ho]
 simp only [hx, hy]
 go_simp
theorem exec_put_ints {o : Oper} {a : Act} {w : World} {x y : Operand} {ad : Addr} {v : Value} {p : Option Addr} {n c : Nat} (ho : o.op = .store 29 x y) (hc : w.cell? ad = some v) (hf : w.frozen? ad = false) (hx : a.eval x = .pointer (some ad) := by kernel_rfl) (hy : a.eval y = .slice p n c := by kernel_rfl) : (execOp a.eval o).run Tryz.prog w = .ok .skip (w.setCell ad (.slice p n c)) := by
 unfold execOp
 rw [ho]
 simp only [hx, hy]
 go_simp
theorem exec_put_agg {o : Oper} {a : Act} {w : World} {ty : TypeId} {x y : Operand} {g off : Nat} {t : TypeId} {cs : List Value} {cells : Array Value} (ho : o.op = .store ty x y)
  (hb : Block w g t cs) (hl : off + cells.size ≤ cs.length) (hs : (Tryz.prog.info? ty).map (·.size) = some cells.size) (h1 : cells.all (·.oneCell') = true) (hx : a.eval x = .pointer (some ⟨g, off, none⟩) := by kernel_rfl) (hy : a.eval y = .agg cells := by kernel_rfl) : (execOp a.eval o).run Tryz.prog w = .ok .skip (w.setCells g off cells.toList) := by
 unfold execOp
 simp [ho, hx, hy, run_storeAt_mid w g off ty cells (hb.there off cells.size hl) hs h1]
theorem info_st : Hid ((Tryz.prog.info? 32).map (·.size) = some 16) := by show _ = _; kernel_rfl
theorem info_va : Hid ((Tryz.prog.info? 28).map (·.size) = some 2) := by show _ = _; kernel_rfl
theorem one_16 (r : Sp) (x y : Value) (hx : x.oneCell' = true) (hy : y.oneCell' = true) : (spC r x y).toArray.all (·.oneCell') = true := by
 refine all_oneCell_toArray fun v hv => ?_
 simp only [spC, List.mem_cons, List.not_mem_nil, or_false] at hv
 rcases hv with rfl | rfl | rfl | rfl | rfl | rfl | rfl | rfl | rfl | rfl | rfl | rfl | rfl | rfl | rfl | rfl <;> first | rfl | assumption
theorem range_va {w : World} {b : Nat} {t : TypeId} {s : Sp} {x y : Value} (h : Block w b t (spC s x y)) : w.rangeAt b 12 (zV s.v) := h.range 12 _ (fun j v hj => by
 match j, hj with
 | 0, hj => exact hj
 | 1, hj => exact hj)
theorem run_appI {w : World} {B m c : Nat} {ap : Option Addr} {L : List Int} (h : step.Ins w ap L) (hm : L.length = m) (hn : m ≤ 1000000) (hB : B ≤ w.heap.size) :
  ∃ q w', (∀ (o : Oper) (a : Act) (x y : Operand), o.op = .call { callee := .builtin .append, args := #[x, y], argTypes := #[29, 29] } → o.type = 29 → a.eval x = .slice none 0 0 → a.eval y = .slice ap m c → (execOp a.eval o).run Tryz.prog w = .ok (.value q) w') ∧ w'.ownsRow B 3 1 q m (intV L) ∧ w.grownBy w' none := by
 obtain ⟨i0, hi, hz0, hz1, hz2⟩ := step.int_info_parts
 by_cases h0 : m = 0
 ·subst h0
  obtain rfl := List.eq_nil_of_length_eq_zero hm
  have hsrc : Src Tryz.prog i0.size 29 (.slice ap 0 c) 0 [] w := by
   cases ap with
   | none => exact Src.ofNil w Tryz.underlying29 c
   | some ad => exact Src.ofSlice w Tryz.underlying29 ad 0 c [] (by simp) (by simp) (by simp)
  have hrun := run_append_nothing w 29 29 29 3 i0 Tryz.underlying29 hi none 0 0 (Nat.le_refl _) _ hsrc
  refine ⟨_, w, fun o a x y ho hty hx hy => ?_, World.ownsRow_nil _ _ _ _, grown_refl _ _⟩
  unfold execOp
  simp [ho, hty, resolve, invoke, builtin, hx, hy, hrun, Result.andThen]
 ·rcases step.ints_news h with h1 | ⟨ad, rfl, hc⟩
  ·exact absurd (hm.symm.trans h1) h0
  ·obtain ⟨q, w', h2, h3, h4, _, _⟩ := run_append_own_at w B 29 29 3 i0 _ 1 8 Tryz.underlying29 hi hz0 hz1 hz2 (by simp [Value.cells]) (by omega) (.slice none 0 0) 0 [] (World.ownsRow_nil _ _ _ _) ad m c (intV L) (by rw [step.intV_length]; omega) hc (step.intV_one L) (by unfold maxLen; omega) (by omega) hB
   refine ⟨q, w', fun o a x y ho hty hx hy => ?_, by simpa using h3, h4⟩
   unfold execOp
   simp [ho, hty, resolve, invoke, builtin, hx, hy, h2, Result.andThen]
theorem grown_none {w w' : World} (h : w.grownBy w' none) : Below w.heap.size w w' := ⟨h.os, h.tape, h.output, h.size, fun k hk => h.block k hk (by simp)⟩
end Go.Proofs.YtaciegkblklokaaGreat.pair
namespace Go.Proofs.YtaciegkblklokaaGreat.plan
open Go Go.RowKit
section
variable {P : Program} {md : Region.Mode} {Q : Exit → Act → World → Prop} {l : List Oper}
theorem readsS {S : World → Prop} {f : Nat} {listed : Array Bool} {a : Act} {w : World} (iB iC dB dC : Nat) (oB oC : Oper) (vB vC : Value)
  (hi : iB ≠ iC) (hd : dB ≠ dC) (lB : l[iB]? = some oB) (lC : l[iC]? = some oC) (sB : oB.dst = some dB) (sC : oC.dst = some dC)
  (eB : (execOp a.eval oB).run P w = .ok (.value vB) w) (eB' : (execOp (a.put (some dC) vC).eval oB).run P w = .ok (.value vB) w)
  (eC : (execOp a.eval oC).run P w = .ok (.value vC) w) (eC' : (execOp (a.put (some dB) vB).eval oC).run P w = .ok (.value vC) w) (hS : S w)
  (h : wpAnyH P md l.toArray (NoPanic Q) S f ((listed.setIfInBounds iB true).setIfInBounds iC true) ((a.put (some dB) vB).put (some dC) vC) w) (r0 : Region.ready md l.toArray listed = [iB, iC] := by kernel_rfl) (rB : Region.ready md l.toArray (listed.setIfInBounds iB true) = [iC] := by kernel_rfl) (rC : Region.ready md l.toArray (listed.setIfInBounds iC true) = [iB] := by kernel_rfl) (wB : Region.wanted oB (yielded l.toArray a.tmps) = true := by kernel_rfl) (wC : Region.wanted oC (yielded l.toArray a.tmps) = true := by kernel_rfl) (wB' : Region.wanted oB (yielded l.toArray (a.put (some dC) vC).tmps) = true := by kernel_rfl) (wC' : Region.wanted oC (yielded l.toArray (a.put (some dB) vB).tmps) = true := by kernel_rfl) :
  wpAnyH P md l.toArray (NoPanic Q) S (f + 2) listed a w := by
 refine wpAnyH_all r0 (by simp) fun i hm => ?_
 have hm' : i = iB ∨ i = iC := by simpa using hm
 rcases hm' with rfl | rfl
 ·have hi' : l.toArray[i]? = some oB := by simpa using lB
  unfold wpOp
  simp only [hi', wB, if_true, Oper.wp, eB, Oper.upon]
  refine .inl ⟨hS, ?_⟩
  rw [sB]
  refine wpAnyH_all rB (by simp) fun j hj => ?_
  obtain rfl : j = iC := by simpa using hj
  have hi' : l.toArray[j]? = some oC := by simpa using lC
  unfold wpOp
  simp only [hi', wC', if_true, Oper.wp, eC', Oper.upon]
  refine .inl ⟨hS, ?_⟩
  rw [sC]
  exact h
 ·have hi' : l.toArray[i]? = some oC := by simpa using lC
  unfold wpOp
  simp only [hi', wC, if_true, Oper.wp, eC, Oper.upon]
  refine .inl ⟨hS, ?_⟩
  rw [sC]
  refine wpAnyH_all rC (by simp) fun j hj => ?_
  obtain rfl : j = iB := by simpa using hj
  have hi' : l.toArray[j]? = some oB := by simpa using lB
  unfold wpOp
  simp only [hi', wB', if_true, Oper.wp, eB', Oper.upon]
  refine .inl ⟨hS, ?_⟩
  rw [sB, put_comm _ dC dB _ _ hd.symm, Array.setIfInBounds_comm _ _ hi.symm]
  exact h
theorem halt {P : Program} {Q : Exit → Act → World → Prop} {ops : Array Oper} {rest : List Oper} {op : Oper} {a : Act} {w : World} (ty t : TypeId) (k : Tmp) (c : Value) (ho : op.op = .binOp .eql ty (.tmp k) (.const c) t) (h : Hid (wpList P ops Q (op :: rest) a w)) : wpList P ops Q (op :: rest) a w := h
theorem cont6 {a b c d e f : Type} {F R : a → b → c → d → e → f → Prop} {G : Prop} (h1 : (∀ u v w x y z, F u v w x y z → R u v w x y z) → G) (h2 : ∀ u v w x y z, F u v w x y z → R u v w x y z) : G := h1 h2
theorem cont {α β : Type} {F R : α → β → Prop} {G : Prop} (h1 : (∀ x y, F x y → R x y) → G) (h2 : ∀ x y, F x y → R x y) : G := h1 h2
end
end Go.Proofs.YtaciegkblklokaaGreat.plan
