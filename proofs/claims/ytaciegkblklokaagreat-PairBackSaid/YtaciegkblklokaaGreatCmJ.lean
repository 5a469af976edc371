/- Contracts and lemmas that the claims of this seat share: TypingApplied, FormOwn. Each says its own conditions. -/
import Derived.Test.YtaciegkblklokaaGreatCmI
import Derived.Test.YtaciegkblklokaaGreatCmH
set_option linter.unusedVariables false
namespace Go.Proofs.YtaciegkblklokaaGreat.typing
open Go.RowKit Go.Proofs.YtaciegkblklokaaGreat.schema Go.Proofs.YtaciegkblklokaaGreat.rows
open Go.Proofs.YtaciegkblklokaaGreat.field (Gives newB gives_from)
theorem fmV_take (L : List Fm) (i : Nat) : (fmV L).take (i * 2) = fmV (L.take i) := by
 by_cases h : i ≤ L.length
 ·conv => lhs; rw [← List.take_append_drop i L, fmV_append]
  exact List.take_left' (by rw [fmV_length, List.length_take, Nat.min_eq_left h])
 ·rw [List.take_of_length_le (by rw [fmV_length]; omega), List.take_of_length_le (by omega)]
theorem fmV_drop (L : List Fm) (i : Nat) : (fmV L).drop (i * 2) = fmV (L.drop i) := by
 by_cases h : i ≤ L.length
 ·conv => lhs; rw [← List.take_append_drop i L, fmV_append]
  exact List.drop_left' (by rw [fmV_length, List.length_take, Nat.min_eq_left h])
 ·rw [List.drop_of_length_le (by rw [fmV_length]; omega), List.drop_of_length_le (by omega)]; rfl
structure Ap (T B0 : Nat) (K : List Value) (v : Int) (u : Value) (n : Nat) (G : List Fm) (w w2 : World) : Prop where
 k0 : Block w2 B0 77 K
 k1 : Block w2 (B0 + 1) 24 [.int .i64 v, u]
 k2 : Block w2 (B0 + 1 + 1) 24 [.int .i64 0, .slice none 0 0]
 row : w2.ownsRow T 58 2 u n (fmV G)
 each : ∀ p ∈ G, OwnM T w2 p
 below : Below B0 w w2
 low : B0 + 3 ≤ T ∧ T ≤ w2.heap.size
variable {T B0 n : Nat} {K : List Value} {v : Int} {u : Value} {G : List Fm} {w w2 w3 : World}
theorem Ap.len (h : Ap T B0 K v u n G w w2) : n = G.length := by
 have := h.row.1
 rw [fmV_length] at this
 omega
theorem Ap.later (h : Ap T B0 K v u n G w w2) (hb : Below w2.heap.size w2 w3) : Ap T B0 K v u n G w w3 :=
 ⟨h.k0.later hb, h.k1.later hb, h.k2.later hb, ownsRow_later h.row hb, fun p hp => ownsRow_later (h.each p hp) hb, h.below.trans (hb.mono (by have := h.low; omega)), ⟨h.low.1, Nat.le_trans h.low.2 hb.size⟩⟩
theorem Ap.put {m : Nat} {u' : Value} {G' : List Fm} (h : Ap T B0 K v u n G w w2) (hg : w2.grownBy w3 u.ownBlock) (ho : w3.ownsRow T 58 2 u' m (fmV G')) (hG : ∀ p ∈ G', OwnM T w2 p) : Ap T B0 K v u' m G' w (w3.setCell ⟨B0 + 1, 1, none⟩ u') := by
 have hlt := fun j hj => World.ownsRow.lt h.row j hj
 have hl := h.low
 have hbk : ∀ j, j < T → w3.heap[j]? = w2.heap[j]? := fun j hj => hg.block j (by omega) (fun e => by have := hlt j e.symm; omega)
 have e0 : Block w3 B0 77 K := (hbk B0 (by omega)).trans h.k0
 have e1 : Block w3 (B0 + 1) 24 [.int .i64 v, u] := (hbk _ (by omega)).trans h.k1
 have e2 : Block w3 (B0 + 1 + 1) 24 [.int .i64 0, .slice none 0 0] := (hbk _ (by omega)).trans h.k2
 have hsy := stay_grown 26 h.row hg fd_fm
 refine ⟨e0.apart _ _ _ (by omega), e1.setCell 1 u', e2.apart _ _ _ (by omega), own_past' ho (by omega), fun p hp => own_past' (hsy.row (hG p hp)) (by omega), ?_, ⟨h.low.1, Nat.le_trans h.low.2 (by simpa using hg.size)⟩⟩
 exact below_setCells (h.below.grown hg (by omega) (fun j hj => by have := hlt j hj; omega)) (by omega) 1 [u']
theorem Ap.hold (h : Ap T B0 K v u n G w w2) (hg : w2.grownBy w3 u.ownBlock) : Block w3 (B0 + 1) 24 [.int .i64 v, u] := by
 have hl := h.low
 exact (hg.block _ (by omega) (fun e => by have := World.ownsRow.lt h.row _ e.symm; omega)).trans h.k1
theorem Ap.done (h : Ap T B0 K v u n G w w2) (hw : w.heap.size = B0) : ClonedAs v (forms G) w (.returned (.agg #[.int .i64 v, u])) ((w2.setCell ⟨B0 + 1 + 1, 0, none⟩ (.int .i64 v)).setCell ⟨B0 + 1 + 1, 1, none⟩ u) := by
 have hl := h.low
 refine ⟨u, G, rfl, ?_, fun p hp => ?_, rfl, ?_⟩
 ·rw [hw, ← h.len]
  exact own_low (own_past' (own_past' h.row (by omega)) (by omega)) (by omega)
 ·rw [hw]
  exact own_low (own_past' (own_past' (h.each p hp) (by omega)) (by omega)) (by omega)
 ·rw [hw]
  exact below_setCells (below_setCells h.below (by omega) 0 [_]) (by omega) 1 [_]
theorem exec_indexM' {o : Oper} {a : Act} {w : World} {x y : Operand} {b off len cap i : Nat} (ho : o.op = .indexAddr 22 x y) (hi : i < len) (hx : a.eval x = .slice (some ⟨b, off, none⟩) len cap := by kernel_rfl) (hy : a.eval y = .int .i64 (i : Int) := by kernel_rfl) :
  (execOp a.eval o).run Tryz.prog w = .ok (.value (.pointer (some ⟨b, off + i * 2, none⟩))) w := by
 unfold execOp
 rw [ho]
 simp only [hx, hy]
 go_simp
theorem exec_put_fm' {o : Oper} {a : Act} {w : World} {x y : Operand} {ad : Addr} {v : Value} {p : Option Addr} {n c : Nat} (ho : o.op = .store 22 x y) (hx : a.eval x = .pointer (some ad)) (hy : a.eval y = .slice p n c) (hc : w.cell? ad = some v) (hf : w.frozen? ad = false) : (execOp a.eval o).run Tryz.prog w = .ok .skip (w.setCell ad (.slice p n c)) := by
 unfold execOp
 rw [ho]
 simp only [hx, hy]
 go_simp
theorem Ap.set {g cap P : Nat} {p q : Fm} (h : Ap T B0 K v (.slice (some ⟨g, 0, none⟩) n cap) n G w w2) (hp : G[P]? = some p) (hq : q.id = p.id) (ho : OwnM T w2 q) :
  Ap T B0 K v (.slice (some ⟨g, 0, none⟩) n cap) n (G.set P q) w (w2.setCell ⟨g, P * 2 + 1, none⟩ (.slice q.f q.fL.length q.fCap)) := by
 have hg := World.ownsRow.lt h.row g rfl
 have hl := h.low
 have hst := h.row.stored (P * 2 + 1) (.slice q.f q.fL.length q.fCap)
 rw [fmV_set G P p q _ hp hq rfl] at hst
 have hsy : StayT 26 w2 (w2.setCell ⟨g, P * 2 + 1, none⟩ (.slice q.f q.fL.length q.fCap)) := by
  rcases h.row.2 with ⟨hv, _⟩ | ⟨g', cap', cur, hv, _, hh, _⟩
  ·cases hv
  ·cases hv
   exact stay_store 26 (g := g) (t := 58) (cs := cur.toList) (by show _ = _; simpa using hh) fd_fm _ _
 refine ⟨h.k0.apart _ _ _ (by omega), h.k1.apart _ _ _ (by omega), h.k2.apart _ _ _ (by omega), hst.1, fun r hr => ?_, below_setCells h.below (by omega) _ [_], ⟨hl.1, by simpa using hl.2⟩⟩
 rcases List.mem_or_eq_of_mem_set hr with h1 | rfl
 ·exact hsy.row (h.each r h1)
 ·exact hsy.row ho
theorem forms_take' (G : List Fm) (i : Nat) : forms (G.take i) = (forms G).take i := by unfold forms; rw [List.map_take]
theorem forms_drop' (G : List Fm) (i : Nat) : forms (G.drop i) = (forms G).drop i := by unfold forms; rw [List.map_drop]
theorem forms_append (A D : List Fm) : forms (A ++ D) = forms A ++ forms D := by unfold forms; rw [List.map_append]
set_option maxRecDepth 20000 in
set_option maxHeartbeats 3200000 in
theorem applied_end (c : Ch) (ta : Option Addr) (tc : Nat) (la : Option Addr) (lc : Nat) (fa : Option Addr) (fc : Nat) (w : World) (v : Int) (a : Option Addr) (cc : Nat) (F : List Fm) (hm : Fms w a F) (hF : Small w F) (hs : Sorted (forms F)) (h10 : c.s.op = 10) (hk : named (forms F) c.s.fm ≠ none) :
  Calls Tryz.prog 39 #[zH c ta tc la lc fa fc, zS v a F.length cc] w (ClonedAs v (applied (forms F) c) w) := by
 have hbw : Below w.heap.size w ((((w.alloc (.cells (zH c ta tc la lc fa fc) 77))).alloc (.cells (zS v a F.length cc) 24)).alloc (.cells #[.int .i64 0, .slice none 0 0] 24)) := by
  have h1 := newB w (.cells (zH c ta tc la lc fa fc) 77)
  have h2 := h1.alloc h1.size (.cells (zS v a F.length cc) 24)
  exact h2.alloc h2.size _
 have hsz : (((((w.alloc (.cells (zH c ta tc la lc fa fc) 77))).alloc (.cells (zS v a F.length cc) 24)).alloc (.cells #[.int .i64 0, .slice none 0 0] 24))).heap.size = w.heap.size + 3 := by simp
 have HX : Hid (∀ w', Below (((((w.alloc (.cells (zH c ta tc la lc fa fc) 77))).alloc (.cells (zS v a F.length cc) 24)).alloc (.cells #[.int .i64 0, .slice none 0 0] 24))).heap.size ((((w.alloc (.cells (zH c ta tc la lc fa fc) 77))).alloc (.cells (zS v a F.length cc) 24)).alloc (.cells #[.int .i64 0, .slice none 0 0] 24)) w' → Block w' w.heap.size 77 (zH c ta tc la lc fa fc) ∧ Block w' (w.heap.size + 1) 24 (zS v a F.length cc) ∧ Block w' (w.heap.size + 1 + 1) 24 [.int .i64 0, .slice none 0 0] ∧ Below w.heap.size w w') := hid (fun w' hb => by
  refine ⟨(((Block.new w _ _).alloc _).alloc _).later hb, Block.later (w := ((((w.alloc (.cells (zH c ta tc la lc fa fc) 77))).alloc (.cells (zS v a F.length cc) 24)).alloc (.cells #[.int .i64 0, .slice none 0 0] 24))) ?_ hb, Block.later (w := ((((w.alloc (.cells (zH c ta tc la lc fa fc) 77))).alloc (.cells (zS v a F.length cc) 24)).alloc (.cells #[.int .i64 0, .slice none 0 0] 24))) ?_ hb, hbw.trans (hb.mono (by omega))⟩
  ·have := (Block.new ((w.alloc (.cells (zH c ta tc la lc fa fc) 77))) 24 (zS v a F.length cc)).alloc (.cells #[.int .i64 0, .slice none 0 0] 24)
   simpa using this
  ·have := Block.new (((w.alloc (.cells (zH c ta tc la lc fa fc) 77))).alloc (.cells (zS v a F.length cc) 24)) 24 [.int .i64 0, .slice none 0 0]
   simpa using this)
 have cCl := cloned_any v a cc F ((((w.alloc (.cells (zH c ta tc la lc fa fc) 77))).alloc (.cells (zS v a F.length cc) 24)).alloc (.cells #[.int .i64 0, .slice none 0 0] 24)) (hm.below hbw) (hF.below hbw)
 unfold ClonedAs at cCl
 have h40 := hF.1
 have HAP : Hid (∀ (w1 : World) (x : Option Addr) (xc : Nat) (G : List Fm), Below (((((w.alloc (.cells (zH c ta tc la lc fa fc) 77))).alloc (.cells (zS v a F.length cc) 24)).alloc (.cells #[.int .i64 0, .slice none 0 0] 24))).heap.size ((((w.alloc (.cells (zH c ta tc la lc fa fc) 77))).alloc (.cells (zS v a F.length cc) 24)).alloc (.cells #[.int .i64 0, .slice none 0 0] 24)) w1 → w1.ownsRow (((((w.alloc (.cells (zH c ta tc la lc fa fc) 77))).alloc (.cells (zS v a F.length cc) 24)).alloc (.cells #[.int .i64 0, .slice none 0 0] 24))).heap.size 58 2 (.slice x G.length xc) G.length (fmV G) → (∀ p ∈ G, OwnM (((((w.alloc (.cells (zH c ta tc la lc fa fc) 77))).alloc (.cells (zS v a F.length cc) 24)).alloc (.cells #[.int .i64 0, .slice none 0 0] 24))).heap.size w1 p) →
   Ap (w.heap.size + 3) w.heap.size (zH c ta tc la lc fa fc) v (.slice x G.length xc) G.length G w ((w1.setCell ⟨w.heap.size + 1, 0, none⟩ (.int .i64 v)).setCell ⟨w.heap.size + 1, 1, none⟩ (.slice x G.length xc))) := hid (fun w1 x xc G hb ho he => by
  obtain ⟨e0, e1, e2, e3⟩ := HX.out w1 hb
  rw [hsz] at ho he
  refine ⟨(e0.apart _ _ _ (by omega)).apart _ _ _ (by omega), (e1.setCell 0 (.int .i64 v)).setCell 1 (.slice x G.length xc), (e2.apart _ _ _ (by omega)).apart _ _ _ (by omega), own_past' (own_past' ho (by omega)) (by omega), fun p hp => own_past' (own_past' (he p hp) (by omega)) (by omega), ?_, ?_⟩
  ·exact below_setCells (below_setCells e3 (by omega) 0 [_]) (by omega) 1 [_]
  ·have := hb.size
   rw [hsz] at this
   simpa using this)
 have HS := hid hs
 have HF40 := hid h40
 clear hbw hsz hm hs h40
 have d9 := bf (show ¬ c.s.op = 9 by omega)
 have d10 := bt h10
 have hlt : pos (forms F) c.s.fm < F.length := by
  obtain ⟨p, hp⟩ := Option.ne_none_iff_exists'.1 hk
  obtain ⟨h1, h2⟩ := named_some hp
  have := pos_at HS.out h1
  rw [h2] at this
  have := (List.getElem?_eq_some_iff.1 this).1
  rwa [forms_length] at this
 have hap : applied (forms F) c = (forms F).take (pos (forms F) c.s.fm) ++ (forms F).drop (pos (forms F) c.s.fm + 1) := by unfold applied; rw [if_neg (by omega), if_pos h10]
 rw [hap]
 clear h10 hk hap
 obtain ⟨P, hP⟩ : ∃ P, Hid (pos (forms F) c.s.fm = P) := ⟨_, rfl⟩
 rw [hP.out] at hlt ⊢
 obtain ⟨N, hN⟩ : ∃ N, Hid (F.length = N + 1) := ⟨F.length - 1, hid (by omega)⟩
 have hPN : P ≤ N := by have := hN.out; omega
 have hN40 : N ≤ 40 := by have := hN.out; have := HF40.out; omega
 have hPi : (P : Int) ≤ 40 := by omega
 have n1 : w.heap.size ≠ w.heap.size + 1 := by omega
 have n2 : w.heap.size + 1 ≠ w.heap.size + 1 + 1 := by omega
 clear hlt
 go_enter Tryz.func39, Tryz.ntmps39
 go_wp2_with (first
   | (go_at_call 64; ((with_reducible refine cCl.mono ?_); rintro e w1 ⟨u, G, rfl, hou, heach, heq, hb1⟩; obtain ⟨x, xc, rfl, hxc⟩ := ownsRow_slice hou; obtain ⟨b0, b1, b2, hbo⟩ := HX.out w1 hb1; have y1 := b0.cell 1; have y10 := b1.cell 0; have y11 := b1.cell 1; have f10 := b1.frozen 0; have f11 := b1.frozen 1; have HAP1 := hid (HAP.out w1 x xc G hb1 hou heach); have HEQ := hid heq; have cSe := search_any x xc G c.s.fm _ (own_fms HAP1.out.row).1 (by have := congrArg List.length heq; rw [forms_length, forms_length] at this; have := HF40.out; omega) (by rw [heq]; exact HS.out); rw [heq, hP.out] at cSe; clear hou heach heq hb1 b0 b1 b2 hbo))
   | (go_at_call 65; ((with_reducible refine cSe.mono ?_); rintro e w2 ⟨b, rfl, hb2⟩; have HA2 := hid (HAP1.out.later hb2); have z10 := HA2.out.k1.cell 0; have z11 := HA2.out.k1.cell 1; have zop := HA2.out.k0.cell 0; have g11 := HA2.out.k1.frozen 1; have q20 := HA2.out.k2.cell 0; have q21 := HA2.out.k2.cell 1; have r20 := HA2.out.k2.frozen 0; have r21 := HA2.out.k2.frozen 1; clear hb2))
   | (go_at_call 70; (have hGl : G.length = N + 1 := (by have := congrArg List.length HEQ.out; rw [forms_length, forms_length, hN.out] at this; exact this)); (have cD := deleteM_any (w.heap.size + 3) N P (.slice x G.length xc) (fmV G) w2 (by rw [← hGl]; exact HA2.out.row) (by omega) (fmV_one G) (by omega)); unfold LessM at cD; ((with_reducible refine cD.mono ?_); rintro e w3 ⟨v3, rfl, ho3, hg3, hob⟩; obtain ⟨x3, xc3, rfl, hx3⟩ := ownsRow_slice ho3; rw [fmV_take, fmV_drop, ← fmV_append] at ho3; have hh := HA2.out.hold hg3; have p11 := hh.cell 1; have g11' := hh.frozen 1; have HA5 := hid (HA2.out.put hg3 ho3 (fun p hp => HA2.out.each p ((List.mem_append.1 hp).elim (fun h => List.mem_of_mem_take h) (fun h => List.mem_of_mem_drop h)))); have z10 := HA5.out.k1.cell 0; have z11 := HA5.out.k1.cell 1; have q20 := HA5.out.k2.cell 0; have q21 := HA5.out.k2.cell 1; have r20 := HA5.out.k2.frozen 0; have r21 := HA5.out.k2.frozen 1; clear ho3 hg3 hob hh hGl)))
 have hR := (HA5.out.k2.setCell 0 (.int .i64 v)).setCell 1 (.slice x3 N xc3)
 refine bodyPost_ret (results_cell (b := w.heap.size + 1 + 1) (o := 0) rfl rfl hR.whole Tryz.underlying24 rfl (sc_info2 _ _)) rfl ?_
 have hd := HA5.out.done rfl
 rw [forms_append, forms_take', forms_drop', HEQ.out] at hd
 exact hd
set_option maxRecDepth 20000 in
set_option maxHeartbeats 3200000 in
theorem applied_other (c : Ch) (ta : Option Addr) (tc : Nat) (la : Option Addr) (lc : Nat) (fa : Option Addr) (fc : Nat) (w : World) (v : Int) (a : Option Addr) (cc : Nat) (F : List Fm) (hm : Fms w a F) (hF : Small w F) (hs : Sorted (forms F)) (h9 : ¬ c.s.op = 9) (h10 : ¬ c.s.op = 10) (p0 : schema.Form) (hk : named (forms F) c.s.fm = some p0) (hfa : field.Fds w fa c.L) (hL : c.L.length ≤ 40) (hp : Places c) (hb4 : c.s.op = 4 → Bd c) (hb6 : c.s.op = 6 → Bq c) :
  Calls Tryz.prog 39 #[zH c ta tc la lc fa fc, zS v a F.length cc] w (ClonedAs v (applied (forms F) c) w) := by
 have hbw : Below w.heap.size w ((((w.alloc (.cells (zH c ta tc la lc fa fc) 77))).alloc (.cells (zS v a F.length cc) 24)).alloc (.cells #[.int .i64 0, .slice none 0 0] 24)) := by
  have h1 := newB w (.cells (zH c ta tc la lc fa fc) 77)
  have h2 := h1.alloc h1.size (.cells (zS v a F.length cc) 24)
  exact h2.alloc h2.size _
 have hsz : (((((w.alloc (.cells (zH c ta tc la lc fa fc) 77))).alloc (.cells (zS v a F.length cc) 24)).alloc (.cells #[.int .i64 0, .slice none 0 0] 24))).heap.size = w.heap.size + 3 := by simp
 have HX : Hid (∀ w', Below (((((w.alloc (.cells (zH c ta tc la lc fa fc) 77))).alloc (.cells (zS v a F.length cc) 24)).alloc (.cells #[.int .i64 0, .slice none 0 0] 24))).heap.size ((((w.alloc (.cells (zH c ta tc la lc fa fc) 77))).alloc (.cells (zS v a F.length cc) 24)).alloc (.cells #[.int .i64 0, .slice none 0 0] 24)) w' → Block w' w.heap.size 77 (zH c ta tc la lc fa fc) ∧ Block w' (w.heap.size + 1) 24 (zS v a F.length cc) ∧ Block w' (w.heap.size + 1 + 1) 24 [.int .i64 0, .slice none 0 0] ∧ Below w.heap.size w w') := hid (fun w' hb => by
  refine ⟨(((Block.new w _ _).alloc _).alloc _).later hb, Block.later (w := ((((w.alloc (.cells (zH c ta tc la lc fa fc) 77))).alloc (.cells (zS v a F.length cc) 24)).alloc (.cells #[.int .i64 0, .slice none 0 0] 24))) ?_ hb, Block.later (w := ((((w.alloc (.cells (zH c ta tc la lc fa fc) 77))).alloc (.cells (zS v a F.length cc) 24)).alloc (.cells #[.int .i64 0, .slice none 0 0] 24))) ?_ hb, hbw.trans (hb.mono (by omega))⟩
  ·have := (Block.new ((w.alloc (.cells (zH c ta tc la lc fa fc) 77))) 24 (zS v a F.length cc)).alloc (.cells #[.int .i64 0, .slice none 0 0] 24)
   simpa using this
  ·have := Block.new (((w.alloc (.cells (zH c ta tc la lc fa fc) 77))).alloc (.cells (zS v a F.length cc) 24)) 24 [.int .i64 0, .slice none 0 0]
   simpa using this)
 have cCl := cloned_any v a cc F ((((w.alloc (.cells (zH c ta tc la lc fa fc) 77))).alloc (.cells (zS v a F.length cc) 24)).alloc (.cells #[.int .i64 0, .slice none 0 0] 24)) (hm.below hbw) (hF.below hbw)
 unfold ClonedAs at cCl
 have h40 := hF.1
 have HAP : Hid (∀ (w1 : World) (x : Option Addr) (xc : Nat) (G : List Fm), Below (((((w.alloc (.cells (zH c ta tc la lc fa fc) 77))).alloc (.cells (zS v a F.length cc) 24)).alloc (.cells #[.int .i64 0, .slice none 0 0] 24))).heap.size ((((w.alloc (.cells (zH c ta tc la lc fa fc) 77))).alloc (.cells (zS v a F.length cc) 24)).alloc (.cells #[.int .i64 0, .slice none 0 0] 24)) w1 → w1.ownsRow (((((w.alloc (.cells (zH c ta tc la lc fa fc) 77))).alloc (.cells (zS v a F.length cc) 24)).alloc (.cells #[.int .i64 0, .slice none 0 0] 24))).heap.size 58 2 (.slice x G.length xc) G.length (fmV G) → (∀ p ∈ G, OwnM (((((w.alloc (.cells (zH c ta tc la lc fa fc) 77))).alloc (.cells (zS v a F.length cc) 24)).alloc (.cells #[.int .i64 0, .slice none 0 0] 24))).heap.size w1 p) →
   Ap (w.heap.size + 3) w.heap.size (zH c ta tc la lc fa fc) v (.slice x G.length xc) G.length G w ((w1.setCell ⟨w.heap.size + 1, 0, none⟩ (.int .i64 v)).setCell ⟨w.heap.size + 1, 1, none⟩ (.slice x G.length xc))) := hid (fun w1 x xc G hb ho he => by
  obtain ⟨e0, e1, e2, e3⟩ := HX.out w1 hb
  rw [hsz] at ho he
  refine ⟨(e0.apart _ _ _ (by omega)).apart _ _ _ (by omega), (e1.setCell 0 (.int .i64 v)).setCell 1 (.slice x G.length xc), (e2.apart _ _ _ (by omega)).apart _ _ _ (by omega), own_past' (own_past' ho (by omega)) (by omega), fun p hp => own_past' (own_past' (he p hp) (by omega)) (by omega), ?_, ?_⟩
  ·exact below_setCells (below_setCells e3 (by omega) 0 [_]) (by omega) 1 [_]
  ·have := hb.size
   rw [hsz] at this
   simpa using this)
 have HS := hid hs
 have HF40 := hid h40
 clear hbw hsz hm hs h40
 have d9 := bf h9
 have d10 := bf h10
 have hat : (forms F)[pos (forms F) c.s.fm]? = some p0 := by
  obtain ⟨h1, h2⟩ := named_some hk
  have := pos_at HS.out h1
  rwa [h2] at this
 have hlt : pos (forms F) c.s.fm < F.length := by
  have := (List.getElem?_eq_some_iff.1 hat).1
  rwa [forms_length] at this
 have hap : applied (forms F) c = (forms F).set (pos (forms F) c.s.fm) (c.s.fm, fields c) := by unfold applied; rw [if_neg h9, if_neg h10, setF_at HS.out hk]
 rw [hap]
 have hp01 := (named_some hk).2
 clear h9 h10 hk hap
 obtain ⟨P, hP⟩ : ∃ P, Hid (pos (forms F) c.s.fm = P) := ⟨_, rfl⟩
 rw [hP.out] at hlt hat ⊢
 have HAT := hid hat
 have hPi : (P : Int) ≤ 40 := by have := HF40.out; omega
 have hPL : (P : Int) < F.length := by omega
 have n1 : w.heap.size ≠ w.heap.size + 1 := by omega
 have n2 : w.heap.size + 1 ≠ w.heap.size + 1 + 1 := by omega
 have cFl := fun (w' : World) (hb : Below w.heap.size w w') => fields_any c ta tc la lc fa fc w' (hfa.below hb) hL hp hb4 hb6
 unfold OwnsF at cFl
 clear hat hfa hp hb4 hb6
 obtain ⟨FL, hFL⟩ : ∃ FL, Hid (fields c = FL) := ⟨_, rfl⟩
 rw [hFL.out] at cFl ⊢
 go_enter Tryz.func39, Tryz.ntmps39
 go_wp2_with (first
   | (go_at_call 64; ((with_reducible refine cCl.mono ?_); rintro e w1 ⟨u, G, rfl, hou, heach, heq, hb1⟩; obtain ⟨x, xc, rfl, hxc⟩ := ownsRow_slice hou; obtain ⟨b0, b1, b2, hbo⟩ := HX.out w1 hb1; have y1 := b0.cell 1; have y10 := b1.cell 0; have y11 := b1.cell 1; have f10 := b1.frozen 0; have f11 := b1.frozen 1; have HAP1 := hid (HAP.out w1 x xc G hb1 hou heach); have HEQ := hid heq; have cSe := search_any x xc G c.s.fm _ (own_fms HAP1.out.row).1 (by have := congrArg List.length heq; rw [forms_length, forms_length] at this; have := HF40.out; omega) (by rw [heq]; exact HS.out); rw [heq, hP.out] at cSe; clear hou heach heq hb1 b0 b1 b2 hbo))
   | (go_at_call 65; ((with_reducible refine cSe.mono ?_); rintro e w2 ⟨b, rfl, hb2⟩; have HA2 := hid (HAP1.out.later hb2); have z10 := HA2.out.k1.cell 0; have z11 := HA2.out.k1.cell 1; have zop := HA2.out.k0.cell 0; have g11 := HA2.out.k1.frozen 1; have q20 := HA2.out.k2.cell 0; have q21 := HA2.out.k2.cell 1; have r20 := HA2.out.k2.frozen 0; have r21 := HA2.out.k2.frozen 1; clear hb2)))
 have hGl : G.length = F.length := by have := congrArg List.length HEQ.out; rwa [forms_length, forms_length] at this
 obtain ⟨g, rfl⟩ : ∃ g, x = some ⟨g, 0, none⟩ := by
  rcases HA2.out.row.2 with ⟨hv, h0⟩ | ⟨g, _, _, hv, _⟩
  ·omega
  ·cases hv; exact ⟨g, rfl⟩
 have hS : Block w2.drew w.heap.size 77 (zH c ta tc la lc fa fc) ∧ Block w2.drew (w.heap.size + 1) 24 (zS v (some ⟨g, 0, none⟩) G.length xc) := ⟨HA2.out.k0, HA2.out.k1⟩
 have hgT := (World.ownsRow.lt HA2.out.row g rfl).1
 refine plan.regionS (S := fun w' => Block w' w.heap.size 77 (zH c ta tc la lc fa fc) ∧ Block w' (w.heap.size + 1) 24 (zS v (some ⟨g, 0, none⟩) G.length xc)) ?_
 refine plan.firstS 0 _ (.pointer (some ⟨w.heap.size + 1, 1, none⟩)) rfl (fun w' hS' => (by kernel_rfl)) hS ?_
 refine plan.firstS 1 _ (.slice (some ⟨g, 0, none⟩) G.length xc) rfl (fun w' hS' => exec_cell_slice' (ad := ⟨w.heap.size + 1, 1, none⟩) rfl (hS'.2.cell 1) Tryz.isAgg22) hS ?_
 refine plan.firstS 2 _ (.int .i64 (P : Int)) rfl (fun w' hS' => (by kernel_rfl)) hS ?_
 refine plan.firstS 3 _ (zH c ta tc la lc fa fc) rfl (fun w' hS' => exec_load_at (b := w.heap.size) (off := 0) rfl hS'.1.whole Tryz.underlying77 rfl ch_info) hS ?_
 refine plan.callS 4 _ 71 #[zH c ta tc la lc fa fc] rfl ((cFl w2.drew (below_drew HA2.out.below)).mono ?_)
 rintro e w3 ⟨y, rfl, ho3, hb3⟩
 obtain ⟨ya, yc, rfl, _⟩ := ownsRow_slice ho3
 have hA3 := HA2.out.later (w3 := w3) ((below_drew (Below.refl _ _)).trans hb3)
 refine ⟨_, rfl, ⟨hA3.k0, hA3.k1⟩, ?_⟩
 obtain ⟨p, hp⟩ : ∃ p, G[P]? = some p := ⟨_, List.getElem?_eq_getElem (by omega)⟩
 have hpid : p.id = c.s.fm := by
  have := forms_at hp
  rw [HEQ.out, HAT.out] at this
  have := Option.some.inj this
  rw [← hp01, this]
  rfl
 have c1 : w3.cell? ⟨g, 0 + P * 2 + 1, none⟩ = some (.slice p.f p.fL.length p.fCap) := by
  have := hA3.row.cells (g := g) rfl (P * 2 + 1) _ (fmV_at G P p 1 hp (by omega))
  rwa [Addr.add_lit, ← Nat.add_assoc] at this
 have hfz : w3.frozen? ⟨g, 0 + P * 2 + 1, none⟩ = false := hA3.row.frozenAt _
 have hoq : OwnM (w.heap.size + 3) w3 ⟨c.s.fm, ya, yc, FL⟩ := own_low ho3 (by have := HA2.out.low; exact this.2)
 have hA5 := hA3.set (q := ⟨c.s.fm, ya, yc, FL⟩) hp hpid.symm hoq
 have hA5' : Ap (w.heap.size + 3) w.heap.size (zH c ta tc la lc fa fc) v (.slice (some ⟨g, 0, none⟩) G.length xc) G.length (G.set P ⟨c.s.fm, ya, yc, FL⟩) w (w3.setCell ⟨g, 0 + P * 2 + 1, none⟩ (.slice ya FL.length yc)) := by rw [Nat.zero_add]; exact hA5
 refine plan.oneS (w1 := w3) 5 _ (.pointer (some ⟨g, 0 + P * 2, none⟩)) rfl rfl (hv := (exec_indexM' (b := g) (off := 0) (len := G.length) (cap := xc) (i := P) rfl (by omega))) ⟨hA3.k0, hA3.k1⟩ ?_
 refine plan.oneS (w1 := w3) 6 _ (.pointer (some ⟨g, 0 + P * 2 + 1, none⟩)) rfl rfl ⟨hA3.k0, hA3.k1⟩ ?_
 obtain ⟨w5, hw5⟩ : ∃ w5, Hid (w3.setCell ⟨g, 0 + P * 2 + 1, none⟩ (.slice ya FL.length yc) = w5) := ⟨_, rfl⟩
 rw [hw5.out] at hA5'
 have hrun := fun (o : Oper) (act : Act) (q1 : o.op = .store 30 (.tmp 27) (.tmp 25)) (q2 : act.eval (.tmp 27) = .pointer (some ⟨g, 0 + P * 2 + 1, none⟩)) (q3 : act.eval (.tmp 25) = .slice ya FL.length yc) => exec_put_fd (o := o) (a := act) q1 (hx := q2) (hy := q3) c1 hfz
 rw [hw5.out] at hrun
 refine plan.lastS (w1 := w5) 7 _ rfl rfl rfl (hrun _ _ rfl (by kernel_rfl) (by kernel_rfl)) ⟨hA5'.k0, hA5'.k1⟩ ?_
 have HA5 := hid hA5'
 have HFE : Hid (forms (G.set P ⟨c.s.fm, ya, yc, FL⟩) = (forms F).set P (c.s.fm, FL)) := hid (by unfold forms; rw [List.map_set]; show (forms G).set P _ = _; rw [HEQ.out]; rfl)
 clear hA5 hA5' hA3 hoq c1 hfz hp hS ho3 hb3 cFl hrun hw5 hGl
 have z10 := HA5.out.k1.cell 0
 have z11 := HA5.out.k1.cell 1
 have q20 := HA5.out.k2.cell 0
 have q21 := HA5.out.k2.cell 1
 have r20 := HA5.out.k2.frozen 0
 have r21 := HA5.out.k2.frozen 1
 walk_nrm
 go_wp2
 have hR := (HA5.out.k2.setCell 0 (.int .i64 v)).setCell 1 (.slice (some ⟨g, 0, none⟩) G.length xc)
 refine bodyPost_ret (results_cell (b := w.heap.size + 1 + 1) (o := 0) rfl rfl hR.whole Tryz.underlying24 rfl (sc_info2 _ _)) rfl ?_
 have hd := HA5.out.done rfl
 rw [HFE.out] at hd
 exact hd
set_option maxRecDepth 20000 in
set_option maxHeartbeats 3200000 in
theorem applied_form (c : Ch) (ta : Option Addr) (tc : Nat) (la : Option Addr) (lc : Nat) (fa : Option Addr) (fc : Nat) (w : World) (v : Int) (a : Option Addr) (cc : Nat) (F : List Fm) (hm : Fms w a F) (hF : Small w F) (hs : Sorted (forms F)) (h9 : c.s.op = 9) (hla : field.Fds w la c.s.l) (hL : c.s.l.length ≤ 40) :
  Calls Tryz.prog 39 #[zH c ta tc la lc fa fc, zS v a F.length cc] w (ClonedAs v (applied (forms F) c) w) := by
 have hbw : Below w.heap.size w ((((w.alloc (.cells (zH c ta tc la lc fa fc) 77))).alloc (.cells (zS v a F.length cc) 24)).alloc (.cells #[.int .i64 0, .slice none 0 0] 24)) := by
  have h1 := newB w (.cells (zH c ta tc la lc fa fc) 77)
  have h2 := h1.alloc h1.size (.cells (zS v a F.length cc) 24)
  exact h2.alloc h2.size _
 have hsz : (((((w.alloc (.cells (zH c ta tc la lc fa fc) 77))).alloc (.cells (zS v a F.length cc) 24)).alloc (.cells #[.int .i64 0, .slice none 0 0] 24))).heap.size = w.heap.size + 3 := by simp
 have HX : Hid (∀ w', Below (((((w.alloc (.cells (zH c ta tc la lc fa fc) 77))).alloc (.cells (zS v a F.length cc) 24)).alloc (.cells #[.int .i64 0, .slice none 0 0] 24))).heap.size ((((w.alloc (.cells (zH c ta tc la lc fa fc) 77))).alloc (.cells (zS v a F.length cc) 24)).alloc (.cells #[.int .i64 0, .slice none 0 0] 24)) w' → Block w' w.heap.size 77 (zH c ta tc la lc fa fc) ∧ Block w' (w.heap.size + 1) 24 (zS v a F.length cc) ∧ Block w' (w.heap.size + 1 + 1) 24 [.int .i64 0, .slice none 0 0] ∧ Below w.heap.size w w') := hid (fun w' hb => by
  refine ⟨(((Block.new w _ _).alloc _).alloc _).later hb, Block.later (w := ((((w.alloc (.cells (zH c ta tc la lc fa fc) 77))).alloc (.cells (zS v a F.length cc) 24)).alloc (.cells #[.int .i64 0, .slice none 0 0] 24))) ?_ hb, Block.later (w := ((((w.alloc (.cells (zH c ta tc la lc fa fc) 77))).alloc (.cells (zS v a F.length cc) 24)).alloc (.cells #[.int .i64 0, .slice none 0 0] 24))) ?_ hb, hbw.trans (hb.mono (by omega))⟩
  ·have := (Block.new ((w.alloc (.cells (zH c ta tc la lc fa fc) 77))) 24 (zS v a F.length cc)).alloc (.cells #[.int .i64 0, .slice none 0 0] 24)
   simpa using this
  ·have := Block.new (((w.alloc (.cells (zH c ta tc la lc fa fc) 77))).alloc (.cells (zS v a F.length cc) 24)) 24 [.int .i64 0, .slice none 0 0]
   simpa using this)
 have cCl := cloned_any v a cc F ((((w.alloc (.cells (zH c ta tc la lc fa fc) 77))).alloc (.cells (zS v a F.length cc) 24)).alloc (.cells #[.int .i64 0, .slice none 0 0] 24)) (hm.below hbw) (hF.below hbw)
 unfold ClonedAs at cCl
 have h40 := hF.1
 have HAP : Hid (∀ (w1 : World) (x : Option Addr) (xc : Nat) (G : List Fm), Below (((((w.alloc (.cells (zH c ta tc la lc fa fc) 77))).alloc (.cells (zS v a F.length cc) 24)).alloc (.cells #[.int .i64 0, .slice none 0 0] 24))).heap.size ((((w.alloc (.cells (zH c ta tc la lc fa fc) 77))).alloc (.cells (zS v a F.length cc) 24)).alloc (.cells #[.int .i64 0, .slice none 0 0] 24)) w1 → w1.ownsRow (((((w.alloc (.cells (zH c ta tc la lc fa fc) 77))).alloc (.cells (zS v a F.length cc) 24)).alloc (.cells #[.int .i64 0, .slice none 0 0] 24))).heap.size 58 2 (.slice x G.length xc) G.length (fmV G) → (∀ p ∈ G, OwnM (((((w.alloc (.cells (zH c ta tc la lc fa fc) 77))).alloc (.cells (zS v a F.length cc) 24)).alloc (.cells #[.int .i64 0, .slice none 0 0] 24))).heap.size w1 p) →
   Ap (w.heap.size + 3) w.heap.size (zH c ta tc la lc fa fc) v (.slice x G.length xc) G.length G w ((w1.setCell ⟨w.heap.size + 1, 0, none⟩ (.int .i64 v)).setCell ⟨w.heap.size + 1, 1, none⟩ (.slice x G.length xc))) := hid (fun w1 x xc G hb ho he => by
  obtain ⟨e0, e1, e2, e3⟩ := HX.out w1 hb
  rw [hsz] at ho he
  refine ⟨(e0.apart _ _ _ (by omega)).apart _ _ _ (by omega), (e1.setCell 0 (.int .i64 v)).setCell 1 (.slice x G.length xc), (e2.apart _ _ _ (by omega)).apart _ _ _ (by omega), own_past' (own_past' ho (by omega)) (by omega), fun p hp => own_past' (own_past' (he p hp) (by omega)) (by omega), ?_, ?_⟩
  ·exact below_setCells (below_setCells e3 (by omega) 0 [_]) (by omega) 1 [_]
  ·have := hb.size
   rw [hsz] at this
   simpa using this)
 have HS := hid hs
 have HF40 := hid h40
 clear hbw hsz hm hs h40
 have d9 := bt h9
 have hle : pos (forms F) c.s.fm ≤ F.length := by have := pos_le (forms F) c.s.fm; rwa [forms_length] at this
 have hap : applied (forms F) c = (forms F).take (pos (forms F) c.s.fm) ++ ([(c.s.fm, c.s.l)] ++ (forms F).drop (pos (forms F) c.s.fm)) := by unfold applied; rw [if_pos h9]
 rw [hap]
 clear h9 hap
 obtain ⟨P, hP⟩ : ∃ P, Hid (pos (forms F) c.s.fm = P) := ⟨_, rfl⟩
 rw [hP.out] at hle ⊢
 have hPi : (P : Int) ≤ 40 := by have := HF40.out; omega
 have n1 : w.heap.size ≠ w.heap.size + 1 := by omega
 have n2 : w.heap.size + 1 ≠ w.heap.size + 1 + 1 := by omega
 have cC := fun (w' : World) (hb : Below w.heap.size w w') => cloneF_any la lc c.s.l w' (hla.below hb) (by omega)
 unfold OwnsF at cC
 clear hla
 go_enter Tryz.func39, Tryz.ntmps39
 go_wp2_with (first
   | (go_at_call 64; ((with_reducible refine cCl.mono ?_); rintro e w1 ⟨u, G, rfl, hou, heach, heq, hb1⟩; obtain ⟨x, xc, rfl, hxc⟩ := ownsRow_slice hou; obtain ⟨b0, b1, b2, hbo⟩ := HX.out w1 hb1; have y1 := b0.cell 1; have y10 := b1.cell 0; have y11 := b1.cell 1; have f10 := b1.frozen 0; have f11 := b1.frozen 1; have HAP1 := hid (HAP.out w1 x xc G hb1 hou heach); have HEQ := hid heq; have cSe := search_any x xc G c.s.fm _ (own_fms HAP1.out.row).1 (by have := congrArg List.length heq; rw [forms_length, forms_length] at this; have := HF40.out; omega) (by rw [heq]; exact HS.out); rw [heq, hP.out] at cSe; clear hou heach heq hb1 b0 b1 b2 hbo))
   | (go_at_call 65; ((with_reducible refine cSe.mono ?_); rintro e w2 ⟨b, rfl, hb2⟩; have HA2 := hid (HAP1.out.later hb2); have z10 := HA2.out.k1.cell 0; have z11 := HA2.out.k1.cell 1; have zop := HA2.out.k0.cell 0; have g11 := HA2.out.k1.frozen 1; have q20 := HA2.out.k2.cell 0; have q21 := HA2.out.k2.cell 1; have r20 := HA2.out.k2.frozen 0; have r21 := HA2.out.k2.frozen 1; clear hb2)))
 have hGl : G.length = F.length := by have := congrArg List.length HEQ.out; rwa [forms_length, forms_length] at this
 have hS : Block w2.drew w.heap.size 77 (zH c ta tc la lc fa fc) := HA2.out.k0
 have hA2 : Ap (w.heap.size + 3) w.heap.size (zH c ta tc la lc fa fc) v (.slice x G.length xc) G.length G w w2.drew := HA2.out.later (below_drew (Below.refl _ _))
 have HFE : Hid (∀ q : Fm, q.p = (c.s.fm, c.s.l) → forms (G.take P ++ ([q] ++ G.drop P)) = (forms F).take P ++ ([(c.s.fm, c.s.l)] ++ (forms F).drop P)) := hid (fun q hq => by
  rw [forms_append, forms_append, forms_take', forms_drop', HEQ.out]
  show _ ++ ([q.p] ++ _) = _
  rw [hq])
 refine plan.regionS (S := fun w' => Block w' w.heap.size 77 (zH c ta tc la lc fa fc)) ?_
 refine plan.firstS 0 _ (.pointer (some ⟨w.heap.size + 1, 1, none⟩)) rfl (fun w' hS' => (by kernel_rfl)) hS ?_
 refine plan.firstS 2 _ (.int .i64 (P : Int)) rfl (fun w' hS' => (by kernel_rfl)) hS ?_
 refine plan.firstS 3 _ (.pointer (some ⟨w.heap.size, 0, none⟩)) rfl (fun w' hS' => (by kernel_rfl)) hS ?_
 refine plan.firstS 4 _ (.pointer (some ⟨w.heap.size, 1, none⟩)) rfl (fun w' hS' => (by kernel_rfl)) hS ?_
 refine plan.firstS 5 _ (.int .i64 c.s.fm) rfl (fun w' hS' => exec_cell_int (ad := ⟨w.heap.size, 1, none⟩) rfl (by kernel_rfl) (hS'.cell 1) Tryz.isAgg3) hS ?_
 refine plan.firstS 6 _ (.pointer (some ⟨w.heap.size, 0, none⟩)) rfl (fun w' hS' => (by kernel_rfl)) hS ?_
 refine plan.firstS 7 _ (.pointer (some ⟨w.heap.size, 15, none⟩)) rfl (fun w' hS' => (by kernel_rfl)) hS ?_
 refine plan.firstS 8 _ (.slice la c.s.l.length lc) rfl (fun w' hS' => exec_cell_slice' (ad := ⟨w.heap.size, 15, none⟩) rfl (hS'.cell 15) Tryz.isAgg30) hS ?_
 refine bothS 1 9 ?_ ?_
 ·refine ⟨_, rfl, rfl, .inl ⟨.slice x G.length xc, w2.drew, exec_cell_slice' (ad := ⟨w.heap.size + 1, 1, none⟩) rfl (hA2.k1.cell 1) Tryz.isAgg22, hA2.k0, ?_⟩⟩
  refine plan.callS 9 _ 69 #[.slice la c.s.l.length lc] rfl ((cC w2.drew (below_drew HA2.out.below)).mono ?_)
  rintro e w3 ⟨y, rfl, ho3, hb3⟩
  obtain ⟨ya, yc, rfl, _⟩ := ownsRow_slice ho3
  have hA3 := hA2.later hb3
  refine ⟨_, rfl, hA3.k0, ?_⟩
  refine plan.oneS (w1 := w3) 10 _ (zS c.s.fm ya c.s.l.length yc) rfl rfl hA3.k0 ?_
  have hA4 := hA3.later (newB w3 (.cells (zS c.s.fm ya c.s.l.length yc) 58))
  refine plan.oneS (w1 := w3.alloc (.cells (zS c.s.fm ya c.s.l.length yc) 58)) 11 _ (.slice (some ⟨w3.heap.size, 0, none⟩) 1 1) rfl rfl hA4.k0 ?_
  have hq : OwnM (w.heap.size + 3) (w3.alloc (.cells (zS c.s.fm ya c.s.l.length yc) 58)) ⟨c.s.fm, ya, yc, c.s.l⟩ := (own_low ho3 (by have := hA2.low; exact this.2)).alloc _
  have cI := insertM_any (w.heap.size + 3) G.length P w3.heap.size 0 1 (fmC ⟨c.s.fm, ya, yc, c.s.l⟩) 58 (.slice x G.length xc) (fmV G) (fmC ⟨c.s.fm, ya, yc, c.s.l⟩) (w3.alloc (.cells (zS c.s.fm ya c.s.l.length yc) 58)) hA4.row hA4.low.2 (by omega) rfl (Block.new w3 _ _) (by simp [fmC]) (fun e => by have := (World.ownsRow.lt hA3.row _ e).2; omega) (fun j u hj => by rw [Nat.zero_add]; exact hj) (by intro u hu; simp [fmC] at hu; rcases hu with rfl | rfl <;> rfl) (fmV_one G) (by have := HF40.out; omega)
  unfold MadeM at cI
  refine plan.callS 12 _ 68 #[.slice x G.length xc, .int .i64 (P : Int), .slice (some ⟨w3.heap.size, 0, none⟩) 1 1] rfl (cI.mono ?_)
  rintro e w4 ⟨v4, rfl, ho4, hg4⟩
  obtain ⟨x4, xc4, rfl, _⟩ := ownsRow_slice ho4
  have ho4' : w4.ownsRow (w.heap.size + 3) 58 2 (.slice x4 (G.length + 1) xc4) (G.length + 1) (fmV (G.take P ++ ([⟨c.s.fm, ya, yc, c.s.l⟩] ++ G.drop P))) := by
   rw [fmV_append, fmV_append, ← fmV_take, ← fmV_drop]
   exact ho4
  have hh := hA4.hold hg4
  have hA5 := hA4.put hg4 ho4' (fun p hp => by
   rcases List.mem_append.1 hp with h | h
   ·exact hA4.each p (List.mem_of_mem_take h)
   ·rcases List.mem_append.1 h with h2 | h2
    ·rw [List.mem_singleton.1 h2]; exact hq
    ·exact hA4.each p (List.mem_of_mem_drop h2))
  have hk0 : Block w4 w.heap.size 77 (zH c ta tc la lc fa fc) := (hg4.block _ hA4.k0.lt (fun e => by have := (World.ownsRow.lt hA4.row _ e.symm).1; omega)).trans hA4.k0
  refine ⟨_, rfl, hk0, ?_⟩
  refine plan.oneS (w1 := w4) 13 _ (.pointer (some ⟨w.heap.size + 1, 1, none⟩)) rfl rfl hk0 ?_
  obtain ⟨w5, hw5⟩ : ∃ w5, Hid (w4.setCell ⟨w.heap.size + 1, 1, none⟩ (.slice x4 (G.length + 1) xc4) = w5) := ⟨_, rfl⟩
  rw [hw5.out] at hA5
  have hrun := fun (o : Oper) (act : Act) (q1 : o.op = .store 22 (.tmp 43) (.tmp 42)) (q2 : act.eval (.tmp 43) = .pointer (some ⟨w.heap.size + 1, 1, none⟩)) (q3 : act.eval (.tmp 42) = .slice x4 (G.length + 1) xc4) => exec_put_fm' (o := o) (a := act) q1 q2 q3 (hh.cell 1) (hh.frozen 1)
  rw [hw5.out] at hrun
  refine plan.lastS (w1 := w5) 14 _ rfl rfl rfl (hrun _ _ rfl (by kernel_rfl) (by kernel_rfl)) hA5.k0 ?_
  have HA5 := hid hA5
  clear hA5 hA4 hA3 hA2 hq cI ho4 ho4' hg4 hh hk0 hrun hw5 hGl ho3 hb3 hS cC
  have z10 := HA5.out.k1.cell 0
  have z11 := HA5.out.k1.cell 1
  have q20 := HA5.out.k2.cell 0
  have q21 := HA5.out.k2.cell 1
  have r20 := HA5.out.k2.frozen 0
  have r21 := HA5.out.k2.frozen 1
  walk_nrm
  go_wp2
  have hR := (HA5.out.k2.setCell 0 (.int .i64 v)).setCell 1 (.slice x4 (G.length + 1) xc4)
  refine bodyPost_ret (results_cell (b := w.heap.size + 1 + 1) (o := 0) rfl rfl hR.whole Tryz.underlying24 rfl (sc_info2 _ _)) rfl ?_
  have hd := HA5.out.done rfl
  rw [HFE.out _ rfl] at hd
  exact hd
 ·refine ⟨_, rfl, rfl, .inr ⟨69, #[.slice la c.s.l.length lc], by kernel_rfl, (cC w2.drew (below_drew HA2.out.below)).mono ?_⟩⟩
  rintro e w3 ⟨y, rfl, ho3, hb3⟩
  obtain ⟨ya, yc, rfl, _⟩ := ownsRow_slice ho3
  have hA3 := hA2.later hb3
  refine ⟨_, rfl, hA3.k0, ?_⟩
  refine bothS 1 10 ?_ ?_
  ·refine ⟨_, rfl, rfl, .inl ⟨.slice x G.length xc, w3, exec_cell_slice' (ad := ⟨w.heap.size + 1, 1, none⟩) rfl (hA3.k1.cell 1) Tryz.isAgg22, hA3.k0, ?_⟩⟩
   refine plan.oneS (w1 := w3) 10 _ (zS c.s.fm ya c.s.l.length yc) rfl rfl hA3.k0 ?_
   have hA4 := hA3.later (newB w3 (.cells (zS c.s.fm ya c.s.l.length yc) 58))
   refine plan.oneS (w1 := w3.alloc (.cells (zS c.s.fm ya c.s.l.length yc) 58)) 11 _ (.slice (some ⟨w3.heap.size, 0, none⟩) 1 1) rfl rfl hA4.k0 ?_
   have hq : OwnM (w.heap.size + 3) (w3.alloc (.cells (zS c.s.fm ya c.s.l.length yc) 58)) ⟨c.s.fm, ya, yc, c.s.l⟩ := (own_low ho3 (by have := hA2.low; exact this.2)).alloc _
   have cI := insertM_any (w.heap.size + 3) G.length P w3.heap.size 0 1 (fmC ⟨c.s.fm, ya, yc, c.s.l⟩) 58 (.slice x G.length xc) (fmV G) (fmC ⟨c.s.fm, ya, yc, c.s.l⟩) (w3.alloc (.cells (zS c.s.fm ya c.s.l.length yc) 58)) hA4.row hA4.low.2 (by omega) rfl (Block.new w3 _ _) (by simp [fmC]) (fun e => by have := (World.ownsRow.lt hA3.row _ e).2; omega) (fun j u hj => by rw [Nat.zero_add]; exact hj) (by intro u hu; simp [fmC] at hu; rcases hu with rfl | rfl <;> rfl) (fmV_one G) (by have := HF40.out; omega)
   unfold MadeM at cI
   refine plan.callS 12 _ 68 #[.slice x G.length xc, .int .i64 (P : Int), .slice (some ⟨w3.heap.size, 0, none⟩) 1 1] rfl (cI.mono ?_)
   rintro e w4 ⟨v4, rfl, ho4, hg4⟩
   obtain ⟨x4, xc4, rfl, _⟩ := ownsRow_slice ho4
   have ho4' : w4.ownsRow (w.heap.size + 3) 58 2 (.slice x4 (G.length + 1) xc4) (G.length + 1) (fmV (G.take P ++ ([⟨c.s.fm, ya, yc, c.s.l⟩] ++ G.drop P))) := by
    rw [fmV_append, fmV_append, ← fmV_take, ← fmV_drop]
    exact ho4
   have hh := hA4.hold hg4
   have hA5 := hA4.put hg4 ho4' (fun p hp => by
    rcases List.mem_append.1 hp with h | h
    ·exact hA4.each p (List.mem_of_mem_take h)
    ·rcases List.mem_append.1 h with h2 | h2
     ·rw [List.mem_singleton.1 h2]; exact hq
     ·exact hA4.each p (List.mem_of_mem_drop h2))
   have hk0 : Block w4 w.heap.size 77 (zH c ta tc la lc fa fc) := (hg4.block _ hA4.k0.lt (fun e => by have := (World.ownsRow.lt hA4.row _ e.symm).1; omega)).trans hA4.k0
   refine ⟨_, rfl, hk0, ?_⟩
   refine plan.oneS (w1 := w4) 13 _ (.pointer (some ⟨w.heap.size + 1, 1, none⟩)) rfl rfl hk0 ?_
   obtain ⟨w5, hw5⟩ : ∃ w5, Hid (w4.setCell ⟨w.heap.size + 1, 1, none⟩ (.slice x4 (G.length + 1) xc4) = w5) := ⟨_, rfl⟩
   rw [hw5.out] at hA5
   have hrun := fun (o : Oper) (act : Act) (q1 : o.op = .store 22 (.tmp 43) (.tmp 42)) (q2 : act.eval (.tmp 43) = .pointer (some ⟨w.heap.size + 1, 1, none⟩)) (q3 : act.eval (.tmp 42) = .slice x4 (G.length + 1) xc4) => exec_put_fm' (o := o) (a := act) q1 q2 q3 (hh.cell 1) (hh.frozen 1)
   rw [hw5.out] at hrun
   refine plan.lastS (w1 := w5) 14 _ rfl rfl rfl (hrun _ _ rfl (by kernel_rfl) (by kernel_rfl)) hA5.k0 ?_
   have HA5 := hid hA5
   clear hA5 hA4 hA3 hA2 hq cI ho4 ho4' hg4 hh hk0 hrun hw5 hGl ho3 hb3 hS cC
   have z10 := HA5.out.k1.cell 0
   have z11 := HA5.out.k1.cell 1
   have q20 := HA5.out.k2.cell 0
   have q21 := HA5.out.k2.cell 1
   have r20 := HA5.out.k2.frozen 0
   have r21 := HA5.out.k2.frozen 1
   walk_nrm
   go_wp2
   have hR := (HA5.out.k2.setCell 0 (.int .i64 v)).setCell 1 (.slice x4 (G.length + 1) xc4)
   refine bodyPost_ret (results_cell (b := w.heap.size + 1 + 1) (o := 0) rfl rfl hR.whole Tryz.underlying24 rfl (sc_info2 _ _)) rfl ?_
   have hd := HA5.out.done rfl
   rw [HFE.out _ rfl] at hd
   exact hd
  ·refine ⟨_, rfl, rfl, .inl ⟨zS c.s.fm ya c.s.l.length yc, w3, by kernel_rfl, hA3.k0, ?_⟩⟩
   refine bothS 1 11 ?_ ?_
   ·refine ⟨_, rfl, rfl, .inl ⟨.slice x G.length xc, w3, exec_cell_slice' (ad := ⟨w.heap.size + 1, 1, none⟩) rfl (hA3.k1.cell 1) Tryz.isAgg22, hA3.k0, ?_⟩⟩
    have hA4 := hA3.later (newB w3 (.cells (zS c.s.fm ya c.s.l.length yc) 58))
    refine plan.oneS (w1 := w3.alloc (.cells (zS c.s.fm ya c.s.l.length yc) 58)) 11 _ (.slice (some ⟨w3.heap.size, 0, none⟩) 1 1) rfl rfl hA4.k0 ?_
    have hq : OwnM (w.heap.size + 3) (w3.alloc (.cells (zS c.s.fm ya c.s.l.length yc) 58)) ⟨c.s.fm, ya, yc, c.s.l⟩ := (own_low ho3 (by have := hA2.low; exact this.2)).alloc _
    have cI := insertM_any (w.heap.size + 3) G.length P w3.heap.size 0 1 (fmC ⟨c.s.fm, ya, yc, c.s.l⟩) 58 (.slice x G.length xc) (fmV G) (fmC ⟨c.s.fm, ya, yc, c.s.l⟩) (w3.alloc (.cells (zS c.s.fm ya c.s.l.length yc) 58)) hA4.row hA4.low.2 (by omega) rfl (Block.new w3 _ _) (by simp [fmC]) (fun e => by have := (World.ownsRow.lt hA3.row _ e).2; omega) (fun j u hj => by rw [Nat.zero_add]; exact hj) (by intro u hu; simp [fmC] at hu; rcases hu with rfl | rfl <;> rfl) (fmV_one G) (by have := HF40.out; omega)
    unfold MadeM at cI
    refine plan.callS 12 _ 68 #[.slice x G.length xc, .int .i64 (P : Int), .slice (some ⟨w3.heap.size, 0, none⟩) 1 1] rfl (cI.mono ?_)
    rintro e w4 ⟨v4, rfl, ho4, hg4⟩
    obtain ⟨x4, xc4, rfl, _⟩ := ownsRow_slice ho4
    have ho4' : w4.ownsRow (w.heap.size + 3) 58 2 (.slice x4 (G.length + 1) xc4) (G.length + 1) (fmV (G.take P ++ ([⟨c.s.fm, ya, yc, c.s.l⟩] ++ G.drop P))) := by
     rw [fmV_append, fmV_append, ← fmV_take, ← fmV_drop]
     exact ho4
    have hh := hA4.hold hg4
    have hA5 := hA4.put hg4 ho4' (fun p hp => by
     rcases List.mem_append.1 hp with h | h
     ·exact hA4.each p (List.mem_of_mem_take h)
     ·rcases List.mem_append.1 h with h2 | h2
      ·rw [List.mem_singleton.1 h2]; exact hq
      ·exact hA4.each p (List.mem_of_mem_drop h2))
    have hk0 : Block w4 w.heap.size 77 (zH c ta tc la lc fa fc) := (hg4.block _ hA4.k0.lt (fun e => by have := (World.ownsRow.lt hA4.row _ e.symm).1; omega)).trans hA4.k0
    refine ⟨_, rfl, hk0, ?_⟩
    refine plan.oneS (w1 := w4) 13 _ (.pointer (some ⟨w.heap.size + 1, 1, none⟩)) rfl rfl hk0 ?_
    obtain ⟨w5, hw5⟩ : ∃ w5, Hid (w4.setCell ⟨w.heap.size + 1, 1, none⟩ (.slice x4 (G.length + 1) xc4) = w5) := ⟨_, rfl⟩
    rw [hw5.out] at hA5
    have hrun := fun (o : Oper) (act : Act) (q1 : o.op = .store 22 (.tmp 43) (.tmp 42)) (q2 : act.eval (.tmp 43) = .pointer (some ⟨w.heap.size + 1, 1, none⟩)) (q3 : act.eval (.tmp 42) = .slice x4 (G.length + 1) xc4) => exec_put_fm' (o := o) (a := act) q1 q2 q3 (hh.cell 1) (hh.frozen 1)
    rw [hw5.out] at hrun
    refine plan.lastS (w1 := w5) 14 _ rfl rfl rfl (hrun _ _ rfl (by kernel_rfl) (by kernel_rfl)) hA5.k0 ?_
    have HA5 := hid hA5
    clear hA5 hA4 hA3 hA2 hq cI ho4 ho4' hg4 hh hk0 hrun hw5 hGl ho3 hb3 hS cC
    have z10 := HA5.out.k1.cell 0
    have z11 := HA5.out.k1.cell 1
    have q20 := HA5.out.k2.cell 0
    have q21 := HA5.out.k2.cell 1
    have r20 := HA5.out.k2.frozen 0
    have r21 := HA5.out.k2.frozen 1
    walk_nrm
    go_wp2
    have hR := (HA5.out.k2.setCell 0 (.int .i64 v)).setCell 1 (.slice x4 (G.length + 1) xc4)
    refine bodyPost_ret (results_cell (b := w.heap.size + 1 + 1) (o := 0) rfl rfl hR.whole Tryz.underlying24 rfl (sc_info2 _ _)) rfl ?_
    have hd := HA5.out.done rfl
    rw [HFE.out _ rfl] at hd
    exact hd
   ·have hA4 := hA3.later (newB w3 (.cells (zS c.s.fm ya c.s.l.length yc) 58))
    refine ⟨_, rfl, rfl, .inl ⟨(.slice (some ⟨w3.heap.size, 0, none⟩) 1 1), w3.alloc (.cells (zS c.s.fm ya c.s.l.length yc) 58), by kernel_rfl, hA4.k0, ?_⟩⟩
    refine plan.oneS (w1 := w3.alloc (.cells (zS c.s.fm ya c.s.l.length yc) 58)) 1 _ (.slice x G.length xc) rfl rfl (hv := (exec_cell_slice' (ad := ⟨w.heap.size + 1, 1, none⟩) rfl (hA4.k1.cell 1) Tryz.isAgg22)) hA4.k0 ?_
    have hq : OwnM (w.heap.size + 3) (w3.alloc (.cells (zS c.s.fm ya c.s.l.length yc) 58)) ⟨c.s.fm, ya, yc, c.s.l⟩ := (own_low ho3 (by have := hA2.low; exact this.2)).alloc _
    have cI := insertM_any (w.heap.size + 3) G.length P w3.heap.size 0 1 (fmC ⟨c.s.fm, ya, yc, c.s.l⟩) 58 (.slice x G.length xc) (fmV G) (fmC ⟨c.s.fm, ya, yc, c.s.l⟩) (w3.alloc (.cells (zS c.s.fm ya c.s.l.length yc) 58)) hA4.row hA4.low.2 (by omega) rfl (Block.new w3 _ _) (by simp [fmC]) (fun e => by have := (World.ownsRow.lt hA3.row _ e).2; omega) (fun j u hj => by rw [Nat.zero_add]; exact hj) (by intro u hu; simp [fmC] at hu; rcases hu with rfl | rfl <;> rfl) (fmV_one G) (by have := HF40.out; omega)
    unfold MadeM at cI
    refine plan.callS 12 _ 68 #[.slice x G.length xc, .int .i64 (P : Int), .slice (some ⟨w3.heap.size, 0, none⟩) 1 1] rfl (cI.mono ?_)
    rintro e w4 ⟨v4, rfl, ho4, hg4⟩
    obtain ⟨x4, xc4, rfl, _⟩ := ownsRow_slice ho4
    have ho4' : w4.ownsRow (w.heap.size + 3) 58 2 (.slice x4 (G.length + 1) xc4) (G.length + 1) (fmV (G.take P ++ ([⟨c.s.fm, ya, yc, c.s.l⟩] ++ G.drop P))) := by
     rw [fmV_append, fmV_append, ← fmV_take, ← fmV_drop]
     exact ho4
    have hh := hA4.hold hg4
    have hA5 := hA4.put hg4 ho4' (fun p hp => by
     rcases List.mem_append.1 hp with h | h
     ·exact hA4.each p (List.mem_of_mem_take h)
     ·rcases List.mem_append.1 h with h2 | h2
      ·rw [List.mem_singleton.1 h2]; exact hq
      ·exact hA4.each p (List.mem_of_mem_drop h2))
    have hk0 : Block w4 w.heap.size 77 (zH c ta tc la lc fa fc) := (hg4.block _ hA4.k0.lt (fun e => by have := (World.ownsRow.lt hA4.row _ e.symm).1; omega)).trans hA4.k0
    refine ⟨_, rfl, hk0, ?_⟩
    refine plan.oneS (w1 := w4) 13 _ (.pointer (some ⟨w.heap.size + 1, 1, none⟩)) rfl rfl hk0 ?_
    obtain ⟨w5, hw5⟩ : ∃ w5, Hid (w4.setCell ⟨w.heap.size + 1, 1, none⟩ (.slice x4 (G.length + 1) xc4) = w5) := ⟨_, rfl⟩
    rw [hw5.out] at hA5
    have hrun := fun (o : Oper) (act : Act) (q1 : o.op = .store 22 (.tmp 43) (.tmp 42)) (q2 : act.eval (.tmp 43) = .pointer (some ⟨w.heap.size + 1, 1, none⟩)) (q3 : act.eval (.tmp 42) = .slice x4 (G.length + 1) xc4) => exec_put_fm' (o := o) (a := act) q1 q2 q3 (hh.cell 1) (hh.frozen 1)
    rw [hw5.out] at hrun
    refine plan.lastS (w1 := w5) 14 _ rfl rfl rfl (hrun _ _ rfl (by kernel_rfl) (by kernel_rfl)) hA5.k0 ?_
    have HA5 := hid hA5
    clear hA5 hA4 hA3 hA2 hq cI ho4 ho4' hg4 hh hk0 hrun hw5 hGl ho3 hb3 hS cC
    have z10 := HA5.out.k1.cell 0
    have z11 := HA5.out.k1.cell 1
    have q20 := HA5.out.k2.cell 0
    have q21 := HA5.out.k2.cell 1
    have r20 := HA5.out.k2.frozen 0
    have r21 := HA5.out.k2.frozen 1
    walk_nrm
    go_wp2
    have hR := (HA5.out.k2.setCell 0 (.int .i64 v)).setCell 1 (.slice x4 (G.length + 1) xc4)
    refine bodyPost_ret (results_cell (b := w.heap.size + 1 + 1) (o := 0) rfl rfl hR.whole Tryz.underlying24 rfl (sc_info2 _ _)) rfl ?_
    have hd := HA5.out.done rfl
    rw [HFE.out _ rfl] at hd
    exact hd
end Go.Proofs.YtaciegkblklokaaGreat.typing
namespace Go.Proofs.YtaciegkblklokaaGreat.schema
open Go.RowKit
open Go.Proofs.YtaciegkblklokaaGreat.field (Gives newB gives_from)
open Go.Proofs.YtaciegkblklokaaGreat.typing (own_past')
theorem form_own (v : Int) (a : Option Addr) (c : Nat) (F : List Fm) (x : Int) (k : Nat) (p : Fm) (w : World) (h : FmL w a F) (hF : F.length ≤ maxLen) (hp : F[k]? = some p) (hx : p.id = x) (hn : x ∉ (fids F).take k) (hL : p.fL.length ≤ 1000000) :
  Calls Tryz.prog 40 #[zS v a F.length c, .int .i64 x] w fun e w' => ∃ y cap, e = .returned (.tuple #[zS x y p.fL.length cap, .bool true]) ∧ w'.ownsRow w.heap.size 26 5 (.slice y p.fL.length cap) p.fL.length (fdV p.fL) ∧ Below w.heap.size w w' := by
 have HX := hid (W3.all v a F c x w)
 have h0 := W3.all v a F c x w _ (Below.refl _ _)
 have hsz : (W3 v a F c x w).heap.size = w.heap.size + 3 := by simp [W3]
 have h3 := h.below (W3.forms v a F c x w)
 have cI := indexForm_any a c F x (w.heap.size + 1) (W3 v a F c x w) h3 hF h0.2.2.1 (by omega)
 rw [first_hit hn (by rw [← hx]; exact fids_at hp)] at cI
 have hk : k < F.length := (List.getElem?_eq_some_iff.1 hp).1
 obtain ⟨b, off, rfl, hbl0⟩ : ∃ b off, a = some ⟨b, off, none⟩ ∧ b < w.heap.size := by obtain ⟨b, off, q0, h1, h2, _⟩ := form_at h (Below.refl _ _) hk; exact ⟨b, off, h1, h2⟩
 obtain ⟨b', off', q, hab, hbl, hq, c0, c1, hfd, hfl⟩ := form_at h3 (Below.refl _ _) hk
 obtain ⟨rfl, rfl⟩ : b = b' ∧ off = off' := by cases hab; exact ⟨rfl, rfl⟩
 clear hab
 have hn1 : b ≠ w.heap.size + 1 + 1 := by omega
 have hn2 : w.heap.size + 1 + 1 ≠ b := by omega
 have hn3 : w.heap.size ≠ w.heap.size + 1 + 1 := by omega
 have hn4 : w.heap.size + 1 + 1 ≠ w.heap.size := by omega
 obtain rfl : p = q := by rw [hp] at hq; exact Option.some.inj hq
 have HFD := hid hfd
 have cC := fun w' (hb : Below (W3 v (some ⟨b, off, none⟩) F c x w).heap.size (W3 v (some ⟨b, off, none⟩) F c x w) w') => cloneF_any p.f p.fCap p.fL w' (hfd.below hb) hL
 have HC1 := hid (fun w' (hb : Below (W3 v (some ⟨b, off, none⟩) F c x w).heap.size (W3 v (some ⟨b, off, none⟩) F c x w) w') => (hb.cell (p := ⟨b, off + k * 2 + 1, none⟩) hbl).trans c1)
 have i1 : (k : Int) < F.length := by omega
 clear h hx hn h0 hsz hp h3 hq c0 c1 hfd hfl hbl hL hF hbl0
 obtain ⟨i, f, fc, L⟩ := p
 simp only at cC HC1 HFD ⊢
 unfold W3 at HX cI cC HC1
 go_enter Tryz.func40, Tryz.ntmps40
 go_wp2_with (go_at_call 72; ((with_reducible refine cI.mono ?_); rintro e w2 ⟨rfl, hb2⟩; obtain ⟨z0, z1, z2, hblk, hbo⟩ := HX.out _ hb2; have r0 := hblk.cell 0; have r1 := hblk.cell 1; have f0 := hblk.frozen 0; have f1 := hblk.frozen 1))
 have hb2d := below_drew hb2
 have y0 := HC1.out _ hb2d
 obtain ⟨z0, z1, z2, hblk, hbo⟩ := HX.out w2.drew hb2d
 go_region_held3 (fun w' => w'.cell? ⟨w.heap.size, 1, none⟩ = some (.slice (some ⟨b, off, none⟩) F.length c) ∧ w'.cell? ⟨w.heap.size + 1, 0, none⟩ = some (.int .i64 x) ∧ w'.cell? ⟨b, off + k * 2 + 1, none⟩ = some (.slice f L.length fc)) (first | assumption | go_keep | (rw [World.cell?_setCell_other _ _ _ _ (by simp), World.cell?_setCell_other _ _ _ _ (by simp)]; assumption)) (first
  | (go_at_call 69; (with_reducible refine (cC _ hb2d).mono ?_); rintro e w3 ⟨yv, rfl, ho3, hb3⟩; obtain ⟨y, yc, rfl, _⟩ := ownsRow_slice ho3; have hb23 := hb2d.trans (hb3.mono hb2d.size); have y0 := HC1.out _ hb23; obtain ⟨z0, z1, z2, hblk3, hbo3⟩ := HX.out w3 hb23; have r0 := hblk3.cell 0; have r1 := hblk3.cell 1; have f0 := hblk3.frozen 0; have f1 := hblk3.frozen 1))
 go_wp2
 have hB := (hblk3.setCell 0 (.int .i64 x)).setCell 1 (.slice y L.length yc)
 have hlow : w.heap.size + 3 ≤ w2.drew.heap.size := by have := hb2d.size; simpa [W3] using this
 have hF3 := own_low (own_past' (o := 1) (v := .slice y L.length yc) (own_past' (o := 0) (v := .int .i64 x) (own_low ho3 hlow) (show w.heap.size + 2 < w.heap.size + 3 by omega)) (show w.heap.size + 2 < w.heap.size + 3 by omega)) (show w.heap.size ≤ w.heap.size + 3 by omega)
 refine bodyPost_ret (results_cell2 (b := w.heap.size + 2) (o := 0) rfl rfl hB.whole Tryz.underlying58 rfl (fm_info2 _ _)) rfl ?_
 exact ⟨y, yc, rfl, hF3, below_setCells (below_setCells hbo3 (by omega) 0 [.int .i64 x]) (by omega) 1 [.slice y L.length yc]⟩
end Go.Proofs.YtaciegkblklokaaGreat.schema
