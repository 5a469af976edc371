/- Contracts and lemmas that the claims of this seat share: TypingFields, TypingSearch, TypingCloned, InsertM, DeleteM. Each says its own conditions. -/
import Derived.Test.YtaciegkblklokaaGreatCmH
import Derived.Test.YtaciegkblklokaaGreatCmF
import Derived.Conc.WalkWords
import Derived.Test.YtaciegkblklokaaGreatCmC
import Derived.Handy
import Derived.Laws.OwnMore
import Derived.Deep.RegionHeld3
import Derived.Test.YtaciegkblklokaaGreatCmB
set_option linter.unusedVariables false
namespace Go.Proofs.YtaciegkblklokaaGreat.typing
open Go.RowKit Go.Proofs.YtaciegkblklokaaGreat.schema Go.Proofs.YtaciegkblklokaaGreat.rows
open Go.Proofs.YtaciegkblklokaaGreat.field (Gives newB gives_from)
def Places (c : Ch) : Prop := (c.s.op = 1 → 0 ≤ c.s.pl ∧ c.s.pl ≤ c.L.length) ∧ (c.s.op = 7 → 0 ≤ c.s.pl ∧ c.s.pl ≤ (c.L.length : Int) - 1) ∧ (c.s.op ≠ 1 → 0 ≤ c.at_ ∧ c.at_ < c.L.length)
theorem mid_range {w : World} {b o : Nat} {cs ds : List Value} (h : w.rangeAt b 0 cs) (hd : ∀ j v, ds[j]? = some v → cs[o + j]? = some v) : w.rangeAt b o ds := fun j v hj => by
 have := h (o + j) v (hd j v hj)
 rwa [Nat.zero_add] at this
theorem bothS {P : Program} {md : Region.Mode} {Q : Exit → Act → World → Prop} {l : List Oper} {S : World → Prop} {f : Nat} {listed : Array Bool} {a : Act} {w : World} (i j : Nat)
  (hi : ∃ o, l[i]? = some o ∧ o.guard = none ∧ ((∃ v w1, (execOp a.eval o).run P w = .ok (.value v) w1 ∧ S w1 ∧ wpAnyH P md l.toArray (NoPanic Q) S f (listed.setIfInBounds i true) (a.put o.dst v) w1) ∨
    (∃ F args, (execOp a.eval o).run P w = .ok (.enter F args) w ∧ Calls P F args w fun e w' => ∃ v, e = .returned v ∧ S w' ∧ wpAnyH P md l.toArray (NoPanic Q) S f (listed.setIfInBounds i true) (a.put o.dst v) w')))
  (hj : ∃ o, l[j]? = some o ∧ o.guard = none ∧ ((∃ v w1, (execOp a.eval o).run P w = .ok (.value v) w1 ∧ S w1 ∧ wpAnyH P md l.toArray (NoPanic Q) S f (listed.setIfInBounds j true) (a.put o.dst v) w1) ∨
    (∃ F args, (execOp a.eval o).run P w = .ok (.enter F args) w ∧ Calls P F args w fun e w' => ∃ v, e = .returned v ∧ S w' ∧ wpAnyH P md l.toArray (NoPanic Q) S f (listed.setIfInBounds j true) (a.put o.dst v) w'))) (hr : Region.ready md l.toArray listed = [i, j] := by kernel_rfl) :
  wpAnyH P md l.toArray (NoPanic Q) S (f + 1) listed a w := by
 refine plan.every (by rw [hr]; simp) fun k hk => ?_
 rw [hr] at hk
 simp only [List.mem_cons, List.not_mem_nil, or_false] at hk
 rcases hk with rfl | rfl
 ·exact hi
 ·exact hj
theorem exec_inc {o : Oper} {a : Act} {w : World} {x y : Operand} {t : TypeId} {n : Int} (ho : o.op = .binOp .add 3 x y t) (h0 : 0 ≤ n) (hn : n ≤ 1000) (hx : a.eval x = .int .i64 n := by kernel_rfl) (hy : a.eval y = .int .i64 1 := by kernel_rfl) :
  (execOp a.eval o).run Tryz.prog w = .ok (.value (.int .i64 (n + 1))) w := by
 unfold execOp
 rw [ho]
 simp only [hx, hy]
 go_simp
 exact IntWalk.i64_in _ (by omega)
set_option maxRecDepth 20000 in
set_option maxHeartbeats 3200000 in
theorem fields_any (c : Ch) (ta : Option Addr) (tc : Nat) (la : Option Addr) (lc : Nat) (fa : Option Addr) (fc : Nat) (w : World) (h : field.Fds w fa c.L) (hL : c.L.length ≤ 40) (hp : Places c) (hb4 : c.s.op = 4 → Bd c) (hb6 : c.s.op = 6 → Bq c) :
  Calls Tryz.prog 71 #[zH c ta tc la lc fa fc] w (OwnsF (fields c) w) := by
 have hN := newB w (.cells (zH c ta tc la lc fa fc) 77)
 have cC := cloneF_any fa fc c.L ((w.alloc (.cells (zH c ta tc la lc fa fc) 77))) (h.below hN) (by omega)
 have HX : Hid (∀ w', Below ((w.alloc (.cells (zH c ta tc la lc fa fc) 77))).heap.size ((w.alloc (.cells (zH c ta tc la lc fa fc) 77))) w' → Block w' w.heap.size 77 (zH c ta tc la lc fa fc) ∧ Below w.heap.size w w') := hid (fun w' hb => ⟨(Block.new w _ _).later hb, below_out hb⟩)
 have HI : Hid ((Tryz.prog.info? 77).map (·.size) = some ((zH c ta tc la lc fa fc) : List Value).length) := hid ch_info
 have HSZ : Hid (w.heap.size ≤ ((w.alloc (.cells (zH c ta tc la lc fa fc) 77))).heap.size) := hid hN.size
 have hv1 : ∀ u ∈ fdV c.L, u.oneCell' = true := fdV_one c.L
 have HV1 := hid hv1
 unfold OwnsF at cC
 clear h hN hv1
 obtain ⟨T, hT⟩ : ∃ T, Hid (((w.alloc (.cells (zH c ta tc la lc fa fc) 77))).heap.size = T) := ⟨_, rfl⟩
 by_cases h1 : c.s.op = 1
 ·have d1 := bt h1
  obtain ⟨p0, p1⟩ := hp.1 h1
  obtain ⟨i, hi⟩ : ∃ i, c.s.pl.toNat = i := ⟨_, rfl⟩
  have hii : ((i : Nat) : Int) = c.s.pl := by omega
  have hsp : fields c = putL c.L i c.s.f := by unfold fields; rw [if_pos h1, hi]
  rw [hsp]
  clear hsp hp hb4 hb6 h1 hi
  have cI := fun (n cap : Nat) (x : Option Addr) (w1 : World) (hown : w1.ownsRow ((w.alloc (.cells (zH c ta tc la lc fa fc) 77))).heap.size 26 5 (.slice x n cap) n (fdV c.L)) (hnl : n = c.L.length) (hb : ((w.alloc (.cells (zH c ta tc la lc fa fc) 77))).heap.size ≤ w1.heap.size) =>
   insertF_any ((w.alloc (.cells (zH c ta tc la lc fa fc) 77))).heap.size n i w1.heap.size 0 1 (fdC c.s.f) 26 (.slice x n cap) (fdV c.L) (fdC c.s.f) (w1.alloc (.cells (zF c.s.f) 26)) (hown.alloc _) (by simp at hb ⊢; omega) (by omega) rfl (Block.new w1 _ _) (by simp [fdC]) (fun e => by have := World.ownsRow.lt hown _ e; omega) (fun j u hj => by rw [Nat.zero_add]; exact hj) (by have := fdV_one [c.s.f]; rwa [fdV_one'] at this) HV1.out (by omega)
  rw [hii] at cI
  unfold MadeF at cI
  go_enter Tryz.func71, Tryz.ntmps71
  go_wp2_with (first
   | (go_at_call 69; ((with_reducible refine cC.mono ?_); rintro e w1 ⟨v, rfl, ho1, hb1⟩; obtain ⟨x, xc, rfl, hxc⟩ := ownsRow_slice ho1; obtain ⟨b0, hbo⟩ := HX.out w1 hb1; have y0 := b0.cell 0; have y3 := b0.cell 3; have y7 := b0.cell 7; have y8 := b0.cell 8; have y9 := b0.cell 9; have y10 := b0.cell 10; have y11 := b0.cell 11; have HO1 := hid ho1; have HB1 := hid hb1; have HBO := hid hbo; clear ho1 hb1 b0 hbo))
   | (go_at_call 92; ((with_reducible refine (cI _ _ _ _ HO1.out rfl HB1.out.size).mono ?_); rintro e w3 ⟨v3, rfl, ho3, hg3⟩; have HO3 := hid ho3; have HG3 := hid hg3; clear ho3 hg3)))
  go_ret
  refine finish (HBO.out.alloc HBO.out.size _) HSZ.out (fun k hk => (World.ownsRow.lt HO1.out k hk).1) HO3.out HG3.out ?_ ?_
  ·unfold putL
   rw [fdV_append, fdV_append, fdV_one', fdV_take, fdV_drop]
  ·unfold putL
   simp only [List.length_append, List.length_take, List.length_drop, List.length_cons, List.length_nil]
   omega
 ·have d1 := bf h1
  obtain ⟨a0, a1⟩ := hp.2.2 h1
  obtain ⟨k, hk⟩ : ∃ k, c.at_.toNat = k := ⟨_, rfl⟩
  have hkk : ((k : Nat) : Int) = c.at_ := by omega
  obtain ⟨N, hN⟩ : ∃ N, Hid (c.L.length = N + 1) := ⟨c.L.length - 1, hid (by omega)⟩
  by_cases h7 : c.s.op = 7
  ·have d7 := bt h7
   obtain ⟨p0, p1⟩ := hp.2.1 h7
   obtain ⟨i, hi⟩ : ∃ i, c.s.pl.toNat = i := ⟨_, rfl⟩
   have hii : ((i : Nat) : Int) = c.s.pl := by omega
   have hsp : fields c = putL (cutL c.L k) i c.old := by unfold fields; rw [if_neg h1, if_pos h7, hk, hi]
   rw [hsp]
   have hcut : fdV (cutL c.L k) = (fdV c.L).take (k * 5) ++ (fdV c.L).drop ((k + 1) * 5) := by unfold cutL; rw [fdV_append, fdV_take, fdV_drop]
   have hcl : (cutL c.L k).length = N := by unfold cutL; have := hN.out; simp only [List.length_append, List.length_take, List.length_drop]; omega
   have hput : ∀ ys, ys = (fdV (cutL c.L k)).take (i * 5) ++ (fdC c.old ++ (fdV (cutL c.L k)).drop (i * 5)) → ys = fdV (putL (cutL c.L k) i c.old) := fun ys hy => by
    rw [hy]; unfold putL; rw [fdV_append, fdV_append, fdV_one', fdV_take, fdV_drop]
   have hpl : N + 1 = (putL (cutL c.L k) i c.old).length := by
    unfold putL
    simp only [List.length_append, List.length_take, List.length_drop, List.length_cons, List.length_nil, hcl]
    have := hN.out
    omega
   have h1c : ∀ u ∈ fdC c.old, u.oneCell' = true := by have := fdV_one [c.old]; rwa [fdV_one'] at this
   have h1x : ∀ u ∈ fdV (cutL c.L k), u.oneCell' = true := fdV_one _
   have hN40 : N ≤ 40 := by have := hN.out; omega
   have hiN : i ≤ N := by have := hN.out; omega
   have hkN : k ≤ N := by have := hN.out; omega
   clear hsp hp hb4 hb6 h1 hk h7 hi
   go_enter Tryz.func71, Tryz.ntmps71
   go_wp2_with (go_at_call 69; ((with_reducible refine cC.mono ?_); rintro e w1 ⟨v, rfl, ho1, hb1⟩; obtain ⟨x, xc, rfl, hxc⟩ := ownsRow_slice ho1; obtain ⟨b0, hbo⟩ := HX.out w1 hb1; have y0 := b0.cell 0; have HO1 := hid ho1; have HB1 := hid hb1; have HBO := hid hbo; clear ho1 hb1 b0 hbo))
   have hvl : ∀ j, (Value.slice x c.L.length xc).ownBlock = some j → ((w.alloc (.cells (zH c ta tc la lc fa fc) 77))).heap.size ≤ j := fun j hj => (World.ownsRow.lt HO1.out j hj).1
   have hvg : ∀ j, (Value.slice x c.L.length xc).ownBlock = some j → j < w1.heap.size := fun j hj => (World.ownsRow.lt HO1.out j hj).2
   have ho1 : w1.drew.ownsRow ((w.alloc (.cells (zH c ta tc la lc fa fc) 77))).heap.size 26 5 (.slice x c.L.length xc) (N + 1) (fdV c.L) := by rw [← hN.out]; exact HO1.out
   have hS : Below ((w.alloc (.cells (zH c ta tc la lc fa fc) 77))).heap.size ((w.alloc (.cells (zH c ta tc la lc fa fc) 77))) w1.drew := below_drew HB1.out
   refine plan.regionS (S := fun w' => Below ((w.alloc (.cells (zH c ta tc la lc fa fc) 77))).heap.size ((w.alloc (.cells (zH c ta tc la lc fa fc) 77))) w') ?_
   refine plan.firstS 0 _ (.slice x c.L.length xc) rfl (fun w' hS' => (by kernel_rfl)) hS ?_
   refine plan.firstS 1 _ (.pointer (some ⟨w.heap.size, 19, none⟩)) rfl (fun w' hS' => (by kernel_rfl)) hS ?_
   refine plan.firstS 2 _ (.int .i64 c.at_) rfl (fun w' hS' => exec_cell_int (ad := ⟨w.heap.size, 19, none⟩) rfl (by kernel_rfl) ((HX.out w' hS').1.cell 19) Tryz.isAgg3) hS ?_
   refine plan.firstS 3 _ (.pointer (some ⟨w.heap.size, 19, none⟩)) rfl (fun w' hS' => (by kernel_rfl)) hS ?_
   refine plan.firstS 4 _ (.int .i64 c.at_) rfl (fun w' hS' => exec_cell_int (ad := ⟨w.heap.size, 19, none⟩) rfl (by kernel_rfl) ((HX.out w' hS').1.cell 19) Tryz.isAgg3) hS ?_
   refine plan.firstS 5 _ (.int .i64 (c.at_ + 1)) rfl (fun w' hS' => exec_inc rfl a0 (by omega)) hS ?_
   refine plan.firstS 7 _ (.pointer (some ⟨w.heap.size, 0, none⟩)) rfl (fun w' hS' => (by kernel_rfl)) hS ?_
   refine plan.firstS 8 _ (.pointer (some ⟨w.heap.size, 3, none⟩)) rfl (fun w' hS' => (by kernel_rfl)) hS ?_
   refine plan.firstS 9 _ (.int .i64 c.s.pl) rfl (fun w' hS' => exec_cell_int (ad := ⟨w.heap.size, 3, none⟩) rfl (by kernel_rfl) ((HX.out w' hS').1.cell 3) Tryz.isAgg3) hS ?_
   refine plan.firstS 10 _ (.pointer (some ⟨w.heap.size, 20, none⟩)) rfl (fun w' hS' => (by kernel_rfl)) hS ?_
   refine plan.firstS 11 _ (zF c.old) rfl (fun w' hS' => exec_load_at (cs := (zF c.old)) (b := w.heap.size) (off := 20) rfl (mid_range (HX.out w' hS').1.whole (fun j v hj => by match j, hj with | 0, hj => exact hj | 1, hj => exact hj | 2, hj => exact hj | 3, hj => exact hj | 4, hj => exact hj | n + 5, hj => simp at hj)) Tryz.underlying26 rfl info_fd.out) hS ?_
   refine bothS 6 12 ?_ ?_
   ·have cD := deleteF_any ((w.alloc (.cells (zH c ta tc la lc fa fc) 77))).heap.size N k (.slice x c.L.length xc) (fdV c.L) w1.drew ho1 hkN HV1.out (by omega)
    rw [hkk, ← hcut] at cD
    unfold LessF at cD
    refine ⟨_, rfl, rfl, .inr ⟨93, #[.slice x c.L.length xc, .int .i64 c.at_, .int .i64 (c.at_ + 1)], by kernel_rfl, cD.mono ?_⟩⟩
    rintro e w3 ⟨v3, rfl, ho3, hg3, hob⟩
    have hS3 := hS.grown hg3 hS.size hvl
    refine ⟨v3, rfl, hS3, ?_⟩
    have hSi : Below ((w.alloc (.cells (zH c ta tc la lc fa fc) 77))).heap.size ((w.alloc (.cells (zH c ta tc la lc fa fc) 77))) (w3.alloc (.cells (zF c.old) 26)) := hS3.alloc hS3.size _
    refine plan.oneS (w1 := w3.alloc (.cells (zF c.old) 26)) 12 _ (.slice (some ⟨w3.heap.size, 0, none⟩) 1 1) rfl rfl hSi ?_
    have hv3 : ∀ j, v3.ownBlock = some j → ((w.alloc (.cells (zH c ta tc la lc fa fc) 77))).heap.size ≤ j := fun j hj => (World.ownsRow.lt ho3 j hj).1
    have cI := insertF_any ((w.alloc (.cells (zH c ta tc la lc fa fc) 77))).heap.size N i w3.heap.size 0 1 (fdC c.old) 26 v3 (fdV (cutL c.L k)) (fdC c.old) (w3.alloc (.cells (zF c.old) 26)) (ho3.alloc _) hSi.size hiN rfl (Block.new w3 _ _) (by simp [fdC]) (fun e => by have := World.ownsRow.lt ho3 _ e; omega) (fun j u hj => by rw [Nat.zero_add]; exact hj) h1c h1x (by omega)
    rw [hii] at cI
    unfold MadeF at cI
    refine plan.callS 13 _ 92 #[v3, .int .i64 c.s.pl, .slice (some ⟨w3.heap.size, 0, none⟩) 1 1] rfl (cI.mono ?_)
    rintro e w4 ⟨v4, rfl, ho4, hg4⟩
    have hS4 := hSi.grown hg4 hSi.size hv3
    refine ⟨v4, rfl, hS4, ?_⟩
    refine plan.oneS (w1 := w4) 14 _ v4 rfl rfl hS4 ?_
    refine plan.doneS ?_
    have HFIN : Hid (OwnsF (putL (cutL c.L k) i c.old) w (.returned v4) w4) := hid (finish (HX.out _ hSi).2 HSZ.out hv3 ho4 hg4 (hput _ rfl) hpl)
    clear ho4 hg4 hS4
    walk_nrm
    go_wp2
    go_ret
    exact HFIN.out
   ·have hSa : Below ((w.alloc (.cells (zH c ta tc la lc fa fc) 77))).heap.size ((w.alloc (.cells (zH c ta tc la lc fa fc) 77))) (w1.drew.alloc (.cells (zF c.old) 26)) := hS.alloc hS.size _
    refine ⟨_, rfl, rfl, .inl ⟨.slice (some ⟨w1.drew.heap.size, 0, none⟩) 1 1, w1.drew.alloc (.cells (zF c.old) 26), by kernel_rfl, hSa, ?_⟩⟩
    have cD := deleteF_any ((w.alloc (.cells (zH c ta tc la lc fa fc) 77))).heap.size N k (.slice x c.L.length xc) (fdV c.L) (w1.drew.alloc (.cells (zF c.old) 26)) (ho1.alloc _) hkN HV1.out (by omega)
    rw [hkk, ← hcut] at cD
    unfold LessF at cD
    refine plan.callS 6 _ 93 #[.slice x c.L.length xc, .int .i64 c.at_, .int .i64 (c.at_ + 1)] rfl (cD.mono ?_)
    rintro e w3 ⟨v3, rfl, ho3, hg3, hob⟩
    have hSi := hSa.grown hg3 hSa.size hvl
    have hG : Block w3 w1.drew.heap.size 26 (fdC c.old) := (hg3.block _ (by simp) (fun e => by have h5 : w1.drew.heap.size < w1.heap.size := hvg _ e.symm; exact absurd h5 (Nat.lt_irrefl _))).trans (Block.new w1.drew _ _)
    refine ⟨v3, rfl, hSi, ?_⟩
    have hv3 : ∀ j, v3.ownBlock = some j → ((w.alloc (.cells (zH c ta tc la lc fa fc) 77))).heap.size ≤ j := fun j hj => (World.ownsRow.lt ho3 j hj).1
    have hne : v3.ownBlock ≠ some w1.drew.heap.size := fun e => by rw [hob] at e; have h5 : w1.drew.heap.size < w1.heap.size := hvg _ e; exact absurd h5 (Nat.lt_irrefl _)
    have cI := insertF_any ((w.alloc (.cells (zH c ta tc la lc fa fc) 77))).heap.size N i w1.drew.heap.size 0 1 (fdC c.old) 26 v3 (fdV (cutL c.L k)) (fdC c.old) w3 ho3 hSi.size hiN rfl hG (by simp [fdC]) hne (fun j u hj => by rw [Nat.zero_add]; exact hj) h1c h1x (by omega)
    rw [hii] at cI
    unfold MadeF at cI
    refine plan.callS 13 _ 92 #[v3, .int .i64 c.s.pl, .slice (some ⟨w1.drew.heap.size, 0, none⟩) 1 1] rfl (cI.mono ?_)
    rintro e w4 ⟨v4, rfl, ho4, hg4⟩
    have hS4 := hSi.grown hg4 hSi.size hv3
    refine ⟨v4, rfl, hS4, ?_⟩
    refine plan.oneS (w1 := w4) 14 _ v4 rfl rfl hS4 ?_
    refine plan.doneS ?_
    have HFIN : Hid (OwnsF (putL (cutL c.L k) i c.old) w (.returned v4) w4) := hid (finish (HX.out _ hSi).2 HSZ.out hv3 ho4 hg4 (hput _ rfl) hpl)
    clear ho4 hg4 hS4
    walk_nrm
    go_wp2
    go_ret
    exact HFIN.out
  ·have d7 := bf h7
   have hsp : fields c = c.L.take k ++ (heirs c ++ c.L.drop (k + 1)) := by unfold fields; rw [if_neg h1, if_neg h7, hk]
   rw [hsp]
   have cHe := fun (w' : World) => heirs_any c ta tc la lc fa fc w' hb4 hb6
   have hHl := heirs_len c
   generalize hHH : heirs c = H at *
   clear hsp hp hb4 hb6 h1 hk h7 hHH
   go_enter Tryz.func71, Tryz.ntmps71
   go_wp2_with (go_at_call 69; ((with_reducible refine cC.mono ?_); rintro e w1 ⟨v, rfl, ho1, hb1⟩; obtain ⟨x, xc, rfl, hxc⟩ := ownsRow_slice ho1; obtain ⟨b0, hbo⟩ := HX.out w1 hb1; have y0 := b0.cell 0; have HO1 := hid ho1; have HB1 := hid hb1; have HBO := hid hbo; clear ho1 hb1 b0 hbo))
   have HB12 : ∀ w2, Below w1.drew.heap.size w1.drew w2 → Below w1.heap.size w1 w2 := fun w2 h => (below_drew (Below.refl _ _)).trans h
   have hS : Below ((w.alloc (.cells (zH c ta tc la lc fa fc) 77))).heap.size ((w.alloc (.cells (zH c ta tc la lc fa fc) 77))) w1.drew := below_drew HB1.out
   refine plan.regionS (S := fun w' => Below ((w.alloc (.cells (zH c ta tc la lc fa fc) 77))).heap.size ((w.alloc (.cells (zH c ta tc la lc fa fc) 77))) w') ?_
   refine plan.firstS 0 _ (.slice x c.L.length xc) rfl (fun w' hS' => (by kernel_rfl)) hS ?_
   refine plan.firstS 1 _ (.pointer (some ⟨w.heap.size, 19, none⟩)) rfl (fun w' hS' => (by kernel_rfl)) hS ?_
   refine plan.firstS 2 _ (.int .i64 c.at_) rfl (fun w' hS' => exec_cell_int (ad := ⟨w.heap.size, 19, none⟩) rfl (by kernel_rfl) ((HX.out w' hS').1.cell 19) Tryz.isAgg3) hS ?_
   refine plan.firstS 3 _ (.pointer (some ⟨w.heap.size, 19, none⟩)) rfl (fun w' hS' => (by kernel_rfl)) hS ?_
   refine plan.firstS 4 _ (.int .i64 c.at_) rfl (fun w' hS' => exec_cell_int (ad := ⟨w.heap.size, 19, none⟩) rfl (by kernel_rfl) ((HX.out w' hS').1.cell 19) Tryz.isAgg3) hS ?_
   refine plan.firstS 5 _ (.int .i64 (c.at_ + 1)) rfl (fun w' hS' => exec_inc rfl a0 (by omega)) hS ?_
   refine plan.firstS 6 _ (zH c ta tc la lc fa fc) rfl (fun w' hS' => exec_load_at (b := w.heap.size) (off := 0) rfl (HX.out w' hS').1.whole Tryz.underlying77 rfl ch_info) hS ?_
   refine plan.callS 7 _ 95 #[zH c ta tc la lc fa fc] rfl ((cHe w1.drew).mono ?_)
   intro e w2 hout
   obtain ⟨hv, rfl, hb2, hcase⟩ := hout.value
   have hS2 := hS.trans (hb2.mono hS.size)
   refine ⟨hv, rfl, hS2, ?_⟩
   have hown2 : w2.ownsRow ((w.alloc (.cells (zH c ta tc la lc fa fc) 77))).heap.size 26 5 (.slice x c.L.length xc) (N + 1) (fdV c.L) := by
    have := ownsRow_later (w' := w2) HO1.out (HB12 w2 hb2)
    rw [← hN.out]; exact this
   have cR := replace_any ((w.alloc (.cells (zH c ta tc la lc fa fc) 77))).heap.size N k (.slice x c.L.length xc) (fdV c.L) H hv w2 hown2 hS2.size (by have := hN.out; omega) HV1.out (by have := hN.out; omega) (by
    rcases hcase with ⟨q1, q2⟩ | ⟨q1, g, q2, q3, q4⟩
    ·exact .inl ⟨q1, q2⟩
    ·refine .inr ⟨q1, hHl, g, q3, q4, fun e => ?_⟩
     have h3 := (World.ownsRow.lt HO1.out g e).2
     have h4 : w1.heap.size ≤ g := q2
     omega)
   rw [hkk] at cR
   unfold MadeF at cR
   refine plan.callS 8 _ 94 #[.slice x c.L.length xc, .int .i64 c.at_, .int .i64 (c.at_ + 1), hv] rfl (cR.mono ?_)
   rintro e w3 ⟨v3, rfl, ho3, hg3⟩
   have hvl : ∀ j, (Value.slice x c.L.length xc).ownBlock = some j → ((w.alloc (.cells (zH c ta tc la lc fa fc) 77))).heap.size ≤ j := fun j hj => (World.ownsRow.lt HO1.out j hj).1
   have hS3 := hS2.grown hg3 hS2.size hvl
   refine ⟨v3, rfl, hS3, ?_⟩
   refine plan.oneS (w1 := w3) 9 _ v3 rfl rfl hS3 ?_
   refine plan.doneS ?_
   have HFIN : Hid (OwnsF (c.L.take k ++ (H ++ c.L.drop (k + 1))) w (.returned v3) w3) := hid (finish (HX.out w2 hS2).2 HSZ.out hvl ho3 hg3 (by rw [fdV_append, fdV_append, fdV_take, fdV_drop]) (by have := hN.out; simp only [List.length_append, List.length_take, List.length_drop]; omega))
   clear cR ho3 hg3 hS3 hS2 hS hown2 hvl hcase hout cHe
   walk_nrm
   go_wp2
   go_ret
   exact HFIN.out
end Go.Proofs.YtaciegkblklokaaGreat.typing
namespace Go.Proofs.YtaciegkblklokaaGreat.typing
open Go.RowKit Go.Proofs.YtaciegkblklokaaGreat.schema
open Go.Proofs.YtaciegkblklokaaGreat.field (Gives newB gives_from)
def cmpI (x y : Int) : Int := if x < y then -1 else if y < x then 1 else 0
theorem isNaN_any (x : Int) (w : World) : Calls Tryz.prog 89 #[.int .i64 x] w (Gives (.bool false) w) := by
 unfold Gives
 go_enter Tryz.func89, Tryz.ntmps89
 go_wp2
 go_ret
 exact ⟨by simp, Below.refl _ _⟩
theorem compare_any (x y : Int) (w : World) : Calls Tryz.prog 67 #[.int .i64 x, .int .i64 y] w (Gives (.int .i64 (cmpI x y)) w) := by
 have cX := fun w' (hb : Below w.heap.size w w') => gives_from (isNaN_any x w') hb
 have cY := fun w' (hb : Below w.heap.size w w') => gives_from (isNaN_any y w') hb
 obtain ⟨v, hv⟩ : ∃ v : Int, Hid (cmpI x y = v) := ⟨_, rfl⟩
 rw [hv.out]
 unfold Gives
 have hw := Below.refl w.heap.size w
 by_cases h1 : x < y
 ·obtain rfl : -1 = v := by rw [← hv.out]; unfold cmpI; rw [if_pos h1]
  go_enter Tryz.func67, Tryz.ntmps67
  go_wp2_with (first
   | (go_at_call 89; ((with_reducible refine (cX _ hw).mono ?_); rintro e w1 ⟨rfl, hb1⟩))
   | (go_at_call 89; ((with_reducible refine (cY _ hb1).mono ?_); rintro e w2 ⟨rfl, hb2⟩)))
  go_ret
  exact ⟨rfl, hb2⟩
 ·by_cases h2 : y < x
  ·obtain rfl : 1 = v := by rw [← hv.out]; unfold cmpI; rw [if_neg h1, if_pos h2]
   have d2 : decide (x > y) = true := decide_eq_true h2
   go_enter Tryz.func67, Tryz.ntmps67
   go_wp2_with (first
    | (go_at_call 89; ((with_reducible refine (cX _ hw).mono ?_); rintro e w1 ⟨rfl, hb1⟩))
    | (go_at_call 89; ((with_reducible refine (cY _ hb1).mono ?_); rintro e w2 ⟨rfl, hb2⟩)))
   go_ret
   exact ⟨rfl, hb2⟩
  ·obtain rfl : 0 = v := by rw [← hv.out]; unfold cmpI; rw [if_neg h1, if_neg h2]
   have d2 : decide (x > y) = false := decide_eq_false h2
   go_enter Tryz.func67, Tryz.ntmps67
   go_wp2_with (first
    | (go_at_call 89; ((with_reducible refine (cX _ hw).mono ?_); rintro e w1 ⟨rfl, hb1⟩))
    | (go_at_call 89; ((with_reducible refine (cY _ hb1).mono ?_); rintro e w2 ⟨rfl, hb2⟩)))
   go_ret
   exact ⟨rfl, hb2⟩
theorem byID_any (i : Int) (q : Option Addr) (n qc : Nat) (x : Int) (w : World) :
  Calls Tryz.prog 66 #[zS i q n qc, .int .i64 x] w (Gives (.int .i64 (cmpI i x)) w) := by
 have HN := newB w (.cells (zS i q n qc) 58)
 have cC := gives_from (compare_any i x (w.alloc (.cells (zS i q n qc) 58))) HN
 obtain ⟨v, hv⟩ : ∃ v : Int, Hid (cmpI i x = v) := ⟨_, rfl⟩
 rw [hv.out] at cC ⊢
 unfold Gives
 go_enter Tryz.func66, Tryz.ntmps66
 go_wp2_with (go_at_call 67; ((with_reducible refine cC.mono ?_); rintro e w1 ⟨rfl, hb1⟩))
 go_ret
 exact ⟨rfl, hb1⟩
def Mid (F : List Fm) (x : Int) (i j : Nat) : Prop := (∀ p ∈ (forms F).take i, p.1 < x) ∧ (∀ p ∈ (forms F).drop j, ¬ p.1 < x)
theorem Mid.start (F : List Fm) (x : Int) : Mid F x 0 F.length := ⟨by simp, by rw [List.drop_of_length_le (by rw [forms_length]; exact Nat.le_refl _)]; simp⟩
theorem Mid.up {F : List Fm} {x : Int} {i j h : Nat} {p : Fm} (hm : Mid F x i j) (hs : Sorted (forms F)) (hp : F[h]? = some p) (hx : p.id < x) : Mid F x (h + 1) j := by
 refine ⟨fun q hq => ?_, hm.2⟩
 obtain ⟨k, hk⟩ := List.mem_iff_getElem?.1 hq
 rw [List.getElem?_take] at hk
 split at hk
 ·rename_i hlt
  by_cases e : k = h
  ·subst e
   rw [forms_at hp] at hk
   cases hk
   exact hx
  ·have h1 : ((forms F).map (·.1))[k]? = some q.1 := by rw [List.getElem?_map, hk]; rfl
   have h2 : ((forms F).map (·.1))[h]? = some p.id := by rw [List.getElem?_map, forms_at hp]; rfl
   obtain ⟨a1, a2⟩ := List.getElem?_eq_some_iff.1 h1
   obtain ⟨b1, b2⟩ := List.getElem?_eq_some_iff.1 h2
   have := List.pairwise_iff_getElem.1 hs k h a1 b1 (by omega)
   rw [a2, b2] at this
   omega
 ·cases hk
theorem Mid.down {F : List Fm} {x : Int} {i j h : Nat} {p : Fm} (hm : Mid F x i j) (hs : Sorted (forms F)) (hp : F[h]? = some p) (hx : ¬ p.id < x) : Mid F x i h := by
 refine ⟨hm.1, fun q hq => ?_⟩
 obtain ⟨k, hk⟩ := List.mem_iff_getElem?.1 hq
 rw [List.getElem?_drop] at hk
 by_cases e : k = 0
 ·subst e
  rw [Nat.add_zero, forms_at hp] at hk
  cases hk
  exact hx
 ·have h1 : ((forms F).map (·.1))[h + k]? = some q.1 := by rw [List.getElem?_map, hk]; rfl
  have h2 : ((forms F).map (·.1))[h]? = some p.id := by rw [List.getElem?_map, forms_at hp]; rfl
  obtain ⟨a1, a2⟩ := List.getElem?_eq_some_iff.1 h1
  obtain ⟨b1, b2⟩ := List.getElem?_eq_some_iff.1 h2
  have := List.pairwise_iff_getElem.1 hs h (h + k) b1 a1 (by omega)
  rw [a2, b2] at this
  omega
theorem Mid.pos {F : List Fm} {x : Int} {i : Nat} (hm : Mid F x i i) (hs : Sorted (forms F)) (hi : i ≤ F.length) : pos (forms F) x = i :=
 pos_eq hs (by rw [forms_length]; exact hi) hm.1 hm.2
theorem cmpI_lt {x y : Int} (h : x < y) : cmpI x y = -1 := by unfold cmpI; rw [if_pos h]
theorem cmpI_ge {x y : Int} (h : ¬ x < y) : 0 ≤ cmpI x y := by unfold cmpI; rw [if_neg h]; split <;> omega
theorem search_any (a : Option Addr) (cap : Nat) (F : List Fm) (x : Int) (w : World) (h : Fms w a F) (hF : F.length ≤ 1000) (hs : Sorted (forms F)) :
  Calls Tryz.prog 65 #[.slice a F.length cap, .int .i64 x, .func (.func 66) #[] #[]] w
   (fun e w' => ∃ b : Bool, e = .returned (.tuple #[.int .i64 (pos (forms F) x : Nat), .bool b]) ∧ Below w.heap.size w w') := by
 have hml : (F.length : Int) ≤ 1000 := by omega
 have HF := hid h
 have HS := hid hs
 have HP : Hid (∀ i, Mid F x i i → i ≤ F.length → pos (forms F) x = i) := hid (fun i hm hi => hm.pos hs hi)
 generalize pos (forms F) x = P at *
 have HM := hid (Mid.start F x)
 clear h hs
 go_enter Tryz.func65, Tryz.ntmps65
 go_wp2
 go_loopw [9, 10] (fun n m wr => ∃ i j : Nat, i ≤ j ∧ j ≤ F.length ∧ n = .int .i64 (i : Int) ∧ m = .int .i64 (j : Int) ∧ Hid (Mid F x i j) ∧ Hid (Below w.heap.size w wr)) (fun n m _ => (intOf m).toNat - (intOf n).toNat)
 case atStart => exact ⟨0, F.length, Nat.zero_le _, Nat.le_refl _, rfl, rfl, HM, hid (Below.refl _ _)⟩
 case round =>
  obtain ⟨i, j, hij, hj, rfl, rfl, HMD, HB⟩ := hrel
  by_cases hlt : i < j
  ·obtain ⟨H, hH⟩ : ∃ H : Nat, (i + j) / 2 = H := ⟨_, rfl⟩
   have i1 : (i : Int) < j := by omega
   have i2 : (j : Int) ≤ F.length := by omega
   have hH1 : i ≤ H := by omega
   have hH2 : H < j := by omega
   have s1 : ((i : Int) + (j : Int)) / 2 = (H : Int) := by omega
   have i3 : (H : Int) < F.length := by omega
   obtain ⟨b, off, p, rfl, hbl, hp, c0, c1⟩ := (HF.out.below HB.out).at (i := H) (by omega)
   have cB := byID_any p.id p.f p.fL.length p.fCap x wr
   unfold Gives at cB
   have HUP := hid (fun hx => HMD.out.up HS.out hp hx)
   have HDN := hid (fun hx => HMD.out.down HS.out hp hx)
   clear hp hH
   by_cases hx : p.id < x
   ·rw [cmpI_lt hx] at cB
    have HX := hid hx
    clear hx
    go_wp2_with (go_at_call 66; ((with_reducible refine cB.mono ?_); rintro e w1 ⟨rfl, hb1⟩))
    exact ⟨⟨H + 1, j, by omega, hj, by go_num, rfl, hid (HUP.out HX.out), hid (HB.out.trans (hb1.mono HB.out.size))⟩, by simp [intOf]; omega⟩
   ·obtain ⟨V, hV⟩ : ∃ V : Int, Hid (cmpI p.id x = V) := ⟨_, rfl⟩
    have hV0 : 0 ≤ V := by rw [← hV.out]; exact cmpI_ge hx
    rw [hV.out] at cB
    have HX := hid hx
    clear hx
    have d1 : decide (V < 0) = false := decide_eq_false (by omega)
    have d2 : ¬ V < 0 := by omega
    go_wp2_with (go_at_call 66; ((with_reducible refine cB.mono ?_); rintro e w1 ⟨rfl, hb1⟩))
    exact ⟨⟨i, H, hH1, by omega, rfl, rfl, hid (HDN.out HX.out), hid (HB.out.trans (hb1.mono HB.out.size))⟩, by simp [intOf]; omega⟩
  ·obtain rfl : i = j := by omega
   obtain rfl : P = i := HP.out i HMD.out hj
   have j1 : ¬ ((P : Int) < (P : Int)) := by omega
   by_cases hl : P < F.length
   ·have i3 : (P : Int) < F.length := by omega
    obtain ⟨b, off, p, rfl, hbl, hp, c0, c1⟩ := (HF.out.below HB.out).at (i := P) hl
    have cB := byID_any p.id p.f p.fL.length p.fCap x wr
    unfold Gives at cB
    obtain ⟨V, hV⟩ : ∃ V : Int, Hid (cmpI p.id x = V) := ⟨_, rfl⟩
    rw [hV.out] at cB
    clear hp
    go_wp2_with (go_at_call 66; ((with_reducible refine cB.mono ?_); rintro e w1 ⟨rfl, hb1⟩))
    go_ret2
    exact ⟨_, rfl, HB.out.trans (hb1.mono HB.out.size)⟩
   ·have i3 : ¬ ((P : Int) < F.length) := by omega
    go_wp2
    go_ret2
    exact ⟨.inl rfl, HB.out⟩
end Go.Proofs.YtaciegkblklokaaGreat.typing
namespace Go.Proofs.YtaciegkblklokaaGreat.typing
open Go.RowKit Go.Proofs.YtaciegkblklokaaGreat.schema
open Go.Proofs.YtaciegkblklokaaGreat.field (Gives newB gives_from)
theorem fmV_set : ∀ (L : List Fm) (k : Nat) (p q : Fm) (v : Value), L[k]? = some p → q.id = p.id → v = .slice q.f q.fL.length q.fCap → (fmV L).set (k * 2 + 1) v = fmV (L.set k q)
 | [], k, p, q, v, h, _, _ => by simp at h
 | r :: L, 0, p, q, v, h, hi, hv => by
  simp at h; subst h
  subst hv
  simp [fmV, fmC, hi]
 | r :: L, k + 1, p, q, v, h, hi, hv => by
  have := fmV_set L k p q v (by simpa using h) hi hv
  rw [List.set_cons_succ]
  unfold fmV
  rw [← this, show (k + 1) * 2 + 1 = (fmC r).length + (k * 2 + 1) by simp [fmC]; omega, List.set_append_right _ _ (by omega)]
  simp
def Small (w : World) (F : List Fm) : Prop := F.length ≤ 40 ∧ ∀ p ∈ F, field.Fds w p.f p.fL ∧ p.fL.length ≤ 40
theorem Small.below {w w' : World} {F : List Fm} (h : Small w F) (hb : Below w.heap.size w w') : Small w' F := ⟨h.1, fun p hp => ⟨(h.2 p hp).1.below hb, (h.2 p hp).2⟩⟩
structure Cl (B : Nat) (v : Int) (P : List schema.Form) (n : Nat) (u : Value) (k : Nat) (G : List Fm) (w0 wr : World) : Prop where
 box : Block wr B 24 [.int .i64 v, u]
 res : Block wr (B + 1) 24 [.int .i64 0, .slice none 0 0]
 row : wr.ownsRow (B + 2) 58 2 u n (fmV G)
 each : ∀ i p, i < k → G[i]? = some p → OwnM B wr p
 rest : ∀ i p, k ≤ i → G[i]? = some p → field.Fds w0 p.f p.fL ∧ p.fL.length ≤ 40
 eq : forms G = P
 below : Below B w0 wr
theorem set_forms {G : List Fm} {k : Nat} {p q : Fm} (h : G[k]? = some p) (hq : q.p = p.p) : forms (G.set k q) = forms G := by
 unfold forms
 rw [List.map_set, hq]
 apply List.ext_getElem?
 intro i
 rw [List.getElem?_set]
 split
 ·rename_i e
  subst e
  have hk := (List.getElem?_eq_some_iff.1 h).1
  simp [hk]
  exact ((List.getElem?_eq_some_iff.1 h).2 ▸ rfl)
 ·rfl
theorem Cl.step {B : Nat} {v : Int} {P : List schema.Form} {n cap g k : Nat} {G : List Fm} {w0 wr w1 w3 : World} {p q : Fm} (h : Cl B v P n (.slice (some ⟨g, 0, none⟩) n cap) k G w0 wr) (hw0 : B ≤ w0.heap.size)
  (h1 : Below wr.heap.size wr w1) (h3 : Below w1.heap.size w1 w3) (hp : G[k]? = some p) (hq : q.p = p.p) (ho : w3.ownsRow w1.heap.size 26 5 (.slice q.f q.fL.length q.fCap) q.fL.length (fdV q.fL)) :
  Cl B v P n (.slice (some ⟨g, 0, none⟩) n cap) (k + 1) (G.set k q) w0 (w3.setCell ⟨g, k * 2 + 1, none⟩ (.slice q.f q.fL.length q.fCap)) := by
 have hb13 := h1.trans (h3.mono h1.size)
 have hg := World.ownsRow.lt h.row g rfl
 have hrow := ownsRow_later h.row hb13
 have hst := hrow.stored (k * 2 + 1) (.slice q.f q.fL.length q.fCap)
 have hid : q.id = p.id := by have := congrArg Prod.fst hq; exact this
 rw [fmV_set G k p q _ hp hid rfl] at hst
 have hsy : StayT 26 w3 (w3.setCell ⟨g, k * 2 + 1, none⟩ (.slice q.f q.fL.length q.fCap)) := by
  rcases hrow.2 with ⟨hv, _⟩ | ⟨g', cap', cur, hv, _, hh, _⟩
  ·cases hv
  ·cases hv
   exact stay_store 26 (g := g) (t := 58) (cs := cur.toList) (by show _ = _; simpa using hh) fd_fm _ _
 refine ⟨?_, ?_, hst.1, ?_, ?_, ?_, ?_⟩
 ·exact (h.box.later hb13).apart _ _ _ (by omega)
 ·exact (h.res.later hb13).apart _ _ _ (by omega)
 ·intro i r hi hr
  rw [List.getElem?_set] at hr
  split at hr
  ·rename_i e
   split at hr
   ·cases hr
    have := h1.size
    have hlt := h.box.lt
    exact hsy.row (own_low ho (by omega))
   ·cases hr
  ·exact hsy.row (ownsRow_later (h.each i r (by omega) hr) hb13)
 ·intro i r hi hr
  rw [List.getElem?_set, if_neg (by omega)] at hr
  exact h.rest i r (by omega) hr
 ·rw [set_forms hp hq, h.eq]
 ·exact below_setCells (h.below.trans (hb13.mono (by have := h.box.lt; omega))) (by omega) _ [_]
theorem sc_info2 (x y : Value) : (Tryz.prog.info? 24).map (·.size) = some [x, y].length := by kernel_rfl
theorem sc_fd : (24 : TypeId) ≠ 26 := by decide
theorem own_past' {w : World} {B e sz n S o : Nat} {u v : Value} {xs : List Value} (h : w.ownsRow B e sz u n xs) (hS : S < B) : (w.setCell ⟨S, o, none⟩ v).ownsRow B e sz u n xs :=
 ownsRow_heap h (fun g hg => by have := World.ownsRow.lt h g hg; exact Below.heap_setCell w ⟨S, o, none⟩ v g (by show g ≠ S; omega))
def ClonedAs (v : Int) (P : List schema.Form) (w : World) (e : Ending) (w' : World) : Prop :=
 ∃ u G, e = .returned (.agg #[.int .i64 v, u]) ∧ w'.ownsRow w.heap.size 58 2 u G.length (fmV G) ∧ (∀ p ∈ G, OwnM w.heap.size w' p) ∧ forms G = P ∧ Below w.heap.size w w'
set_option maxRecDepth 20000 in
set_option maxHeartbeats 1600000 in
theorem cloned_any (v : Int) (a : Option Addr) (c : Nat) (F : List Fm) (w : World) (h : Fms w a F) (hF : Small w F) :
  Calls Tryz.prog 64 #[zS v a F.length c] w (ClonedAs v (forms F) w) := by
 have h40 := hF.1
 have hml : (F.length : Int) ≤ 40 := by omega
 obtain ⟨W2, hW2⟩ : ∃ W2, W2 = ((w.alloc (.cells (zS v a F.length c) 24))).alloc (.cells #[.int .i64 0, .slice none 0 0] 24) := ⟨_, rfl⟩
 have hb2 : Below w.heap.size w W2 := by rw [hW2]; exact (((Below.refl _ _).alloc (Nat.le_refl _) _).alloc (by simp) _)
 have hs2 : W2.heap.size = w.heap.size + 2 := by rw [hW2]; simp
 have hB1 : Block W2 w.heap.size 24 (zS v a F.length c) := by rw [hW2]; exact (Block.new w _ _).alloc _
 have hB2 : Block W2 (w.heap.size + 1) 24 [.int .i64 0, .slice none 0 0] := by rw [hW2]; have := Block.new ((w.alloc (.cells (zS v a F.length c) 24))) 24 [.int .i64 0, .slice none 0 0]; simpa using this
 have cM := cloneM_any a c F W2 (h.below hb2) (by omega)
 have r0 := hB1.cell 0
 have r1 := hB1.cell 1
 have HB1 := hid hB1
 have HB2 := hid hB2
 have HW := hid hb2
 have HF := hid hF
 have HS2 := hid hs2
 have hne : w.heap.size ≠ w.heap.size + 1 := by omega
 have HK : Hid (∀ (W : World) (u : Value) (G : List Fm), Below W2.heap.size W2 W → W.ownsRow W2.heap.size 58 2 u F.length (fmV F) → Cl w.heap.size v (forms F) F.length u 0 F w (W.setCell ⟨w.heap.size, 1, none⟩ u)) := hid (fun W u G hb ho => by
  refine ⟨?_, ?_, ?_, fun i p hi => absurd hi (by omega), fun i p _ hp => hF.2 p (List.mem_of_getElem? hp), rfl, ?_⟩
  ·have := (hB1.later hb).setCell 1 u
   simpa using this
  ·exact (hB2.later hb).apart _ _ _ (by omega)
  ·rw [← hs2]
   exact ownsRow_heap ho (fun g hg => by have := World.ownsRow.lt ho g hg; exact Below.heap_setCell W ⟨w.heap.size, 1, none⟩ u g (by show g ≠ w.heap.size; omega))
  ·exact below_setCells (hb2.trans (hb.mono (by omega))) (Nat.le_refl _) 1 [u])
 have HR : Hid (∀ W, Below W2.heap.size W2 W → W.cell? ⟨w.heap.size, 1, none⟩ = some (.slice a F.length c) ∧ W.frozen? ⟨w.heap.size, 1, none⟩ = false) := hid (fun W hb => ⟨(hB1.later hb).cell 1, (hB1.later hb).frozen 1⟩)
 clear h hF hB1 hB2 hb2 h40 hs2
 subst hW2
 go_enter Tryz.func64, Tryz.ntmps64
 go_wp2_with (go_at_call 88; ((with_reducible refine cM.mono ?_); rintro e w1 ⟨u, rfl, ho, hb1⟩; obtain ⟨x, xc, rfl, hxc⟩ := ownsRow_slice ho; obtain ⟨k1, k2⟩ := HR.out _ hb1; have HCL := hid (HK.out _ _ F hb1 ho); clear ho hb1))
 clear cM r0 r1 HB1 HB2 HW HS2 HK HR
 obtain ⟨B, hB⟩ : ∃ B, Hid (w.heap.size = B) := ⟨_, rfl⟩
 rw [hB.out] at HCL k1 k2 hne ⊢
 generalize w1.setCell ⟨B, 1, none⟩ (.slice x F.length xc) = w2 at *
 clear k1 k2
 go_loopw [12] (fun n wr => ∃ k G, k ≤ F.length ∧ n = .int .i64 (k : Int) ∧ Hid (Cl B v (forms F) F.length (.slice x F.length xc) k G w wr)) (fun n _ => F.length - (intOf n).toNat)
 case atStart => exact ⟨0, F, Nat.zero_le _, rfl, HCL⟩
 case round =>
  obtain ⟨k, G, hk, rfl, HC⟩ := hrel
  have z1 := HC.out.box.cell 1
  have z0 := HC.out.box.cell 0
  have y0 := HC.out.res.cell 0
  have y1 := HC.out.res.cell 1
  have f0 := HC.out.res.frozen 0
  have f1 := HC.out.res.frozen 1
  by_cases hlt : k < F.length
  ·have hGl : G.length = F.length := by have := congrArg List.length HC.out.eq; rwa [forms_length, forms_length] at this
   obtain ⟨g, rfl⟩ : ∃ g, x = some ⟨g, 0, none⟩ := by
    rcases HC.out.row.2 with ⟨hv, h0⟩ | ⟨g, _, _, hv, _⟩
    ·omega
    ·cases hv; exact ⟨g, rfl⟩
   obtain ⟨p, hp⟩ : ∃ p, G[k]? = some p := ⟨_, List.getElem?_eq_getElem (by omega)⟩
   have i1 : (k : Int) < F.length := by omega
   have c0 : wr.cell? ⟨g, k * 2, none⟩ = some (.int .i64 p.id) := by
    have := HC.out.row.cells (g := g) rfl (k * 2) _ (fmV_at G k p 0 hp (by omega))
    rwa [Addr.add_lit, Nat.zero_add] at this
   have c1 : wr.cell? ⟨g, k * 2 + 1, none⟩ = some (.slice p.f p.fL.length p.fCap) := by
    have := HC.out.row.cells (g := g) rfl (k * 2 + 1) _ (fmV_at G k p 1 hp (by omega))
    rwa [Addr.add_lit, Nat.zero_add] at this
   have HP := hid hp
   have hrp := HC.out.rest k p (Nat.le_refl _) hp
   clear hp
   obtain ⟨pi, pf, pc, pL⟩ := p
   simp only at c0 c1 hrp
   have HW1 : Hid (Below wr.heap.size wr ((wr.alloc (.cells (zS pi pf pL.length pc) 58)))) := hid (newB _ _)
   have HV : Hid (Block ((wr.alloc (.cells (zS pi pf pL.length pc) 58))) wr.heap.size 58 (zS pi pf pL.length pc)) := hid (Block.new _ _ _)
   have hgw := World.ownsRow.lt HC.out.row g rfl
   have hBw := HC.out.box.lt
   have hg1 : g ≠ wr.heap.size := by omega
   have hg2 : wr.heap.size ≠ g := by omega
   have hg3 : B ≠ wr.heap.size := by omega
   have hg4 : wr.heap.size ≠ B := by omega
   have hg5 : B ≠ g := by omega
   have hg6 : g ≠ B := by omega
   have HW0 : Hid (Below w.heap.size w ((wr.alloc (.cells (zS pi pf pL.length pc) 58)))) := hid (by have h1 := HC.out.below; rw [← hB.out] at h1 hBw; exact h1.trans (HW1.out.mono (Nat.le_of_lt hBw)))
   have cC := fun (W : World) (hb : Below ((wr.alloc (.cells (zS pi pf pL.length pc) 58))).heap.size ((wr.alloc (.cells (zS pi pf pL.length pc) 58))) W) => cloneF_any pf pc pL W (hrp.1.below (HW0.out.trans (hb.mono HW0.out.size))) (by omega)
   have HST : Hid (∀ (W : World) (y : Option Addr) (yc : Nat), Below ((wr.alloc (.cells (zS pi pf pL.length pc) 58))).heap.size ((wr.alloc (.cells (zS pi pf pL.length pc) 58))) W → W.ownsRow ((wr.alloc (.cells (zS pi pf pL.length pc) 58))).heap.size 26 5 (.slice y pL.length yc) pL.length (fdV pL) →
     Cl B v (forms F) F.length (.slice (some ⟨g, 0, none⟩) F.length xc) (k + 1) (G.set k ⟨pi, y, yc, pL⟩) w (W.setCell ⟨g, k * 2 + 1, none⟩ (.slice y pL.length yc))) := hid (fun W y yc hb ho => HC.out.step (Nat.le_of_eq hB.out.symm) HW1.out hb HP.out rfl ho)
   have HFC : Hid (∀ (W : World), Below ((wr.alloc (.cells (zS pi pf pL.length pc) 58))).heap.size ((wr.alloc (.cells (zS pi pf pL.length pc) 58))) W → W.cell? ⟨B, 1, none⟩ = some (.slice (some ⟨g, 0, none⟩) F.length xc) ∧ W.cell? ⟨wr.heap.size, 1, none⟩ = some (.slice pf pL.length pc) ∧ W.cell? ⟨g, k * 2 + 1, none⟩ = some (.slice pf pL.length pc) ∧ W.frozen? ⟨g, k * 2 + 1, none⟩ = false) := hid (fun W hb => by
    have hbw := HW1.out.trans (hb.mono HW1.out.size)
    refine ⟨(HC.out.box.later hbw).cell 1, (HV.out.later hb).cell 1, ?_, ?_⟩
    ·rw [hbw.cell (p := ⟨g, k * 2 + 1, none⟩) hgw.2]; exact c1
    ·exact (ownsRow_later HC.out.row hbw).frozenAt _)
   clear hrp
   go_wp2
   have hbd : Below ((wr.alloc (.cells (zS pi pf pL.length pc) 58))).heap.size ((wr.alloc (.cells (zS pi pf pL.length pc) 58))) ((wr.alloc (.cells (zS pi pf pL.length pc) 58))).drew := below_drew (Below.refl _ _)
   obtain ⟨q1, q2, q3, q4⟩ := HFC.out _ hbd
   go_region_held3 (fun w' => w'.cell? ⟨B, 1, none⟩ = some (.slice (some ⟨g, 0, none⟩) F.length xc) ∧ w'.cell? ⟨wr.heap.size, 1, none⟩ = some (.slice pf pL.length pc)) (first | assumption | go_keep) (first
    | (go_at_call 69; (with_reducible refine (cC _ hbd).mono ?_); rintro e w3 ⟨y, rfl, ho3, hb3⟩; obtain ⟨ya, yc, rfl, _⟩ := ownsRow_slice ho3; have hb13 := hbd.trans (hb3.mono hbd.size); obtain ⟨q1, q2, q3, q4⟩ := HFC.out w3 hb13; have HO3 := hid ho3; clear ho3))
   go_wp2
   exact ⟨⟨k + 1, _, by omega, by go_num, hid (HST.out w3 ya yc hb13 HO3.out)⟩, by simp [intOf]; omega⟩
  ·obtain rfl : k = F.length := by omega
   have hGl : G.length = F.length := by have := congrArg List.length HC.out.eq; rwa [forms_length, forms_length] at this
   go_wp2
   have hR := (HC.out.res.setCell 0 (.int .i64 v)).setCell 1 (.slice x F.length xc)
   have hBw := HC.out.box.lt
   refine bodyPost_ret (results_cell (b := B + 1) (o := 0) rfl rfl hR.whole Tryz.underlying24 rfl (sc_info2 _ _)) rfl ?_
   refine ⟨_, G, rfl, ?_, fun p hp => ?_, HC.out.eq, ?_⟩
   ·rw [hB.out, hGl]; exact own_low (own_past' (own_past' HC.out.row (by omega)) (by omega)) (by omega)
   ·obtain ⟨i, hi⟩ := List.mem_iff_getElem?.1 hp
    have := HC.out.each i p (by have := (List.getElem?_eq_some_iff.1 hi).1; omega) hi
    rw [hB.out]
    have hsy := (stay_store 26 HC.out.res sc_fd 0 (.int .i64 v)).trans (stay_store 26 (HC.out.res.setCell 0 (.int .i64 v)) sc_fd 1 (.slice x F.length xc))
    exact hsy.row this
   ·have h1 := HC.out.below
    rw [← hB.out] at h1 ⊢
    exact below_setCells (below_setCells h1 (by omega) 0 [_]) (by omega) 1 [_]
end Go.Proofs.YtaciegkblklokaaGreat.typing
namespace Go.Proofs.YtaciegkblklokaaGreat.schema
open Go.RowKit Go.Proofs.YtaciegkblklokaaGreat.rows
def MadeM (base : Nat) (ob : Option Nat) (n : Nat) (ys : List Value) (w : World) (e : Ending) (w' : World) : Prop := ∃ v', e = .returned v' ∧ w'.ownsRow base 58 2 v' n ys ∧ w.grownBy w' ob
set_option maxRecDepth 20000 in
theorem insertM_any (base n i g goff vc : Nat) (gC : List Value) (gt : TypeId) (v : Value) (xs news : List Value) (w : World) (hown : w.ownsRow base 58 2 v n xs) (hbase : base ≤ w.heap.size) (hi : i ≤ n)
  (hl : news.length = 2) (hG : Block w g gt gC) (hgo : goff + 2 ≤ gC.length) (hgv : v.ownBlock ≠ some g) (hnews : ∀ j u, news[j]? = some u → gC[goff + j]? = some u) (h1 : ∀ u ∈ news, u.oneCell' = true) (hx1 : ∀ u ∈ xs, u.oneCell' = true) (hn : n ≤ 1000) :
  Calls Tryz.prog 68 #[v, .int .i64 i, .slice (some ⟨g, goff, none⟩) 1 vc] w (MadeM base v.ownBlock (n + 1) (xs.take (i * 2) ++ (news ++ xs.drop (i * 2))) w) := by
 obtain ⟨i0, hi0, hz0, hz1, hz2⟩ := fm_info_parts
 have hxl := hown.1
 have hcell : ∀ j u, news[j]? = some u → w.cell? ((⟨g, goff, none⟩ : Addr).add j) = some u := fun j u hj => by rw [Addr.add_lit, hG.cell]; exact hnews j u hj
 have b1 : (i : Int) ≤ n := by omega
 have b2 : (n : Int) ≤ 1000 := by omega
 by_cases hin : i = n
 ·subst hin
  have e1 : xs.take (i * 2) = xs := List.take_of_length_le (by omega)
  have e2 : xs.drop (i * 2) = [] := List.drop_of_length_le (by omega)
  rw [e1, e2, List.append_nil]
  obtain ⟨bp, cp, rfl, hcp⟩ := ownsRow_slice hown
  have HO := hid hown
  have HC := hid hcell
  have HN2 : Hid (i + 1 ≤ maxLen) := by show _ ≤ _; unfold maxLen; omega
  have HN3 : Hid ((i + 1) * 32 ≤ 140737488355328) := by show _ ≤ _; omega
  have HL := hid hl
  have H1 := hid h1
  have HB := hid hbase
  obtain ⟨OB, hOB⟩ : ∃ OB, (Value.slice bp i cp).ownBlock = OB := ⟨_, rfl⟩
  have HOB := hid hOB
  rw [hOB]
  clear hOB hown hcell hxl hG hgo hnews h1 hx1 e1 e2 hl hbase hgv
  by_cases hci : i = cp
  ·subst hci
   go_enter Tryz.func68, Tryz.ntmps68
   go_wp2_with (at_builtin; refine wpList_append_fromN rfl _ _ 22 rfl base 58 i0 _ 2 32 Tryz.underlying22 hi0 hz0 hz1 hz2 (by simp [Value.cells]) (by omega) _ i xs rfl HO.out (some ⟨g, goff, none⟩) 1 vc news rfl (by rw [HL.out]) (.inr ⟨_, rfl, HC.out⟩) H1.out HN2.out HN3.out HB.out ?_)
   intro v' w1 ho hg
   have HO2 := hid ho
   have HG2 := hid hg
   rw [HOB.out] at HG2
   clear ho hg
   go_wp2
   go_ret
   exact ⟨_, rfl, HO2.out, HG2.out⟩
  ·go_enter Tryz.func68, Tryz.ntmps68
   go_wp2_with (at_builtin; refine wpList_append_fromN rfl _ _ 22 rfl base 58 i0 _ 2 32 Tryz.underlying22 hi0 hz0 hz1 hz2 (by simp [Value.cells]) (by omega) _ i xs rfl HO.out (some ⟨g, goff, none⟩) 1 vc news rfl (by rw [HL.out]) (.inr ⟨_, rfl, HC.out⟩) H1.out HN2.out HN3.out HB.out ?_)
   intro v' w1 ho hg
   have HO2 := hid ho
   have HG2 := hid hg
   rw [HOB.out] at HG2
   clear ho hg
   go_wp2
   go_ret
   exact ⟨_, rfl, HO2.out, HG2.out⟩
 ·rcases hown.2 with ⟨rfl, h0⟩ | ⟨b, cap, cur, rfl, hbb, hB, hnc, hcm, hcs, htake⟩
  ·omega
  ·obtain ⟨C, rfl⟩ : ∃ C : List Value, cur = C.toArray := ⟨cur.toList, by simp⟩
   simp only [List.size_toArray] at hcs
   have htk : C.take (n * 2) = xs := by simpa using htake
   have hbg : g ≠ b := by intro h; subst h; exact hgv rfl
   have hX1 : C.take (i * 2) = xs.take (i * 2) := by rw [← htk, List.take_take, Nat.min_eq_left (Nat.mul_le_mul_right _ hi)]
   have hX2l : (xs.drop (i * 2)).length = (n - i) * 2 := by rw [List.length_drop, hxl, Nat.sub_mul]
   have hX2c : ∀ j u, (xs.drop (i * 2))[j]? = some u → C[i * 2 + j]? = some u := fun j u hj => by
    rw [List.getElem?_drop, ← htk, List.getElem?_take] at hj
    split at hj
    ·exact hj
    ·cases hj
   have hX21 : ∀ u ∈ xs.drop (i * 2), u.oneCell' = true := fun u hu => hx1 u (List.mem_of_mem_drop hu)
   obtain ⟨X2, hX2⟩ : ∃ X2, xs.drop (i * 2) = X2 := ⟨_, rfl⟩
   rw [hX2] at hX2l hX2c hX21 ⊢
   rw [← hX1]
   have hlt : i < n := by omega
   have c1 : (i : Int) < n := by omega
   have c2 : ¬ ((i : Int) = (n : Int)) := by omega
   have c3 : ¬ (cap = i) := by omega
   have hcm' : cap ≤ 9223372036854775807 := by unfold maxLen at hcm; omega
   have w1 : IntKind.i64.wrap ((i : Int) + 1) = (i : Int) + 1 := by rw [IntKind.wrap_i64]; omega
   have w2 : IntKind.i64.wrap ((n : Int) + 1) = (n : Int) + 1 := by rw [IntKind.wrap_i64]; omega
   have t1 : ((i : Int) + 1).toNat = i + 1 := by omega
   have t2 : ((n : Int) + 1).toNat = n + 1 := by omega
   have p1 : (0 : Int) ≤ (i : Int) + 1 := by omega
   have p2 : (i : Int) + 1 ≤ (n : Int) + 1 := by omega
   have hBB : Block w b 58 C := hB
   have hOB : (Value.slice (some ⟨b, 0, none⟩) n cap).ownBlock = some b := rfl
   rw [hOB]
   clear hOB
   by_cases hroom : n + 1 ≤ cap
   ·have c4 : ¬ ((cap : Int) < (n : Int) + 1) := by omega
    have c5 : ¬ (cap = i + 1) := by omega
    have c6 : (n : Int) + 1 ≤ (cap : Int) := by omega
    have hov : ∀ lb cb, (callFunc 90 #[.slice (some ⟨g, goff, none⟩) 1 vc, .slice (some ⟨b, (i + 1) * 2, none⟩) lb cb]).run Tryz.prog w = .ok (.value (.bool false)) w := fun lb cb => by
     rw [run_callFunc_extern Tryz.func90 (by kernel_rfl) (by kernel_rfl) (by kernel_rfl) (e := Extern.SlicesOverlaps.overlaps #[22, 22] #[4]) (by kernel_rfl),
      run_overlapsN w 22 4 58 Tryz.underlying22 i0 hi0 ⟨g, goff, none⟩ ⟨b, (i + 1) * 2, none⟩ 1 vc lb cb hbg gt 58 gC C hG hBB (by intro h; subst h; simp at hcs; omega)]
     rfl
    have HB := hid hBB
    have HG := hid hG
    have HCS := hid hcs
    have HL := hid hl
    have HX2l := hid hX2l
    have HX2c := hid hX2c
    have HX21 := hid hX21
    have H1 := hid h1
    have HNW := hid hnews
    have HGO := hid hgo
    have HCM := hid hcm
    have HBB := hid hbb
    clear hown hcell hxl hG hgo hnews h1 hx1 hl hbase hgv htake htk hX1 hX2 hX2l hX2c hX21 hB hBB hcs hcm hbb
    go_enter Tryz.func68, Tryz.ntmps68
    go_wp2_with (simp only [hov])
    refine tail.region 8 (by kernel_rfl) (by kernel_rfl) ?_
    simp only [List.take_succ_cons, List.take_zero, List.drop_succ_cons, List.drop_zero]
    repeat (go_big_quiet_step (fail))
    refine wpQuiet_nil ?_
    rintro _ ⟨nq, rfl⟩
    refine wpList_copyN rfl _ _ 22 22 rfl 58 i0 2 Tryz.underlying22 hi0 hz1 _ _ _ _ _ _ rfl rfl b ((i + 1) * 2) C 58 (HB.out.drewN nq) (n - i) (by simp only [Nat.min_def]; split <;> omega) X2 HX2l.out (fun _ => ⟨rfl, ⟨b, i * 2, none⟩, rfl, fun j u hj => by rw [Addr.add_lit, (HB.out.drewN nq).cell]; exact HX2c.out j u hj⟩) (by rw [HX2l.out, HCS.out, ← Nat.add_mul]; exact Nat.mul_le_mul_right _ (by omega)) HX21.out ?_
    intro w3 h3
    have hG3 : Block w3 g gt gC := HG.out.but h3.out.2.1 HG.out.lt hbg
    have HG3 := hid hG3
    have hs3 := h3.out.2.2
    clear hG3
    go_wp2_with (refine wpList_copyN rfl _ _ 22 22 rfl 58 i0 2 Tryz.underlying22 hi0 hz1 _ _ _ _ _ _ rfl rfl b (i * 2) (splice C ((i + 1) * 2) X2) 58 h3.out.1 1 (by simp only [Nat.min_def]; split <;> omega) news (by rw [HL.out]) (fun _ => ⟨rfl, ⟨g, goff, none⟩, rfl, fun j u hj => by rw [Addr.add_lit, HG3.out.cell]; exact HNW.out j u hj⟩) (by rw [length_splice _ _ _ (by rw [HX2l.out, HCS.out, ← Nat.add_mul]; exact Nat.mul_le_mul_right _ (by omega)), HL.out, HCS.out]; exact (by omega : i * 2 + 2 ≤ cap * 2)) H1.out ?_)
    intro w4 h4
    go_wp2
    go_ret
    have hl2 := two C (i * 2) news X2 (by rw [HL.out, HX2l.out, HCS.out]; omega)
    rw [HL.out, HX2l.out, show i * 2 + 2 = (i + 1) * 2 by omega, show (i + 1) * 2 + (n - i) * 2 = (n + 1) * 2 by omega, List.append_assoc] at hl2
    refine ⟨_, rfl, own_of h4.out.1 HBB.out hroom HCM.out ?_ hl2, ?_⟩
    ·rw [length_splice, length_splice, HCS.out]
     ·rw [HX2l.out, HCS.out]; omega
     ·rw [length_splice, HL.out, HCS.out]
      ·omega
      ·rw [HX2l.out, HCS.out]; omega
    ·have e3 := h3.out.2.1
     have e4 := h4.out.2.1
     exact grown_of_but (v := .slice (some ⟨b, 0, none⟩) n cap) (But.trans (But.drewN e3 0) e4) rfl
   ·obtain rfl : n = cap := by omega
    have c4 : (n : Int) < (n : Int) + 1 := by omega
    have k1 : IntKind.i64.wrap ((n : Int) + 1 - (i : Int)) = (n : Int) + 1 - (i : Int) := by rw [IntKind.wrap_i64]; omega
    have HB := hid hBB
    have HG := hid hG
    have HCS := hid hcs
    have HL := hid hl
    have HX2l := hid hX2l
    have HX2c := hid hX2c
    have HX21 := hid hX21
    have H1 := hid h1
    have HNW := hid hnews
    have HGO := hid hgo
    have HCM := hid hcm
    have HBB := hid hbb
    have HBW := hid hbase
    have hsz0 : 0 < 2 := by omega
    have HN3 : Hid ((i + (n + 1 - i)) * 32 ≤ 140737488355328) := by show _ ≤ _; omega
    have HN2 : Hid (i + (n + 1 - i) ≤ maxLen) := by show _ ≤ _; unfold maxLen; omega
    have HF0 : Hid (i * 2 ≤ C.length) := by show _ ≤ _; rw [hcs]; omega
    clear hown hcell hxl hG hgo hnews h1 hx1 hl hbase hgv htake htk hX1 hX2 hX2l hX2c hX21 hB hBB hcs hcm hbb
    go_enter Tryz.func68, Tryz.ntmps68
    go_wp2_with (at_builtin; refine wpList_append_zerosN rfl _ _ 22 3 rfl 58 i0 _ 2 32 Tryz.underlying22 Tryz.underlying3 hi0 hz0 hz1 hz2 (by simp [Value.cells]) hsz0 b i n rfl (n + 1 - i) _ rfl (by omega) (by omega) C HB.out HF0.out (by omega) (by omega) HN3.out HN2.out ?_)
    intro G R w3 h3
    have hs3 : w.heap.size < w3.heap.size := h3.out.2.2.2.2.2
    have g1 : ¬ (G = i) := by have := h3.out.2.2.1; omega
    have g2 : ¬ (G = i + 1) := by have := h3.out.2.2.1; omega
    have g3 : i + (n + 1 - i) = n + 1 := by omega
    have HG1 := hid h3.out.2.2.1
    have HG2 := hid h3.out.2.2.2.1
    have HRl := hid h3.out.2.1
    have HLT := hid HB.out.lt
    have HLG := hid HG.out.lt
    have HB3 : Hid (Block w3 b 58 C) := hid (HB.out.later h3.out.2.2.2.2.1)
    have HG3 : Hid (Block w3 g gt gC) := hid (HG.out.later h3.out.2.2.2.2.1)
    have HCL : Hid ((C.take (i * 2) ++ R).length = G * 2) := by
     show _ = _
     rw [List.length_append, List.length_take, Nat.min_eq_left HF0.out, HRl.out, ← Nat.add_mul]
     congr 1
     have := HG1.out
     omega
    rw [g3]
    go_wp2_with (refine wpList_copyN rfl _ _ 22 22 rfl 58 i0 2 Tryz.underlying22 hi0 hz1 _ _ _ _ _ _ rfl rfl w.heap.size (i * 2) (C.take (i * 2) ++ R) 58 h3.out.1 1 (by simp only [Nat.min_def]; split <;> omega) news (by rw [HL.out]) (fun _ => ⟨rfl, ⟨g, goff, none⟩, rfl, fun j u hj => by rw [Addr.add_lit, HG3.out.cell]; exact HNW.out j u hj⟩) (by rw [HCL.out, HL.out]; have := HG1.out; omega) H1.out ?_)
    intro w4 h4
    have HB4 : Hid (Block w4 b 58 C) := hid (HB3.out.but h4.out.2.1 HB3.out.lt (by have := HLT.out; omega))
    have hs4 := h4.out.2.2
    have HL4 : Hid ((splice (C.take (i * 2) ++ R) (i * 2) news).length = G * 2) := hid (by rw [length_splice _ _ _ (by rw [HCL.out, HL.out]; have := HG1.out; omega), HCL.out])
    go_wp2
    refine tail.region 8 (by kernel_rfl) (by kernel_rfl) ?_
    simp only [List.take_succ_cons, List.take_zero, List.drop_succ_cons, List.drop_zero]
    repeat (go_big_quiet_step (fail))
    refine wpQuiet_nil ?_
    rintro _ ⟨nq, rfl⟩
    refine wpList_copyN rfl _ _ 22 22 rfl 58 i0 2 Tryz.underlying22 hi0 hz1 _ _ _ _ _ _ rfl rfl w.heap.size ((i + 1) * 2) (splice (C.take (i * 2) ++ R) (i * 2) news) 58 (h4.out.1.drewN nq) (n - i) (by simp only [Nat.min_def]; split <;> omega) X2 HX2l.out (fun _ => ⟨rfl, ⟨b, i * 2, none⟩, rfl, fun j u hj => by rw [Addr.add_lit, (HB4.out.drewN nq).cell]; exact HX2c.out j u hj⟩) (by rw [HL4.out, HX2l.out]; have := HG1.out; omega) HX21.out ?_
    intro w5 h5
    go_wp2
    go_ret
    have hl2 := two' (C.take (i * 2) ++ R) (i * 2) news X2 (by rw [HL.out, HX2l.out, HCL.out]; have := HG1.out; omega)
    rw [HL.out, HX2l.out, show i * 2 + 2 = (i + 1) * 2 by omega, show (i + 1) * 2 + (n - i) * 2 = (n + 1) * 2 by omega, List.append_assoc, List.take_left' (by rw [List.length_take, Nat.min_eq_left HF0.out])] at hl2
    refine ⟨_, rfl, own_of h5.out.1 HBW.out (by have := HG1.out; omega) HG2.out ?_ hl2, ?_⟩
    ·rw [length_splice, HL4.out]
     rw [HX2l.out, HL4.out]; have := HG1.out; omega
    ·exact grown_of_below (h3.out.2.2.2.2.1.trans ((But.trans (But.drewN h4.out.2.1 0) (by have := h5.out.2.1; exact this.mono (by simp [hs4]))).below (by omega) (Nat.le_refl _)))
end Go.Proofs.YtaciegkblklokaaGreat.schema
namespace Go.Proofs.YtaciegkblklokaaGreat.schema
open Go.RowKit Go.Proofs.YtaciegkblklokaaGreat.rows
def LessM (base : Nat) (ob : Option Nat) (n : Nat) (ys : List Value) (w : World) (e : Ending) (w' : World) : Prop := ∃ v', e = .returned v' ∧ w'.ownsRow base 58 2 v' n ys ∧ w.grownBy w' ob ∧ v'.ownBlock = ob
set_option maxRecDepth 20000 in
theorem deleteM_any (base N i : Nat) (v : Value) (xs : List Value) (w : World) (hown : w.ownsRow base 58 2 v (N + 1) xs) (hi : i ≤ N) (hx1 : ∀ u ∈ xs, u.oneCell' = true) (hn : N ≤ 1000) :
  Calls Tryz.prog 70 #[v, .int .i64 i, .int .i64 ((i : Int) + 1)] w (LessM base v.ownBlock N (xs.take (i * 2) ++ xs.drop ((i + 1) * 2)) w) := by
 obtain ⟨i0, hi0, hz0, hz1, hz2⟩ := fm_info_parts
 have hxl := hown.1
 rcases hown.2 with ⟨_, h0⟩ | ⟨b, cap, cur, rfl, hbb, hB, hnc, hcm, hcs, htake⟩
 ·omega
 ·obtain ⟨C, rfl⟩ : ∃ C : List Value, cur = C.toArray := ⟨cur.toList, by simp⟩
  simp only [List.size_toArray] at hcs
  have htk : C.take ((N + 1) * 2) = xs := by simpa using htake
  have hX1 : C.take (i * 2) = xs.take (i * 2) := by rw [← htk, List.take_take, Nat.min_eq_left (Nat.mul_le_mul_right _ (by omega))]
  have hX2l : (xs.drop ((i + 1) * 2)).length = (N - i) * 2 := by rw [List.length_drop, hxl, ← Nat.sub_mul]; congr 1; omega
  have hX2c : ∀ j u, (xs.drop ((i + 1) * 2))[j]? = some u → C[(i + 1) * 2 + j]? = some u := fun j u hj => by
   rw [List.getElem?_drop, ← htk, List.getElem?_take] at hj
   split at hj
   ·exact hj
   ·cases hj
  have hX21 : ∀ u ∈ xs.drop ((i + 1) * 2), u.oneCell' = true := fun u hu => hx1 u (List.mem_of_mem_drop hu)
  obtain ⟨X2, hX2⟩ : ∃ X2, xs.drop ((i + 1) * 2) = X2 := ⟨_, rfl⟩
  rw [hX2] at hX2l hX2c hX21 ⊢
  rw [← hX1]
  have hOB : (Value.slice (some ⟨b, 0, none⟩) (N + 1) cap).ownBlock = some b := rfl
  rw [hOB]
  clear hOB
  have c1 : (i : Int) ≤ N := by omega
  have c2 : ¬ ((i : Int) = (i : Int) + 1) := by omega
  have c3 : ¬ (cap = N) := by omega
  have c4 : ¬ (cap = i) := by omega
  have hcm' : cap ≤ 9223372036854775807 := by unfold maxLen at hcm; omega
  have b2 : (N : Int) ≤ 1000 := by omega
  have t1 : ((i : Int) + 1).toNat = i + 1 := by omega
  have t2 : ((N : Int) + 1).toNat = N + 1 := by omega
  have p1 : (0 : Int) ≤ (i : Int) + 1 := by omega
  have hBB : Block w b 58 C := hB
  have hz1c : ∀ u ∈ (Value.cells (.agg #[.int .i64 0, .slice none 0 0])).toList, u.oneCell' = true := by simp [Value.cells]; try decide
  have h0z : 0 < 2 := by omega
  have g3 : i + (N - i) = N := by omega
  have HB := hid hBB
  have HCS := hid hcs
  have HX2l := hid hX2l
  have HX2c := hid hX2c
  have HX21 := hid hX21
  have HCM := hid hcm
  have HBB := hid hbb
  have HNC : Hid ((N + 1) * 2 ≤ cap * 2) := Nat.mul_le_mul_right _ hnc
  clear hown hxl hx1 htake htk hX1 hX2 hX2l hX2c hX21 hB hBB hcs hcm hbb
  by_cases c5 : cap = i + 1
  ·obtain rfl : i = N := by omega
   subst c5
   go_enter Tryz.func70, Tryz.ntmps70
   go_wp2
   refine tail.region 6 (by kernel_rfl) (by kernel_rfl) ?_
   simp only [List.take_succ_cons, List.take_zero, List.drop_succ_cons, List.drop_zero]
   repeat (go_big_quiet_step (fail))
   refine wpQuiet_nil ?_
   rintro _ ⟨nq, rfl⟩
   refine wpList_append_inN rfl _ _ 22 rfl 58 i0 2 Tryz.underlying22 hi0 hz1 b _ _ rfl C (HB.out.drewN nq) _ 0 _ rfl X2 (by have := HX2l.out; simpa using this) (fun h => absurd h (by omega)) HX21.out (by omega) (by rw [HX2l.out, HCS.out]; have := HNC.out; omega) ?_
   intro w3 h3
   have HL3 : Hid ((splice C (i * 2) X2).length = (i + 1) * 2) := hid (by rw [length_splice _ _ _ (by rw [HX2l.out, HCS.out]; have := HNC.out; omega), HCS.out])
   go_wp2_with (refine wpList_clearN rfl _ 22 rfl 58 i0 _ 2 Tryz.underlying22 hi0 hz0 (by simp [Value.cells]) hz1c h0z _ 1 _ rfl b (i * 2) (splice C (i * 2) X2) 58 h3.out.1 (fun _ => by simp) (by rw [HL3.out]; have := HNC.out; omega) ?_)
   intro Z w4 h4
   go_wp2
   go_ret
   have hl2 : (splice (splice C (i * 2) X2) (i * 2) Z).take (i * 2) = C.take (i * 2) ++ X2 := by
    rw [splice_head _ _ _ _ (Nat.le_refl _) (by rw [HL3.out]; have := HNC.out; omega)]
    have := splice_take C (i * 2) X2 (by rw [HCS.out]; have := HNC.out; omega)
    rw [HX2l.out, ← Nat.add_mul, g3] at this
    exact this
   refine ⟨_, rfl, own_of h4.out.2.1 HBB.out (by omega) HCM.out (by rw [length_splice _ _ _ (by rw [HL3.out, h4.out.1]; have := HNC.out; omega), HL3.out]) hl2, ?_, rfl⟩
   exact grown_of_but (v := .slice (some ⟨b, 0, none⟩) i (i + 1)) (But.trans (But.drewN h3.out.2.1 0) (h4.out.2.2.1.mono (by have := h3.out.2.2; simp at this; omega))) rfl
  ·go_enter Tryz.func70, Tryz.ntmps70
   go_wp2
   refine tail.region 6 (by kernel_rfl) (by kernel_rfl) ?_
   simp only [List.take_succ_cons, List.take_zero, List.drop_succ_cons, List.drop_zero]
   repeat (go_big_quiet_step (fail))
   refine wpQuiet_nil ?_
   rintro _ ⟨nq, rfl⟩
   refine wpList_append_inN rfl _ _ 22 rfl 58 i0 2 Tryz.underlying22 hi0 hz1 b _ _ rfl C (HB.out.drewN nq) _ (N - i) _ (by rfl) X2 HX2l.out (fun h => ⟨⟨b, (i + 1) * 2, none⟩, rfl, fun j u hj => by rw [Addr.add_lit, (HB.out.drewN nq).cell]; exact HX2c.out j u hj⟩) HX21.out (by omega) (by rw [HX2l.out, HCS.out]; have := HNC.out; omega) ?_
   intro w3 h3
   rw [g3]
   have HL3 : Hid ((splice C (i * 2) X2).length = cap * 2) := hid (by rw [length_splice _ _ _ (by rw [HX2l.out, HCS.out]; have := HNC.out; omega), HCS.out])
   go_wp2_with (refine wpList_clearN rfl _ 22 rfl 58 i0 _ 2 Tryz.underlying22 hi0 hz0 (by simp [Value.cells]) hz1c h0z _ 1 _ rfl b (N * 2) (splice C (i * 2) X2) 58 h3.out.1 (fun _ => by simp) (by rw [HL3.out]; have := HNC.out; omega) ?_)
   intro Z w4 h4
   go_wp2
   go_ret
   have hl2 : (splice (splice C (i * 2) X2) (N * 2) Z).take (N * 2) = C.take (i * 2) ++ X2 := by
    rw [splice_head _ _ _ _ (Nat.le_refl _) (by rw [HL3.out]; have := HNC.out; omega)]
    have := splice_take C (i * 2) X2 (by rw [HCS.out]; have := HNC.out; omega)
    rw [HX2l.out, ← Nat.add_mul, g3] at this
    exact this
   refine ⟨_, rfl, own_of h4.out.2.1 HBB.out (by omega) HCM.out (by rw [length_splice _ _ _ (by rw [HL3.out, h4.out.1]; have := HNC.out; omega), HL3.out]) hl2, ?_, rfl⟩
   exact grown_of_but (v := .slice (some ⟨b, 0, none⟩) N cap) (But.trans (But.drewN h3.out.2.1 0) (h4.out.2.2.1.mono (by have := h3.out.2.2; simp at this; omega))) rfl
end Go.Proofs.YtaciegkblklokaaGreat.schema
