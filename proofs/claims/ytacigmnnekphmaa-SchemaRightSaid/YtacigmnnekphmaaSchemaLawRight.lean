/- SchemaRight returns true. No condition. -/
import Derived.Test.YtacigmnnekphmaaSchemaAwake
import Derived.Test.YtacigmnnekphmaaSchemaRefSame
import Derived.Test.YtacigmnnekphmaaSchemaRefRight
import Derived.Conc.WalkWords
namespace Go.Proofs.Ytacigmnnekphmaa.schemaRight
open Go.RowKit Go.Proofs.Ytacigmnnekphmaa.schema
set_option linter.unusedVariables false

theorem info_sc : Hid ((Try.prog.info? 24).map (·.size) = some 2) := by show _ = _; kernel_rfl
theorem exec_neq_bool {o : Oper} {a : Act} {w : World} {x y : Operand} {t' : TypeId} {r : Bool} (ho : o.op = .binOp .neq 4 x y t') (hx : a.eval x = .bool r) (hy : a.eval y = .bool r) : (execOp a.eval o).run Try.prog w = .ok (.value (.bool false)) w :=
  exec_two ho hx hy (by simp [go_sem]) (by simp [go_sem])
theorem exec_eql_bool {o : Oper} {a : Act} {w : World} {x y : Operand} {t' : TypeId} {r : Bool} (ho : o.op = .binOp .eql 4 x y t') (hx : a.eval x = .bool r) (hy : a.eval y = .bool r) : (execOp a.eval o).run Try.prog w = .ok (.value (.bool true)) w :=
  exec_two ho hx hy (by simp [go_sem]) (by simp [go_sem])
theorem first_of {F : List Fm} {x : Int} (h : x ∈ fids F) : ∃ k p, F[k]? = some p ∧ p.id = x ∧ x ∉ (fids F).take k := by
  have hk := List.idxOf_lt_length_iff.2 h
  have hk2 : (fids F).idxOf x < F.length := by rw [fids_length] at hk; exact hk
  refine ⟨(fids F).idxOf x, F[(fids F).idxOf x], List.getElem?_eq_getElem hk2, ?_, fun hm => ?_⟩
  · have h1 := List.getElem_idxOf hk
    have h2 := fids_at (List.getElem?_eq_getElem hk2)
    have h3 : (fids F)[(fids F).idxOf x]? = some x := by rw [List.getElem?_eq_getElem hk, h1]
    rw [h2] at h3
    exact Option.some.inj h3
  · have := idxOf_lt_of_take _ _ _ hm
    omega
set_option maxRecDepth 20000 in
set_option maxHeartbeats 3200000 in
theorem walk0 (v : Int) (sa : Option Addr) (sc : Nat) (F : List Fm) (tv : Int) (ta : Option Addr) (tc : Nat) (G : List Fm) (x : Int) (w : World) (hf : FmL w sa F) (hF : F.length ≤ maxLen) (ht : FmL w ta G) (hG : G.length ≤ maxLen) :
    Calls Try.prog 3 #[.agg #[.int .i64 v, .slice sa F.length sc], .agg #[.int .i64 tv, .slice ta G.length tc], .int .i64 x] w (Yes w) := by
  have HX := hid (WS2.all v sa F sc tv ta G tc w)
  have hw := (WS2.all v sa F sc tv ta G tc w _ (Below.refl _ _)).2.2.2.2
  have hRS := (Block.new w 24 [.int .i64 v, .slice sa F.length sc]).alloc (.cells #[.int .i64 tv, .slice ta G.length tc] 24)
  have hRT := Block.new (w.alloc (.cells #[.int .i64 v, .slice sa F.length sc] 24)) 24 [.int .i64 tv, .slice ta G.length tc]
  rw [show ((w.alloc (.cells #[.int .i64 v, .slice sa F.length sc] 24))).heap.size = w.heap.size + 1 by simp] at hRT
  have hf0 := hf.below hw
  have ht0 := ht.below hw
  have cA := fun w' => awake_any w'
  unfold WS2 at HX hf0 ht0
  unfold Yes at cA ⊢
  obtain ⟨W0, hW0⟩ : ∃ x, ((w.alloc (.cells #[.int .i64 v, .slice sa F.length sc] 24))).alloc (.cells #[.int .i64 tv, .slice ta G.length tc] 24) = x := ⟨_, rfl⟩
  have HW0 := hid hW0
  rw [hW0] at HX hf0 ht0 hRS hRT
  have cGs := fun w' (hb : Below W0.heap.size W0 w') => field.gives_from (great_any v sa sc F w' (hf0.below hb) hF) hb
  have cGt := fun w' (hb : Below W0.heap.size W0 w') => field.gives_from (great_any tv ta tc G w' (ht0.below hb) hG) hb
  have HF := hid hf0
  have HT := hid ht0
  have HRS := hid hRS
  have HRT := hid hRT
  clear hf ht hf0 ht0 hRS hRT hw hW0
  rw [← HW0.out] at cGs cGt HX
  by_cases hg : greatB (forms F) = true
  · rw [hg] at cGs
    clear cGt hg
    go_enter Try.func3, Try.ntmps3
    go_wp2_with (first
      | (go_at_call 6; ((with_reducible refine (cGs _ (Below.refl _ _)).mono ?_); rintro e w1 ⟨rfl, hb1⟩; obtain ⟨z0, z1, z2, z3, hbo⟩ := HX.out _ hb1))
      | (go_at_call 7; ((with_reducible refine (cA _).mono ?_); rintro e w8 ⟨rfl, hb8⟩)))
    go_ret
    exact ⟨rfl, hbo.trans (hb8.mono hbo.size)⟩
  rw [Bool.not_eq_true] at hg
  rw [hg] at cGs
  have hsm := greatB_no hg
  clear hg
  by_cases hg : greatB (forms G) = true
  · rw [hg] at cGt
    clear hg hsm
    go_enter Try.func3, Try.ntmps3
    go_wp2_with (first
      | (go_at_call 6; ((with_reducible refine (cGs _ (Below.refl _ _)).mono ?_); rintro e w1 ⟨rfl, hb1⟩; obtain ⟨z0, z1, z2, z3, hbo⟩ := HX.out _ hb1))
      | (go_at_call 6; ((with_reducible refine (cGt _ hb1).mono ?_); rintro e w2 ⟨rfl, hb2⟩; obtain ⟨z0, z1, z2, z3, hbo2⟩ := HX.out _ hb2))
      | (go_at_call 7; ((with_reducible refine (cA _).mono ?_); rintro e w8 ⟨rfl, hb8⟩)))
    go_ret
    exact ⟨rfl, hbo2.trans (hb8.mono hbo2.size)⟩
  rw [Bool.not_eq_true] at hg
  rw [hg] at cGt
  clear hg
  have HSM := hid hsm
  clear hsm
  have HX0 : Hid (∀ w', Below W0.heap.size W0 w' → w'.cell? ⟨w.heap.size, 0, none⟩ = some (.int .i64 v) ∧ w'.cell? ⟨w.heap.size, 1, none⟩ = some (.slice sa F.length sc) ∧ w'.cell? ⟨w.heap.size + 1, 0, none⟩ = some (.int .i64 tv) ∧ w'.cell? ⟨w.heap.size + 1, 1, none⟩ = some (.slice ta G.length tc) ∧ Below w.heap.size w w') := hid (by rw [← HW0.out]; exact HX.out)
  have hFn : F.length ≤ 40 := by have := HSM.out.1; rw [forms_length] at this; exact this
  by_cases hx : x ∈ fids F
  · obtain ⟨k, p, hp, hpx, hnk⟩ := first_of hx
    have hpL : p.fL.length ≤ 40 := HSM.out.2 p.p (List.mem_of_getElem? (forms_at hp))
    have cF := fun w' (hb : Below W0.heap.size W0 w') => form_yes v sa sc F x k p w' (HF.out.below hb) hF hp hpx hnk (by omega)
    have cI := fun w' (hb : Below W0.heap.size W0 w') => refFind_any v sa sc F x w' (HF.out.below hb) hF
    rw [first_hit hnk (by rw [← hpx]; exact fids_at hp)] at cI
    have hlt : k < F.length := (List.getElem?_eq_some_iff.1 hp).1
    have HP := hid hp
    have HPX := hid hpx
    clear hx hp hpx hnk hpL
    go_enter Try.func3, Try.ntmps3
    go_wp2_with (first
      | (go_at_call 6; ((with_reducible refine (cGs _ (Below.refl _ _)).mono ?_); rintro e w1 ⟨rfl, hb1⟩; obtain ⟨z0, z1, z2, z3, hbo⟩ := HX.out _ hb1))
      | (go_at_call 6; ((with_reducible refine (cGt _ hb1).mono ?_); rintro e w2 ⟨rfl, hb2⟩; rw [HW0.out] at hb2; obtain ⟨z0, z1, z2, z3, hbo2⟩ := HX0.out _ hb2))
      | (go_at_call 8; ((with_reducible refine (cF _ hb2).mono ?_); rintro e w3 ⟨y, yc, rfl, hy3, hn3⟩; have hN3 := field.newB w3 (.cells #[.int .i64 x, .slice y p.fL.length yc] 29); have hb3 := (hb2.trans (hn3.mono hb2.size)).trans (hN3.mono (Nat.le_trans hb2.size hn3.size)); obtain ⟨z0, z1, z2, z3, hbo3⟩ := HX0.out _ hb3))
      | (go_at_call 9; ((with_reducible refine (cI _ hb3).mono ?_); rintro e w4 ⟨rfl, hn4⟩; have hb4 := hb3.trans (hn4.mono hb3.size))))
    obtain ⟨b, off, rfl, hbl, hp2, c0, c1, hfd, hfl⟩ : ∃ b off, sa = some ⟨b, off, none⟩ ∧ b < w4.heap.size ∧ True ∧ w4.cell? ⟨b, off + k * 2, none⟩ = some (.int .i64 p.id) ∧ w4.cell? ⟨b, off + k * 2 + 1, none⟩ = some (.slice p.f p.fL.length p.fCap) ∧ field.Fds w4 p.f p.fL ∧ p.fL.length ≤ maxLen := by
      obtain ⟨b, off, p', h1, h2, h3, h4, h5, h6, h7⟩ := form_at HF.out hb4 hlt
      obtain rfl : p = p' := Option.some.inj (HP.out.symm.trans h3)
      exact ⟨b, off, h1, h2, trivial, h4, h5, h6, h7⟩
    have hpx := HPX.out
    obtain ⟨i, q, qc, L⟩ := p
    simp only at hpx c0 c1 hfd hfl hy3 hn3 hN3 hn4 ⊢
    replace hpx := hpx.symm
    subst hpx
    have hy4 := (hy3.below hN3).below hn4
    have hBF := (Block.new w3 29 [.int .i64 x, .slice y L.length yc]).later hn4
    obtain ⟨fb, hfb⟩ : ∃ u, Hid (w3.heap.size = u) := ⟨_, hid rfl⟩
    rw [hfb.out] at hBF
    have HB4 := hid hb4
    have hrng := range2 c0 c1
    have HZ := hid (fun w' (hb : Below w4.heap.size w4 w') => (⟨(hBF.later hb).whole, (HX0.out _ (HB4.out.trans (hb.mono HB4.out.size))).2.1, range_later hrng hb hbl⟩ : w'.rangeAt fb 0 [.int .i64 x, .slice y L.length yc] ∧ w'.cell? ⟨w.heap.size, 1, none⟩ = some (.slice (some ⟨b, off, none⟩) F.length sc) ∧ w'.rangeAt b (off + k * 2) [.int .i64 x, .slice q L.length qc]))
    have cSF := fun w' (hb : Below w4.heap.size w4 w') => refSameForm_any x y yc L x q qc L w' (hy4.below hb) (hfd.below hb) hfl hfl
    rw [show decide ((x, L) = (x, L)) = true from decide_eq_true rfl] at cSF
    have HGE : Hid (decide ((k : Int) ≥ 0) = true) := hid (decide_eq_true (by omega))
    rw [hfb.out]
    clear hb1 hb2 hb3 hb4 hn3 hN3 hn4 hy3 hy4 hBF hrng c0 c1 hfd hp2 HP HPX cF cI hbo hbo2 hbo3 z0 z1 z2 z3
    have hb : Below w4.heap.size w4 w4.drew := below_drewN (Below.refl _ _) 1
    · refine plan.region (by kernel_rfl) ?_
      refine plan.Rest.first 0 _ (.bool true) rfl (by kernel_rfl) (by kernel_rfl) (by kernel_rfl) (by kernel_rfl) (fun w' hb' => (by kernel_rfl)) ?_
      refine plan.Rest.first 1 _ (.int .i64 (k : Int)) rfl (by kernel_rfl) (by kernel_rfl) (by kernel_rfl) (by kernel_rfl) (fun w' hb' => (by kernel_rfl)) ?_
      refine plan.Rest.first 2 _ (.bool true) rfl (by kernel_rfl) (by kernel_rfl) (by kernel_rfl) (by kernel_rfl) (fun w' hb' => (exec_geq_int (n := (k : Int)) (m := 0) rfl (by kernel_rfl) (by kernel_rfl) HGE)) ?_
      refine plan.Rest.first 3 _ (.bool false) rfl (by kernel_rfl) (by kernel_rfl) (by kernel_rfl) (by kernel_rfl) (fun w' hb' => (by kernel_rfl)) ?_
      refine plan.Rest.first 4 _ (.bool false) rfl (by kernel_rfl) (by kernel_rfl) (by kernel_rfl) (by kernel_rfl) (fun w' hb' => (by kernel_rfl)) ?_
      refine plan.Rest.first 5 _ (.bool true) rfl (by kernel_rfl) (by kernel_rfl) (by kernel_rfl) (by kernel_rfl) (fun w' hb' => (by kernel_rfl)) ?_
      refine plan.Rest.first 6 _ (.bool true) rfl (by kernel_rfl) (by kernel_rfl) (by kernel_rfl) (by kernel_rfl) (fun w' hb' => (by kernel_rfl)) ?_
      refine plan.Rest.first 7 _ (.agg #[.int .i64 x, .slice y L.length yc]) rfl (by kernel_rfl) (by kernel_rfl) (by kernel_rfl) (by kernel_rfl) (fun w' hb' => exec_load_at (b := fb) (off := 0) rfl (by kernel_rfl) (HZ.out _ (hb.trans (hb'.mono hb.size))).1 Try.underlying29 rfl info_fm.out) ?_
      refine plan.Rest.first 8 _ (.pointer (some ⟨w.heap.size, 1, none⟩)) rfl (by kernel_rfl) (by kernel_rfl) (by kernel_rfl) (by kernel_rfl) (fun w' hb' => (by kernel_rfl)) ?_
      refine plan.Rest.first 9 _ (.slice (some ⟨b, off, none⟩) F.length sc) rfl (by kernel_rfl) (by kernel_rfl) (by kernel_rfl) (by kernel_rfl) (fun w' hb' => exec_cell_slice (ad := ⟨w.heap.size, 1, none⟩) rfl (by kernel_rfl) (HZ.out _ (hb.trans (hb'.mono hb.size))).2.1 Try.isAgg22) ?_
      refine plan.Rest.first 10 _ (.int .i64 (k : Int)) rfl (by kernel_rfl) (by kernel_rfl) (by kernel_rfl) (by kernel_rfl) (fun w' hb' => (by kernel_rfl)) ?_
      refine plan.Rest.first 11 _ (.pointer (some ⟨b, off + k * 2, none⟩)) rfl (by kernel_rfl) (by kernel_rfl) (by kernel_rfl) (by kernel_rfl) (fun w' hb' => (exec_indexM (b := b) (off := off) (len := F.length) (cap := sc) (i := k) rfl (by kernel_rfl) (by kernel_rfl) hlt)) ?_
      refine plan.Rest.first 12 _ (.agg #[.int .i64 x, .slice q L.length qc]) rfl (by kernel_rfl) (by kernel_rfl) (by kernel_rfl) (by kernel_rfl) (fun w' hb' => exec_load_at (b := b) (off := off + k * 2) rfl (by kernel_rfl) (HZ.out _ (hb.trans (hb'.mono hb.size))).2.2 Try.underlying29 rfl info_fm.out) ?_
      refine plan.Rest.call 13 _ 10 #[.agg #[.int .i64 x, .slice y L.length yc], .agg #[.int .i64 x, .slice q L.length qc]] rfl (by kernel_rfl) (by kernel_rfl) (by kernel_rfl) ((cSF w4.drew hb).mono ?_)
      rintro e W1 ⟨rfl, hn⟩
      have hb := hb.trans (hn.mono hb.size)
      refine ⟨_, rfl, hn, ?_⟩
      refine plan.Rest.first 14 _ (.bool false) rfl (by kernel_rfl) (by kernel_rfl) (by kernel_rfl) (by kernel_rfl) (fun w' hb' => (by kernel_rfl)) ?_
      refine plan.Rest.first 15 _ (.bool false) rfl (by kernel_rfl) (by kernel_rfl) (by kernel_rfl) (by kernel_rfl) (fun w' hb' => (by kernel_rfl)) ?_
      refine plan.Rest.first 16 _ (.bool false) rfl (by kernel_rfl) (by kernel_rfl) (by kernel_rfl) (by kernel_rfl) (fun w' hb' => (by kernel_rfl)) ?_
      refine plan.Rest.first 17 _ (.bool false) rfl (by kernel_rfl) (by kernel_rfl) (by kernel_rfl) (by kernel_rfl) (fun w' hb' => (by kernel_rfl)) ?_
      refine plan.Rest.first 18 _ (.bool true) rfl (by kernel_rfl) (by kernel_rfl) (by kernel_rfl) (by kernel_rfl) (fun w' hb' => (by kernel_rfl)) ?_
      refine plan.Rest.first 19 _ (.bool false) rfl (by kernel_rfl) (by kernel_rfl) (by kernel_rfl) (by kernel_rfl) (fun w' hb' => (by kernel_rfl)) ?_
      refine plan.Rest.first 20 _ (.bool false) rfl (by kernel_rfl) (by kernel_rfl) (by kernel_rfl) (by kernel_rfl) (fun w' hb' => (by kernel_rfl)) ?_
      refine plan.Rest.skip 21 _ rfl (by kernel_rfl) (by kernel_rfl) (by kernel_rfl) (by kernel_rfl) ?_
      refine plan.Rest.skip 22 _ rfl (by kernel_rfl) (by kernel_rfl) (by kernel_rfl) (by kernel_rfl) ?_
      refine plan.Rest.skip 23 _ rfl (by kernel_rfl) (by kernel_rfl) (by kernel_rfl) (by kernel_rfl) ?_
      refine plan.Rest.skip 24 _ rfl (by kernel_rfl) (by kernel_rfl) (by kernel_rfl) (by kernel_rfl) ?_
      refine plan.Rest.skip 25 _ rfl (by kernel_rfl) (by kernel_rfl) (by kernel_rfl) (by kernel_rfl) ?_
      refine plan.Rest.skip 26 _ rfl (by kernel_rfl) (by kernel_rfl) (by kernel_rfl) (by kernel_rfl) ?_
      refine plan.Rest.skip 27 _ rfl (by kernel_rfl) (by kernel_rfl) (by kernel_rfl) (by kernel_rfl) ?_
      refine plan.Rest.skip 28 _ rfl (by kernel_rfl) (by kernel_rfl) (by kernel_rfl) (by kernel_rfl) ?_
      refine plan.Rest.skip 29 _ rfl (by kernel_rfl) (by kernel_rfl) (by kernel_rfl) (by kernel_rfl) ?_
      refine plan.Rest.first 30 _ (.bool false) rfl (by kernel_rfl) (by kernel_rfl) (by kernel_rfl) (by kernel_rfl) (fun w' hb' => (by kernel_rfl)) ?_
      refine plan.Rest.first 31 _ (.bool false) rfl (by kernel_rfl) (by kernel_rfl) (by kernel_rfl) (by kernel_rfl) (fun w' hb' => (by kernel_rfl)) ?_
      refine plan.Rest.done (by kernel_rfl) ?_
      walk_nrm
      have HST := hid (HB4.out.trans (hb.mono HB4.out.size))
      clear HZ cSF HGE hb hn
      go_wp2
      clear HX cGs cGt
      go_loopw [10] (fun m wr => ∃ j : Nat, j ≤ F.length ∧ m = .int .i64 (j : Int) ∧ Hid (Below W0.heap.size W0 wr)) (fun m _ => F.length - (intOf m).toNat)
      case atStart => exact ⟨0, Nat.zero_le _, rfl, HST⟩
      case round =>
        obtain ⟨j, hj, rfl, HB⟩ := hrel
        obtain ⟨z0, z1, z2, z3, hbo⟩ := HX0.out _ HB.out
        by_cases hjt : j < F.length
        · obtain ⟨b1, off1, p, hsa, hbl, hp, c0, c1, hfd, hfl⟩ := form_at HF.out HB.out hjt
          have i1 : (j : Int) < F.length := by omega
          have hpl : p.fL.length ≤ 40 := HSM.out.2 p.p (List.mem_of_getElem? (forms_at hp))
          cases hsa
          clear hp
          obtain ⟨i, q, qc, L⟩ := p
          simp only at c0 c1 hfd hfl hpl
          have hN5 := field.newB wr (.cells #[.int .i64 i, .slice q L.length qc] 29)
          have hB5 := Block.new wr 29 [.int .i64 i, .slice q L.length qc]
          have HB5 := hid (HB.out.trans (hN5.mono HB.out.size))
          have hfd5 := hfd.below hN5
          obtain ⟨w5, hw5⟩ : ∃ u, Hid (wr.alloc (.cells #[.int .i64 i, .slice q L.length qc] 29) = u) := ⟨_, hid rfl⟩
          obtain ⟨gb, hgb⟩ : ∃ u, Hid (wr.heap.size = u) := ⟨_, hid rfl⟩
          rw [hw5.out] at hB5 HB5 hfd5
          rw [hgb.out] at hB5
          have HZ := hid (fun w' (hb : Below w5.heap.size w5 w') => (hB5.later hb).whole)
          have cF1 := fun w' (hb : Below w5.heap.size w5 w') => fine_any i q qc L w' (hfd5.below hb) hfl
          have cF2 := fun w' (hb : Below w5.heap.size w5 w') => refFine_any i q qc L w' (hfd5.below hb) hfl
          have cL1 := fun w' (hb : Below w5.heap.size w5 w') => long_any i q qc L w' (hfd5.below hb) hpl
          have cL2 := fun w' (hb : Below w5.heap.size w5 w') => refLong_any i q qc L w' (hfd5.below hb) hpl
          have cA1 := fun w' (hb : Below w5.heap.size w5 w') => at_any i q qc L x w' (hfd5.below hb) hfl
          have cA2 := fun w' (hb : Below w5.heap.size w5 w') => refAt_any i q qc L x w' (hfd5.below hb) hfl
          generalize decide (Fine (i, L)) = r at *
          generalize size L = Z at *
          generalize firstAt (ids L) x = J at *
          have HNS : Hid (((Z : Int) != (Z : Int)) = false) := hid (by simp)
          have HNJ : Hid ((J != J) = false) := hid (by simp)
          clear hfd hfl hpl hN5 hB5 hfd5
          go_wp2
          rw [hw5.out, hgb.out]
          have hb : Below w5.heap.size w5 w5.drew := below_drewN (Below.refl _ _) 1
          · refine plan.region (by kernel_rfl) ?_
            refine plan.Rest.first 0 _ (.agg #[.int .i64 i, .slice q L.length qc]) rfl (by kernel_rfl) (by kernel_rfl) (by kernel_rfl) (by kernel_rfl) (fun w' hb' => exec_load_at (b := gb) (off := 0) rfl (by kernel_rfl) (HZ.out _ (hb.trans (hb'.mono hb.size))) Try.underlying29 rfl info_fm.out) ?_
            refine plan.Rest.first 2 _ (.agg #[.int .i64 i, .slice q L.length qc]) rfl (by kernel_rfl) (by kernel_rfl) (by kernel_rfl) (by kernel_rfl) (fun w' hb' => exec_load_at (b := gb) (off := 0) rfl (by kernel_rfl) (HZ.out _ (hb.trans (hb'.mono hb.size))) Try.underlying29 rfl info_fm.out) ?_
            refine plan.Rest.call 1 _ 11 #[.agg #[.int .i64 i, .slice q L.length qc]] rfl (by kernel_rfl) (by kernel_rfl) (by kernel_rfl) ((cF1 w5.drew hb).mono ?_)
            rintro e W1 ⟨rfl, hn⟩
            have hb := hb.trans (hn.mono hb.size)
            refine ⟨_, rfl, hn, ?_⟩
            refine plan.Rest.call 3 _ 12 #[.agg #[.int .i64 i, .slice q L.length qc]] rfl (by kernel_rfl) (by kernel_rfl) (by kernel_rfl) ((cF2 W1 hb).mono ?_)
            rintro e W2 ⟨rfl, hn⟩
            have hb := hb.trans (hn.mono hb.size)
            refine ⟨_, rfl, hn, ?_⟩
            refine plan.Rest.first 4 _ (.bool false) rfl (by kernel_rfl) (by kernel_rfl) (by kernel_rfl) (by kernel_rfl) (fun w' hb' => (exec_neq_bool (r := r) rfl (by kernel_rfl) (by kernel_rfl))) ?_
            refine plan.Rest.first 5 _ (.bool false) rfl (by kernel_rfl) (by kernel_rfl) (by kernel_rfl) (by kernel_rfl) (fun w' hb' => (by kernel_rfl)) ?_
            refine plan.Rest.first 6 _ (.agg #[.int .i64 i, .slice q L.length qc]) rfl (by kernel_rfl) (by kernel_rfl) (by kernel_rfl) (by kernel_rfl) (fun w' hb' => exec_load_at (b := gb) (off := 0) rfl (by kernel_rfl) (HZ.out _ (hb.trans (hb'.mono hb.size))) Try.underlying29 rfl info_fm.out) ?_
            refine plan.Rest.first 8 _ (.agg #[.int .i64 i, .slice q L.length qc]) rfl (by kernel_rfl) (by kernel_rfl) (by kernel_rfl) (by kernel_rfl) (fun w' hb' => exec_load_at (b := gb) (off := 0) rfl (by kernel_rfl) (HZ.out _ (hb.trans (hb'.mono hb.size))) Try.underlying29 rfl info_fm.out) ?_
            refine plan.Rest.call 7 _ 13 #[.agg #[.int .i64 i, .slice q L.length qc]] rfl (by kernel_rfl) (by kernel_rfl) (by kernel_rfl) ((cL1 W2 hb).mono ?_)
            rintro e W3 ⟨rfl, hn⟩
            have hb := hb.trans (hn.mono hb.size)
            refine ⟨_, rfl, hn, ?_⟩
            refine plan.Rest.call 9 _ 14 #[.agg #[.int .i64 i, .slice q L.length qc]] rfl (by kernel_rfl) (by kernel_rfl) (by kernel_rfl) ((cL2 W3 hb).mono ?_)
            rintro e W4 ⟨rfl, hn⟩
            have hb := hb.trans (hn.mono hb.size)
            refine ⟨_, rfl, hn, ?_⟩
            refine plan.Rest.first 10 _ (.bool false) rfl (by kernel_rfl) (by kernel_rfl) (by kernel_rfl) (by kernel_rfl) (fun w' hb' => (exec_neq_int (n := (Z : Int)) (m := (Z : Int)) rfl (by kernel_rfl) (by kernel_rfl) HNS)) ?_
            refine plan.Rest.first 11 _ (.bool false) rfl (by kernel_rfl) (by kernel_rfl) (by kernel_rfl) (by kernel_rfl) (fun w' hb' => (by kernel_rfl)) ?_
            refine plan.Rest.first 12 _ (.bool false) rfl (by kernel_rfl) (by kernel_rfl) (by kernel_rfl) (by kernel_rfl) (fun w' hb' => (by kernel_rfl)) ?_
            refine plan.Rest.first 13 _ (.agg #[.int .i64 i, .slice q L.length qc]) rfl (by kernel_rfl) (by kernel_rfl) (by kernel_rfl) (by kernel_rfl) (fun w' hb' => exec_load_at (b := gb) (off := 0) rfl (by kernel_rfl) (HZ.out _ (hb.trans (hb'.mono hb.size))) Try.underlying29 rfl info_fm.out) ?_
            refine plan.Rest.first 14 _ (.int .i64 x) rfl (by kernel_rfl) (by kernel_rfl) (by kernel_rfl) (by kernel_rfl) (fun w' hb' => (by kernel_rfl)) ?_
            refine plan.Rest.first 16 _ (.agg #[.int .i64 i, .slice q L.length qc]) rfl (by kernel_rfl) (by kernel_rfl) (by kernel_rfl) (by kernel_rfl) (fun w' hb' => exec_load_at (b := gb) (off := 0) rfl (by kernel_rfl) (HZ.out _ (hb.trans (hb'.mono hb.size))) Try.underlying29 rfl info_fm.out) ?_
            refine plan.Rest.first 17 _ (.int .i64 x) rfl (by kernel_rfl) (by kernel_rfl) (by kernel_rfl) (by kernel_rfl) (fun w' hb' => (by kernel_rfl)) ?_
            refine plan.Rest.call 15 _ 15 #[.agg #[.int .i64 i, .slice q L.length qc], .int .i64 x] rfl (by kernel_rfl) (by kernel_rfl) (by kernel_rfl) ((cA1 W4 hb).mono ?_)
            rintro e W5 ⟨rfl, hn⟩
            have hb := hb.trans (hn.mono hb.size)
            refine ⟨_, rfl, hn, ?_⟩
            refine plan.Rest.call 18 _ 16 #[.agg #[.int .i64 i, .slice q L.length qc], .int .i64 x] rfl (by kernel_rfl) (by kernel_rfl) (by kernel_rfl) ((cA2 W5 hb).mono ?_)
            rintro e W6 ⟨rfl, hn⟩
            have hb := hb.trans (hn.mono hb.size)
            refine ⟨_, rfl, hn, ?_⟩
            refine plan.Rest.first 19 _ (.bool false) rfl (by kernel_rfl) (by kernel_rfl) (by kernel_rfl) (by kernel_rfl) (fun w' hb' => (exec_neq_int (n := J) (m := J) rfl (by kernel_rfl) (by kernel_rfl) HNJ)) ?_
            refine plan.Rest.first 20 _ (.bool false) rfl (by kernel_rfl) (by kernel_rfl) (by kernel_rfl) (by kernel_rfl) (fun w' hb' => (by kernel_rfl)) ?_
            refine plan.Rest.done (by kernel_rfl) ?_
            walk_nrm
            go_wp2
            exact ⟨⟨j + 1, by omega, by go_num, hid (HB5.out.trans (hb.mono HB5.out.size))⟩, by simp [intOf]; omega⟩
        · obtain rfl : j = F.length := by omega
          have HZ := hid (fun w' (hb : Below wr.heap.size wr w') => (⟨(HRS.out.later (HB.out.trans (hb.mono HB.out.size))).whole, (HRT.out.later (HB.out.trans (hb.mono HB.out.size))).whole⟩ : w'.rangeAt w.heap.size 0 [.int .i64 v, .slice (some ⟨b, off, none⟩) F.length sc] ∧ w'.rangeAt (w.heap.size + 1) 0 [.int .i64 tv, .slice ta G.length tc]))
          have cR1 := fun w' (hb : Below wr.heap.size wr w') => right_any v (some ⟨b, off, none⟩) sc F w' (HF.out.below (HB.out.trans (hb.mono HB.out.size))) hF
          have cR2 := fun w' (hb : Below wr.heap.size wr w') => refRight_any v (some ⟨b, off, none⟩) sc F w' (HF.out.below (HB.out.trans (hb.mono HB.out.size))) hF
          have cS1 := fun w' (hb : Below wr.heap.size wr w') => same_any v (some ⟨b, off, none⟩) sc F tv ta tc G w' (HF.out.below (HB.out.trans (hb.mono HB.out.size))) (HT.out.below (HB.out.trans (hb.mono HB.out.size))) hF hG
          have cS2 := fun w' (hb : Below wr.heap.size wr w') => refSame_any v (some ⟨b, off, none⟩) sc F tv ta tc G w' (HF.out.below (HB.out.trans (hb.mono HB.out.size))) (HT.out.below (HB.out.trans (hb.mono HB.out.size))) hF hG
          have cS3 := fun w' (hb : Below wr.heap.size wr w') => same_any v (some ⟨b, off, none⟩) sc F v (some ⟨b, off, none⟩) sc F w' (HF.out.below (HB.out.trans (hb.mono HB.out.size))) (HF.out.below (HB.out.trans (hb.mono HB.out.size))) hF hF
          have hvv : decide (v = v ∧ forms F = forms F) = true := decide_eq_true ⟨rfl, rfl⟩
          rw [hvv] at cS3
          generalize decide (Right v (forms F)) = r at *
          generalize decide (v = tv ∧ forms F = forms G) = q at *
          have cA : ∀ w', Calls Try.prog 7 #[] w' (field.Gives (.bool true) w') := cA
          clear hvv
          go_wp2
          have hb : Below wr.heap.size wr wr.drew := below_drewN (Below.refl _ _) 1
          · refine plan.region (by kernel_rfl) ?_
            refine plan.Rest.first 0 _ (.agg #[.int .i64 v, .slice (some ⟨b, off, none⟩) F.length sc]) rfl (by kernel_rfl) (by kernel_rfl) (by kernel_rfl) (by kernel_rfl) (fun w' hb' => exec_load_at (b := w.heap.size) (off := 0) rfl (by kernel_rfl) (HZ.out _ (hb.trans (hb'.mono hb.size))).1 Try.underlying24 rfl info_sc.out) ?_
            refine plan.Rest.first 2 _ (.agg #[.int .i64 v, .slice (some ⟨b, off, none⟩) F.length sc]) rfl (by kernel_rfl) (by kernel_rfl) (by kernel_rfl) (by kernel_rfl) (fun w' hb' => exec_load_at (b := w.heap.size) (off := 0) rfl (by kernel_rfl) (HZ.out _ (hb.trans (hb'.mono hb.size))).1 Try.underlying24 rfl info_sc.out) ?_
            refine plan.Rest.call 1 _ 17 #[.agg #[.int .i64 v, .slice (some ⟨b, off, none⟩) F.length sc]] rfl (by kernel_rfl) (by kernel_rfl) (by kernel_rfl) ((cR1 wr.drew hb).mono ?_)
            rintro e W1 ⟨rfl, hn⟩
            have hb := hb.trans (hn.mono hb.size)
            refine ⟨_, rfl, hn, ?_⟩
            refine plan.Rest.call 3 _ 18 #[.agg #[.int .i64 v, .slice (some ⟨b, off, none⟩) F.length sc]] rfl (by kernel_rfl) (by kernel_rfl) (by kernel_rfl) ((cR2 W1 hb).mono ?_)
            rintro e W2 ⟨rfl, hn⟩
            have hb := hb.trans (hn.mono hb.size)
            refine ⟨_, rfl, hn, ?_⟩
            refine plan.Rest.first 4 _ (.bool true) rfl (by kernel_rfl) (by kernel_rfl) (by kernel_rfl) (by kernel_rfl) (fun w' hb' => (exec_eql_bool (r := r) rfl (by kernel_rfl) (by kernel_rfl))) ?_
            refine plan.Rest.first 5 _ (.bool true) rfl (by kernel_rfl) (by kernel_rfl) (by kernel_rfl) (by kernel_rfl) (fun w' hb' => (by kernel_rfl)) ?_
            refine plan.Rest.first 6 _ (.agg #[.int .i64 v, .slice (some ⟨b, off, none⟩) F.length sc]) rfl (by kernel_rfl) (by kernel_rfl) (by kernel_rfl) (by kernel_rfl) (fun w' hb' => exec_load_at (b := w.heap.size) (off := 0) rfl (by kernel_rfl) (HZ.out _ (hb.trans (hb'.mono hb.size))).1 Try.underlying24 rfl info_sc.out) ?_
            refine plan.Rest.first 7 _ (.agg #[.int .i64 tv, .slice ta G.length tc]) rfl (by kernel_rfl) (by kernel_rfl) (by kernel_rfl) (by kernel_rfl) (fun w' hb' => exec_load_at (b := w.heap.size + 1) (off := 0) rfl (by kernel_rfl) (HZ.out _ (hb.trans (hb'.mono hb.size))).2 Try.underlying24 rfl info_sc.out) ?_
            refine plan.Rest.first 9 _ (.agg #[.int .i64 v, .slice (some ⟨b, off, none⟩) F.length sc]) rfl (by kernel_rfl) (by kernel_rfl) (by kernel_rfl) (by kernel_rfl) (fun w' hb' => exec_load_at (b := w.heap.size) (off := 0) rfl (by kernel_rfl) (HZ.out _ (hb.trans (hb'.mono hb.size))).1 Try.underlying24 rfl info_sc.out) ?_
            refine plan.Rest.first 10 _ (.agg #[.int .i64 tv, .slice ta G.length tc]) rfl (by kernel_rfl) (by kernel_rfl) (by kernel_rfl) (by kernel_rfl) (fun w' hb' => exec_load_at (b := w.heap.size + 1) (off := 0) rfl (by kernel_rfl) (HZ.out _ (hb.trans (hb'.mono hb.size))).2 Try.underlying24 rfl info_sc.out) ?_
            refine plan.Rest.call 8 _ 19 #[.agg #[.int .i64 v, .slice (some ⟨b, off, none⟩) F.length sc], .agg #[.int .i64 tv, .slice ta G.length tc]] rfl (by kernel_rfl) (by kernel_rfl) (by kernel_rfl) ((cS1 W2 hb).mono ?_)
            rintro e W3 ⟨rfl, hn⟩
            have hb := hb.trans (hn.mono hb.size)
            refine ⟨_, rfl, hn, ?_⟩
            refine plan.Rest.call 11 _ 20 #[.agg #[.int .i64 v, .slice (some ⟨b, off, none⟩) F.length sc], .agg #[.int .i64 tv, .slice ta G.length tc]] rfl (by kernel_rfl) (by kernel_rfl) (by kernel_rfl) ((cS2 W3 hb).mono ?_)
            rintro e W4 ⟨rfl, hn⟩
            have hb := hb.trans (hn.mono hb.size)
            refine ⟨_, rfl, hn, ?_⟩
            refine plan.Rest.first 12 _ (.bool true) rfl (by kernel_rfl) (by kernel_rfl) (by kernel_rfl) (by kernel_rfl) (fun w' hb' => (exec_eql_bool (r := q) rfl (by kernel_rfl) (by kernel_rfl))) ?_
            refine plan.Rest.first 13 _ (.bool true) rfl (by kernel_rfl) (by kernel_rfl) (by kernel_rfl) (by kernel_rfl) (fun w' hb' => (by kernel_rfl)) ?_
            refine plan.Rest.first 14 _ (.bool true) rfl (by kernel_rfl) (by kernel_rfl) (by kernel_rfl) (by kernel_rfl) (fun w' hb' => (by kernel_rfl)) ?_
            refine plan.Rest.first 15 _ (.agg #[.int .i64 v, .slice (some ⟨b, off, none⟩) F.length sc]) rfl (by kernel_rfl) (by kernel_rfl) (by kernel_rfl) (by kernel_rfl) (fun w' hb' => exec_load_at (b := w.heap.size) (off := 0) rfl (by kernel_rfl) (HZ.out _ (hb.trans (hb'.mono hb.size))).1 Try.underlying24 rfl info_sc.out) ?_
            refine plan.Rest.first 16 _ (.agg #[.int .i64 v, .slice (some ⟨b, off, none⟩) F.length sc]) rfl (by kernel_rfl) (by kernel_rfl) (by kernel_rfl) (by kernel_rfl) (fun w' hb' => exec_load_at (b := w.heap.size) (off := 0) rfl (by kernel_rfl) (HZ.out _ (hb.trans (hb'.mono hb.size))).1 Try.underlying24 rfl info_sc.out) ?_
            refine plan.Rest.call 17 _ 19 #[.agg #[.int .i64 v, .slice (some ⟨b, off, none⟩) F.length sc], .agg #[.int .i64 v, .slice (some ⟨b, off, none⟩) F.length sc]] rfl (by kernel_rfl) (by kernel_rfl) (by kernel_rfl) ((cS3 W4 hb).mono ?_)
            rintro e W5 ⟨rfl, hn⟩
            have hb := hb.trans (hn.mono hb.size)
            refine ⟨_, rfl, hn, ?_⟩
            refine plan.Rest.first 18 _ (.bool true) rfl (by kernel_rfl) (by kernel_rfl) (by kernel_rfl) (by kernel_rfl) (fun w' hb' => (by kernel_rfl)) ?_
            refine plan.Rest.first 19 _ (.bool true) rfl (by kernel_rfl) (by kernel_rfl) (by kernel_rfl) (by kernel_rfl) (fun w' hb' => (by kernel_rfl)) ?_
            refine plan.Rest.call 20 _ 7 #[] rfl (by kernel_rfl) (by kernel_rfl) (by kernel_rfl) ((cA W5).mono ?_)
            rintro e W6 ⟨rfl, hn⟩
            have hb := hb.trans (hn.mono hb.size)
            refine ⟨_, rfl, hn, ?_⟩
            refine plan.Rest.first 21 _ (.bool true) rfl (by kernel_rfl) (by kernel_rfl) (by kernel_rfl) (by kernel_rfl) (fun w' hb' => (by kernel_rfl)) ?_
            refine plan.Rest.value 22 _ (.bool true) rfl (by kernel_rfl) (by kernel_rfl) (by kernel_rfl) ?_
            refine plan.Rest.done (by kernel_rfl) ?_
            walk_nrm
            go_wp2
            go_ret
            exact ⟨rfl, hbo.trans (hb.mono hbo.size)⟩
  · have cF := fun w' (hb : Below W0.heap.size W0 w') => form_no v sa sc F x w' (HF.out.below hb) hF hx
    have cI := fun w' (hb : Below W0.heap.size W0 w') => refFind_any v sa sc F x w' (HF.out.below hb) hF
    rw [first_none hx] at cI
    clear hx
    go_enter Try.func3, Try.ntmps3
    go_wp2_with (first
      | (go_at_call 6; ((with_reducible refine (cGs _ (Below.refl _ _)).mono ?_); rintro e w1 ⟨rfl, hb1⟩; obtain ⟨z0, z1, z2, z3, hbo⟩ := HX.out _ hb1))
      | (go_at_call 6; ((with_reducible refine (cGt _ hb1).mono ?_); rintro e w2 ⟨rfl, hb2⟩; rw [HW0.out] at hb2; obtain ⟨z0, z1, z2, z3, hbo2⟩ := HX0.out _ hb2))
      | (go_at_call 8; ((with_reducible refine (cF _ hb2).mono ?_); rintro e w3 ⟨rfl, hn3⟩; have hN3 := field.newB w3 (.cells #[.int .i64 0, .slice none 0 0] 29); have hb3 := (hb2.trans (hn3.mono hb2.size)).trans (hN3.mono (Nat.le_trans hb2.size hn3.size)); obtain ⟨z0, z1, z2, z3, hbo3⟩ := HX0.out _ hb3))
      | (go_at_call 9; ((with_reducible refine (cI _ hb3).mono ?_); rintro e w4 ⟨rfl, hn4⟩; have hb4 := hb3.trans (hn4.mono hb3.size))))
    have hBF := (Block.new w3 29 [.int .i64 0, .slice none 0 0]).later hn4
    obtain ⟨fb, hfb⟩ : ∃ u, Hid (w3.heap.size = u) := ⟨_, hid rfl⟩
    rw [hfb.out] at hBF
    have HB4 := hid hb4
    have HZ := hid (fun w' (hb : Below w4.heap.size w4 w') => (⟨(hBF.later hb).cell 0, (hBF.later hb).cell 1⟩ : w'.cell? ⟨fb, 0, none⟩ = some (.int .i64 0) ∧ w'.cell? ⟨fb, 1, none⟩ = some (.slice none 0 0)))
    rw [hfb.out]
    clear hb1 hb2 hb3 hb4 hn3 hN3 hn4 hBF cF cI hbo hbo2 hbo3 z0 z1 z2 z3
    have hb : Below w4.heap.size w4 w4.drew := below_drewN (Below.refl _ _) 1
    · refine plan.region (by kernel_rfl) ?_
      refine plan.Rest.first 0 _ (.bool false) rfl (by kernel_rfl) (by kernel_rfl) (by kernel_rfl) (by kernel_rfl) (fun w' hb' => (by kernel_rfl)) ?_
      refine plan.Rest.first 1 _ (.int .i64 (-1)) rfl (by kernel_rfl) (by kernel_rfl) (by kernel_rfl) (by kernel_rfl) (fun w' hb' => (by kernel_rfl)) ?_
      refine plan.Rest.first 2 _ (.bool false) rfl (by kernel_rfl) (by kernel_rfl) (by kernel_rfl) (by kernel_rfl) (fun w' hb' => (by kernel_rfl)) ?_
      refine plan.Rest.first 3 _ (.bool false) rfl (by kernel_rfl) (by kernel_rfl) (by kernel_rfl) (by kernel_rfl) (fun w' hb' => (by kernel_rfl)) ?_
      refine plan.Rest.first 4 _ (.bool false) rfl (by kernel_rfl) (by kernel_rfl) (by kernel_rfl) (by kernel_rfl) (fun w' hb' => (by kernel_rfl)) ?_
      refine plan.Rest.first 5 _ (.bool false) rfl (by kernel_rfl) (by kernel_rfl) (by kernel_rfl) (by kernel_rfl) (fun w' hb' => (by kernel_rfl)) ?_
      refine plan.Rest.first 6 _ (.bool false) rfl (by kernel_rfl) (by kernel_rfl) (by kernel_rfl) (by kernel_rfl) (fun w' hb' => (by kernel_rfl)) ?_
      refine plan.Rest.skip 7 _ rfl (by kernel_rfl) (by kernel_rfl) (by kernel_rfl) (by kernel_rfl) ?_
      refine plan.Rest.skip 8 _ rfl (by kernel_rfl) (by kernel_rfl) (by kernel_rfl) (by kernel_rfl) ?_
      refine plan.Rest.skip 9 _ rfl (by kernel_rfl) (by kernel_rfl) (by kernel_rfl) (by kernel_rfl) ?_
      refine plan.Rest.skip 10 _ rfl (by kernel_rfl) (by kernel_rfl) (by kernel_rfl) (by kernel_rfl) ?_
      refine plan.Rest.skip 11 _ rfl (by kernel_rfl) (by kernel_rfl) (by kernel_rfl) (by kernel_rfl) ?_
      refine plan.Rest.skip 12 _ rfl (by kernel_rfl) (by kernel_rfl) (by kernel_rfl) (by kernel_rfl) ?_
      refine plan.Rest.skip 13 _ rfl (by kernel_rfl) (by kernel_rfl) (by kernel_rfl) (by kernel_rfl) ?_
      refine plan.Rest.skip 14 _ rfl (by kernel_rfl) (by kernel_rfl) (by kernel_rfl) (by kernel_rfl) ?_
      refine plan.Rest.first 15 _ (.bool false) rfl (by kernel_rfl) (by kernel_rfl) (by kernel_rfl) (by kernel_rfl) (fun w' hb' => (by kernel_rfl)) ?_
      refine plan.Rest.first 16 _ (.bool false) rfl (by kernel_rfl) (by kernel_rfl) (by kernel_rfl) (by kernel_rfl) (fun w' hb' => (by kernel_rfl)) ?_
      refine plan.Rest.first 17 _ (.bool false) rfl (by kernel_rfl) (by kernel_rfl) (by kernel_rfl) (by kernel_rfl) (fun w' hb' => (by kernel_rfl)) ?_
      refine plan.Rest.first 18 _ (.bool false) rfl (by kernel_rfl) (by kernel_rfl) (by kernel_rfl) (by kernel_rfl) (fun w' hb' => (by kernel_rfl)) ?_
      refine plan.Rest.first 19 _ (.bool true) rfl (by kernel_rfl) (by kernel_rfl) (by kernel_rfl) (by kernel_rfl) (fun w' hb' => (by kernel_rfl)) ?_
      refine plan.Rest.first 20 _ (.bool true) rfl (by kernel_rfl) (by kernel_rfl) (by kernel_rfl) (by kernel_rfl) (fun w' hb' => (by kernel_rfl)) ?_
      refine plan.Rest.first 21 _ (.pointer (some ⟨fb, 0, none⟩)) rfl (by kernel_rfl) (by kernel_rfl) (by kernel_rfl) (by kernel_rfl) (fun w' hb' => (by kernel_rfl)) ?_
      refine plan.Rest.first 22 _ (.int .i64 0) rfl (by kernel_rfl) (by kernel_rfl) (by kernel_rfl) (by kernel_rfl) (fun w' hb' => exec_cell_int (ad := ⟨fb, 0, none⟩) rfl (by kernel_rfl) (HZ.out _ (hb.trans (hb'.mono hb.size))).1 Try.isAgg3) ?_
      refine plan.Rest.first 23 _ (.bool false) rfl (by kernel_rfl) (by kernel_rfl) (by kernel_rfl) (by kernel_rfl) (fun w' hb' => (by kernel_rfl)) ?_
      refine plan.Rest.first 24 _ (.bool false) rfl (by kernel_rfl) (by kernel_rfl) (by kernel_rfl) (by kernel_rfl) (fun w' hb' => (by kernel_rfl)) ?_
      refine plan.Rest.first 25 _ (.pointer (some ⟨fb, 1, none⟩)) rfl (by kernel_rfl) (by kernel_rfl) (by kernel_rfl) (by kernel_rfl) (fun w' hb' => (by kernel_rfl)) ?_
      refine plan.Rest.first 26 _ (.slice none 0 0) rfl (by kernel_rfl) (by kernel_rfl) (by kernel_rfl) (by kernel_rfl) (fun w' hb' => exec_cell_slice (ad := ⟨fb, 1, none⟩) rfl (by kernel_rfl) (HZ.out _ (hb.trans (hb'.mono hb.size))).2 Try.isAgg27) ?_
      refine plan.Rest.first 27 _ (.int .i64 (0 : Int)) rfl (by kernel_rfl) (by kernel_rfl) (by kernel_rfl) (by kernel_rfl) (fun w' hb' => (by kernel_rfl)) ?_
      refine plan.Rest.first 28 _ (.bool false) rfl (by kernel_rfl) (by kernel_rfl) (by kernel_rfl) (by kernel_rfl) (fun w' hb' => (by kernel_rfl)) ?_
      refine plan.Rest.first 29 _ (.bool false) rfl (by kernel_rfl) (by kernel_rfl) (by kernel_rfl) (by kernel_rfl) (fun w' hb' => (by kernel_rfl)) ?_
      refine plan.Rest.first 30 _ (.bool false) rfl (by kernel_rfl) (by kernel_rfl) (by kernel_rfl) (by kernel_rfl) (fun w' hb' => (by kernel_rfl)) ?_
      refine plan.Rest.first 31 _ (.bool false) rfl (by kernel_rfl) (by kernel_rfl) (by kernel_rfl) (by kernel_rfl) (fun w' hb' => (by kernel_rfl)) ?_
      refine plan.Rest.done (by kernel_rfl) ?_
      walk_nrm
      have HST := hid (HB4.out.trans (hb.mono HB4.out.size))
      clear HZ hb
      go_wp2
      clear HX cGs cGt
      go_loopw [10] (fun m wr => ∃ j : Nat, j ≤ F.length ∧ m = .int .i64 (j : Int) ∧ Hid (Below W0.heap.size W0 wr)) (fun m _ => F.length - (intOf m).toNat)
      case atStart => exact ⟨0, Nat.zero_le _, rfl, HST⟩
      case round =>
        obtain ⟨j, hj, rfl, HB⟩ := hrel
        obtain ⟨z0, z1, z2, z3, hbo⟩ := HX0.out _ HB.out
        by_cases hjt : j < F.length
        · obtain ⟨b1, off1, p, hsa, hbl, hp, c0, c1, hfd, hfl⟩ := form_at HF.out HB.out hjt
          have i1 : (j : Int) < F.length := by omega
          have hpl : p.fL.length ≤ 40 := HSM.out.2 p.p (List.mem_of_getElem? (forms_at hp))
          cases hsa
          clear hp
          obtain ⟨i, q, qc, L⟩ := p
          simp only at c0 c1 hfd hfl hpl
          have hN5 := field.newB wr (.cells #[.int .i64 i, .slice q L.length qc] 29)
          have hB5 := Block.new wr 29 [.int .i64 i, .slice q L.length qc]
          have HB5 := hid (HB.out.trans (hN5.mono HB.out.size))
          have hfd5 := hfd.below hN5
          obtain ⟨w5, hw5⟩ : ∃ u, Hid (wr.alloc (.cells #[.int .i64 i, .slice q L.length qc] 29) = u) := ⟨_, hid rfl⟩
          obtain ⟨gb, hgb⟩ : ∃ u, Hid (wr.heap.size = u) := ⟨_, hid rfl⟩
          rw [hw5.out] at hB5 HB5 hfd5
          rw [hgb.out] at hB5
          have HZ := hid (fun w' (hb : Below w5.heap.size w5 w') => (hB5.later hb).whole)
          have cF1 := fun w' (hb : Below w5.heap.size w5 w') => fine_any i q qc L w' (hfd5.below hb) hfl
          have cF2 := fun w' (hb : Below w5.heap.size w5 w') => refFine_any i q qc L w' (hfd5.below hb) hfl
          have cL1 := fun w' (hb : Below w5.heap.size w5 w') => long_any i q qc L w' (hfd5.below hb) hpl
          have cL2 := fun w' (hb : Below w5.heap.size w5 w') => refLong_any i q qc L w' (hfd5.below hb) hpl
          have cA1 := fun w' (hb : Below w5.heap.size w5 w') => at_any i q qc L x w' (hfd5.below hb) hfl
          have cA2 := fun w' (hb : Below w5.heap.size w5 w') => refAt_any i q qc L x w' (hfd5.below hb) hfl
          generalize decide (Fine (i, L)) = r at *
          generalize size L = Z at *
          generalize firstAt (ids L) x = J at *
          have HNS : Hid (((Z : Int) != (Z : Int)) = false) := hid (by simp)
          have HNJ : Hid ((J != J) = false) := hid (by simp)
          clear hfd hfl hpl hN5 hB5 hfd5
          go_wp2
          rw [hw5.out, hgb.out]
          have hb : Below w5.heap.size w5 w5.drew := below_drewN (Below.refl _ _) 1
          · refine plan.region (by kernel_rfl) ?_
            refine plan.Rest.first 0 _ (.agg #[.int .i64 i, .slice q L.length qc]) rfl (by kernel_rfl) (by kernel_rfl) (by kernel_rfl) (by kernel_rfl) (fun w' hb' => exec_load_at (b := gb) (off := 0) rfl (by kernel_rfl) (HZ.out _ (hb.trans (hb'.mono hb.size))) Try.underlying29 rfl info_fm.out) ?_
            refine plan.Rest.first 2 _ (.agg #[.int .i64 i, .slice q L.length qc]) rfl (by kernel_rfl) (by kernel_rfl) (by kernel_rfl) (by kernel_rfl) (fun w' hb' => exec_load_at (b := gb) (off := 0) rfl (by kernel_rfl) (HZ.out _ (hb.trans (hb'.mono hb.size))) Try.underlying29 rfl info_fm.out) ?_
            refine plan.Rest.call 1 _ 11 #[.agg #[.int .i64 i, .slice q L.length qc]] rfl (by kernel_rfl) (by kernel_rfl) (by kernel_rfl) ((cF1 w5.drew hb).mono ?_)
            rintro e W1 ⟨rfl, hn⟩
            have hb := hb.trans (hn.mono hb.size)
            refine ⟨_, rfl, hn, ?_⟩
            refine plan.Rest.call 3 _ 12 #[.agg #[.int .i64 i, .slice q L.length qc]] rfl (by kernel_rfl) (by kernel_rfl) (by kernel_rfl) ((cF2 W1 hb).mono ?_)
            rintro e W2 ⟨rfl, hn⟩
            have hb := hb.trans (hn.mono hb.size)
            refine ⟨_, rfl, hn, ?_⟩
            refine plan.Rest.first 4 _ (.bool false) rfl (by kernel_rfl) (by kernel_rfl) (by kernel_rfl) (by kernel_rfl) (fun w' hb' => (exec_neq_bool (r := r) rfl (by kernel_rfl) (by kernel_rfl))) ?_
            refine plan.Rest.first 5 _ (.bool false) rfl (by kernel_rfl) (by kernel_rfl) (by kernel_rfl) (by kernel_rfl) (fun w' hb' => (by kernel_rfl)) ?_
            refine plan.Rest.first 6 _ (.agg #[.int .i64 i, .slice q L.length qc]) rfl (by kernel_rfl) (by kernel_rfl) (by kernel_rfl) (by kernel_rfl) (fun w' hb' => exec_load_at (b := gb) (off := 0) rfl (by kernel_rfl) (HZ.out _ (hb.trans (hb'.mono hb.size))) Try.underlying29 rfl info_fm.out) ?_
            refine plan.Rest.first 8 _ (.agg #[.int .i64 i, .slice q L.length qc]) rfl (by kernel_rfl) (by kernel_rfl) (by kernel_rfl) (by kernel_rfl) (fun w' hb' => exec_load_at (b := gb) (off := 0) rfl (by kernel_rfl) (HZ.out _ (hb.trans (hb'.mono hb.size))) Try.underlying29 rfl info_fm.out) ?_
            refine plan.Rest.call 7 _ 13 #[.agg #[.int .i64 i, .slice q L.length qc]] rfl (by kernel_rfl) (by kernel_rfl) (by kernel_rfl) ((cL1 W2 hb).mono ?_)
            rintro e W3 ⟨rfl, hn⟩
            have hb := hb.trans (hn.mono hb.size)
            refine ⟨_, rfl, hn, ?_⟩
            refine plan.Rest.call 9 _ 14 #[.agg #[.int .i64 i, .slice q L.length qc]] rfl (by kernel_rfl) (by kernel_rfl) (by kernel_rfl) ((cL2 W3 hb).mono ?_)
            rintro e W4 ⟨rfl, hn⟩
            have hb := hb.trans (hn.mono hb.size)
            refine ⟨_, rfl, hn, ?_⟩
            refine plan.Rest.first 10 _ (.bool false) rfl (by kernel_rfl) (by kernel_rfl) (by kernel_rfl) (by kernel_rfl) (fun w' hb' => (exec_neq_int (n := (Z : Int)) (m := (Z : Int)) rfl (by kernel_rfl) (by kernel_rfl) HNS)) ?_
            refine plan.Rest.first 11 _ (.bool false) rfl (by kernel_rfl) (by kernel_rfl) (by kernel_rfl) (by kernel_rfl) (fun w' hb' => (by kernel_rfl)) ?_
            refine plan.Rest.first 12 _ (.bool false) rfl (by kernel_rfl) (by kernel_rfl) (by kernel_rfl) (by kernel_rfl) (fun w' hb' => (by kernel_rfl)) ?_
            refine plan.Rest.first 13 _ (.agg #[.int .i64 i, .slice q L.length qc]) rfl (by kernel_rfl) (by kernel_rfl) (by kernel_rfl) (by kernel_rfl) (fun w' hb' => exec_load_at (b := gb) (off := 0) rfl (by kernel_rfl) (HZ.out _ (hb.trans (hb'.mono hb.size))) Try.underlying29 rfl info_fm.out) ?_
            refine plan.Rest.first 14 _ (.int .i64 x) rfl (by kernel_rfl) (by kernel_rfl) (by kernel_rfl) (by kernel_rfl) (fun w' hb' => (by kernel_rfl)) ?_
            refine plan.Rest.first 16 _ (.agg #[.int .i64 i, .slice q L.length qc]) rfl (by kernel_rfl) (by kernel_rfl) (by kernel_rfl) (by kernel_rfl) (fun w' hb' => exec_load_at (b := gb) (off := 0) rfl (by kernel_rfl) (HZ.out _ (hb.trans (hb'.mono hb.size))) Try.underlying29 rfl info_fm.out) ?_
            refine plan.Rest.first 17 _ (.int .i64 x) rfl (by kernel_rfl) (by kernel_rfl) (by kernel_rfl) (by kernel_rfl) (fun w' hb' => (by kernel_rfl)) ?_
            refine plan.Rest.call 15 _ 15 #[.agg #[.int .i64 i, .slice q L.length qc], .int .i64 x] rfl (by kernel_rfl) (by kernel_rfl) (by kernel_rfl) ((cA1 W4 hb).mono ?_)
            rintro e W5 ⟨rfl, hn⟩
            have hb := hb.trans (hn.mono hb.size)
            refine ⟨_, rfl, hn, ?_⟩
            refine plan.Rest.call 18 _ 16 #[.agg #[.int .i64 i, .slice q L.length qc], .int .i64 x] rfl (by kernel_rfl) (by kernel_rfl) (by kernel_rfl) ((cA2 W5 hb).mono ?_)
            rintro e W6 ⟨rfl, hn⟩
            have hb := hb.trans (hn.mono hb.size)
            refine ⟨_, rfl, hn, ?_⟩
            refine plan.Rest.first 19 _ (.bool false) rfl (by kernel_rfl) (by kernel_rfl) (by kernel_rfl) (by kernel_rfl) (fun w' hb' => (exec_neq_int (n := J) (m := J) rfl (by kernel_rfl) (by kernel_rfl) HNJ)) ?_
            refine plan.Rest.first 20 _ (.bool false) rfl (by kernel_rfl) (by kernel_rfl) (by kernel_rfl) (by kernel_rfl) (fun w' hb' => (by kernel_rfl)) ?_
            refine plan.Rest.done (by kernel_rfl) ?_
            walk_nrm
            go_wp2
            exact ⟨⟨j + 1, by omega, by go_num, hid (HB5.out.trans (hb.mono HB5.out.size))⟩, by simp [intOf]; omega⟩
        · obtain rfl : j = F.length := by omega
          have HZ := hid (fun w' (hb : Below wr.heap.size wr w') => (⟨(HRS.out.later (HB.out.trans (hb.mono HB.out.size))).whole, (HRT.out.later (HB.out.trans (hb.mono HB.out.size))).whole⟩ : w'.rangeAt w.heap.size 0 [.int .i64 v, .slice sa F.length sc] ∧ w'.rangeAt (w.heap.size + 1) 0 [.int .i64 tv, .slice ta G.length tc]))
          have cR1 := fun w' (hb : Below wr.heap.size wr w') => right_any v sa sc F w' (HF.out.below (HB.out.trans (hb.mono HB.out.size))) hF
          have cR2 := fun w' (hb : Below wr.heap.size wr w') => refRight_any v sa sc F w' (HF.out.below (HB.out.trans (hb.mono HB.out.size))) hF
          have cS1 := fun w' (hb : Below wr.heap.size wr w') => same_any v sa sc F tv ta tc G w' (HF.out.below (HB.out.trans (hb.mono HB.out.size))) (HT.out.below (HB.out.trans (hb.mono HB.out.size))) hF hG
          have cS2 := fun w' (hb : Below wr.heap.size wr w') => refSame_any v sa sc F tv ta tc G w' (HF.out.below (HB.out.trans (hb.mono HB.out.size))) (HT.out.below (HB.out.trans (hb.mono HB.out.size))) hF hG
          have cS3 := fun w' (hb : Below wr.heap.size wr w') => same_any v sa sc F v sa sc F w' (HF.out.below (HB.out.trans (hb.mono HB.out.size))) (HF.out.below (HB.out.trans (hb.mono HB.out.size))) hF hF
          have hvv : decide (v = v ∧ forms F = forms F) = true := decide_eq_true ⟨rfl, rfl⟩
          rw [hvv] at cS3
          generalize decide (Right v (forms F)) = r at *
          generalize decide (v = tv ∧ forms F = forms G) = q at *
          have cA : ∀ w', Calls Try.prog 7 #[] w' (field.Gives (.bool true) w') := cA
          clear hvv
          go_wp2
          have hb : Below wr.heap.size wr wr.drew := below_drewN (Below.refl _ _) 1
          · refine plan.region (by kernel_rfl) ?_
            refine plan.Rest.first 0 _ (.agg #[.int .i64 v, .slice sa F.length sc]) rfl (by kernel_rfl) (by kernel_rfl) (by kernel_rfl) (by kernel_rfl) (fun w' hb' => exec_load_at (b := w.heap.size) (off := 0) rfl (by kernel_rfl) (HZ.out _ (hb.trans (hb'.mono hb.size))).1 Try.underlying24 rfl info_sc.out) ?_
            refine plan.Rest.first 2 _ (.agg #[.int .i64 v, .slice sa F.length sc]) rfl (by kernel_rfl) (by kernel_rfl) (by kernel_rfl) (by kernel_rfl) (fun w' hb' => exec_load_at (b := w.heap.size) (off := 0) rfl (by kernel_rfl) (HZ.out _ (hb.trans (hb'.mono hb.size))).1 Try.underlying24 rfl info_sc.out) ?_
            refine plan.Rest.call 1 _ 17 #[.agg #[.int .i64 v, .slice sa F.length sc]] rfl (by kernel_rfl) (by kernel_rfl) (by kernel_rfl) ((cR1 wr.drew hb).mono ?_)
            rintro e W1 ⟨rfl, hn⟩
            have hb := hb.trans (hn.mono hb.size)
            refine ⟨_, rfl, hn, ?_⟩
            refine plan.Rest.call 3 _ 18 #[.agg #[.int .i64 v, .slice sa F.length sc]] rfl (by kernel_rfl) (by kernel_rfl) (by kernel_rfl) ((cR2 W1 hb).mono ?_)
            rintro e W2 ⟨rfl, hn⟩
            have hb := hb.trans (hn.mono hb.size)
            refine ⟨_, rfl, hn, ?_⟩
            refine plan.Rest.first 4 _ (.bool true) rfl (by kernel_rfl) (by kernel_rfl) (by kernel_rfl) (by kernel_rfl) (fun w' hb' => (exec_eql_bool (r := r) rfl (by kernel_rfl) (by kernel_rfl))) ?_
            refine plan.Rest.first 5 _ (.bool true) rfl (by kernel_rfl) (by kernel_rfl) (by kernel_rfl) (by kernel_rfl) (fun w' hb' => (by kernel_rfl)) ?_
            refine plan.Rest.first 6 _ (.agg #[.int .i64 v, .slice sa F.length sc]) rfl (by kernel_rfl) (by kernel_rfl) (by kernel_rfl) (by kernel_rfl) (fun w' hb' => exec_load_at (b := w.heap.size) (off := 0) rfl (by kernel_rfl) (HZ.out _ (hb.trans (hb'.mono hb.size))).1 Try.underlying24 rfl info_sc.out) ?_
            refine plan.Rest.first 7 _ (.agg #[.int .i64 tv, .slice ta G.length tc]) rfl (by kernel_rfl) (by kernel_rfl) (by kernel_rfl) (by kernel_rfl) (fun w' hb' => exec_load_at (b := w.heap.size + 1) (off := 0) rfl (by kernel_rfl) (HZ.out _ (hb.trans (hb'.mono hb.size))).2 Try.underlying24 rfl info_sc.out) ?_
            refine plan.Rest.first 9 _ (.agg #[.int .i64 v, .slice sa F.length sc]) rfl (by kernel_rfl) (by kernel_rfl) (by kernel_rfl) (by kernel_rfl) (fun w' hb' => exec_load_at (b := w.heap.size) (off := 0) rfl (by kernel_rfl) (HZ.out _ (hb.trans (hb'.mono hb.size))).1 Try.underlying24 rfl info_sc.out) ?_
            refine plan.Rest.first 10 _ (.agg #[.int .i64 tv, .slice ta G.length tc]) rfl (by kernel_rfl) (by kernel_rfl) (by kernel_rfl) (by kernel_rfl) (fun w' hb' => exec_load_at (b := w.heap.size + 1) (off := 0) rfl (by kernel_rfl) (HZ.out _ (hb.trans (hb'.mono hb.size))).2 Try.underlying24 rfl info_sc.out) ?_
            refine plan.Rest.call 8 _ 19 #[.agg #[.int .i64 v, .slice sa F.length sc], .agg #[.int .i64 tv, .slice ta G.length tc]] rfl (by kernel_rfl) (by kernel_rfl) (by kernel_rfl) ((cS1 W2 hb).mono ?_)
            rintro e W3 ⟨rfl, hn⟩
            have hb := hb.trans (hn.mono hb.size)
            refine ⟨_, rfl, hn, ?_⟩
            refine plan.Rest.call 11 _ 20 #[.agg #[.int .i64 v, .slice sa F.length sc], .agg #[.int .i64 tv, .slice ta G.length tc]] rfl (by kernel_rfl) (by kernel_rfl) (by kernel_rfl) ((cS2 W3 hb).mono ?_)
            rintro e W4 ⟨rfl, hn⟩
            have hb := hb.trans (hn.mono hb.size)
            refine ⟨_, rfl, hn, ?_⟩
            refine plan.Rest.first 12 _ (.bool true) rfl (by kernel_rfl) (by kernel_rfl) (by kernel_rfl) (by kernel_rfl) (fun w' hb' => (exec_eql_bool (r := q) rfl (by kernel_rfl) (by kernel_rfl))) ?_
            refine plan.Rest.first 13 _ (.bool true) rfl (by kernel_rfl) (by kernel_rfl) (by kernel_rfl) (by kernel_rfl) (fun w' hb' => (by kernel_rfl)) ?_
            refine plan.Rest.first 14 _ (.bool true) rfl (by kernel_rfl) (by kernel_rfl) (by kernel_rfl) (by kernel_rfl) (fun w' hb' => (by kernel_rfl)) ?_
            refine plan.Rest.first 15 _ (.agg #[.int .i64 v, .slice sa F.length sc]) rfl (by kernel_rfl) (by kernel_rfl) (by kernel_rfl) (by kernel_rfl) (fun w' hb' => exec_load_at (b := w.heap.size) (off := 0) rfl (by kernel_rfl) (HZ.out _ (hb.trans (hb'.mono hb.size))).1 Try.underlying24 rfl info_sc.out) ?_
            refine plan.Rest.first 16 _ (.agg #[.int .i64 v, .slice sa F.length sc]) rfl (by kernel_rfl) (by kernel_rfl) (by kernel_rfl) (by kernel_rfl) (fun w' hb' => exec_load_at (b := w.heap.size) (off := 0) rfl (by kernel_rfl) (HZ.out _ (hb.trans (hb'.mono hb.size))).1 Try.underlying24 rfl info_sc.out) ?_
            refine plan.Rest.call 17 _ 19 #[.agg #[.int .i64 v, .slice sa F.length sc], .agg #[.int .i64 v, .slice sa F.length sc]] rfl (by kernel_rfl) (by kernel_rfl) (by kernel_rfl) ((cS3 W4 hb).mono ?_)
            rintro e W5 ⟨rfl, hn⟩
            have hb := hb.trans (hn.mono hb.size)
            refine ⟨_, rfl, hn, ?_⟩
            refine plan.Rest.first 18 _ (.bool true) rfl (by kernel_rfl) (by kernel_rfl) (by kernel_rfl) (by kernel_rfl) (fun w' hb' => (by kernel_rfl)) ?_
            refine plan.Rest.first 19 _ (.bool true) rfl (by kernel_rfl) (by kernel_rfl) (by kernel_rfl) (by kernel_rfl) (fun w' hb' => (by kernel_rfl)) ?_
            refine plan.Rest.call 20 _ 7 #[] rfl (by kernel_rfl) (by kernel_rfl) (by kernel_rfl) ((cA W5).mono ?_)
            rintro e W6 ⟨rfl, hn⟩
            have hb := hb.trans (hn.mono hb.size)
            refine ⟨_, rfl, hn, ?_⟩
            refine plan.Rest.first 21 _ (.bool true) rfl (by kernel_rfl) (by kernel_rfl) (by kernel_rfl) (by kernel_rfl) (fun w' hb' => (by kernel_rfl)) ?_
            refine plan.Rest.value 22 _ (.bool true) rfl (by kernel_rfl) (by kernel_rfl) (by kernel_rfl) ?_
            refine plan.Rest.done (by kernel_rfl) ?_
            walk_nrm
            go_wp2
            go_ret
            exact ⟨rfl, hbo.trans (hb.mono hbo.size)⟩
theorem walk (p q : Sc) (x : Int) (w : World) (hp : p.Good w) (hq : q.Good w) (h1 : -9223372036854775808 ≤ x) (h2 : x ≤ 9223372036854775807) :
    Calls Try.prog 3 #[p.val, q.val, .int .i64 x] w (Yes w) :=
  walk0 p.ver p.f p.fCap p.fL q.ver q.f q.fCap q.fL x w ⟨hp.rf, fun r hr => (hp.mf r hr).ok⟩ (Nat.le_trans hp.cf hp.df) ⟨hq.rf, fun r hr => (hq.mf r hr).ok⟩ (Nat.le_trans hq.cf hq.df)
end Go.Proofs.Ytacigmnnekphmaa.schemaRight
