/- RecordHas returns true for every form and every two records, and each argument reads afterwards as it read before. No condition. -/
import Derived.Test.YtegeeobfamjjpaaCmH
import Derived.Conc.WalkWords
import Derived.Test.YtegeeobfamjjpaaCmA
/- RecordHas returns true. No condition. -/
namespace Go.Proofs.Ytegeeobfamjjpaa.recordHas
open Go.RowKit Go.Proofs.Ytegeeobfamjjpaa.record
open Go.Proofs.Ytegeeobfamjjpaa.field (Va Gives newB gives_from)
open Go.Proofs.Ytegeeobfamjjpaa.schema (Fine refFine_any below_out exec_load_at info_fm)
set_option linter.unusedVariables false

set_option maxRecDepth 20000 in
set_option maxHeartbeats 3200000 in
theorem walk0 (i : Int) (a : Option Addr) (c : Nat) (L : List field.Fd) (j : Int) (b : Option Addr) (d : Nat) (V : List Va) (s : Int) (sb : Option Addr) (sd : Nat) (U : List Va) (w : World)
    (hl : field.Fds w a L) (hL : L.length ≤ maxLen) (hv : field.Vas w b V) (hV : V.length ≤ maxLen) (hu : field.Vas w sb U) (hU : U.length ≤ maxLen) :
    Calls Try.prog 3 #[.agg #[.int .i64 i, .slice a L.length c], .agg #[.int .i64 j, .slice b V.length d], .agg #[.int .i64 s, .slice sb U.length sd]] w (Yes w) := by
  have HX := hid (WF.all i a L c j b V d w)
  have hw := (WF.all i a L c j b V d w _ (Below.refl _ _)).2.2.2.2
  have b3 := newB (WF i a L c j b V d w) (.cells #[.int .i64 s, .slice sb U.length sd] 27)
  have hw3 := hw.trans (b3.mono hw.size)
  have hRF := ((Block.new w 24 [.int .i64 i, .slice a L.length c]).alloc (.cells #[.int .i64 j, .slice b V.length d] 27)).alloc (.cells #[.int .i64 s, .slice sb U.length sd] 27)
  have hRR := (Block.new (w.alloc (.cells #[.int .i64 i, .slice a L.length c] 24)) 27 [.int .i64 j, .slice b V.length d]).alloc (.cells #[.int .i64 s, .slice sb U.length sd] 27)
  have hRS := Block.new (WF i a L c j b V d w) 27 [.int .i64 s, .slice sb U.length sd]
  rw [show ((w.alloc (.cells #[.int .i64 i, .slice a L.length c] 24))).heap.size = w.heap.size + 1 by simp] at hRR
  rw [show (WF i a L c j b V d w).heap.size = w.heap.size + 1 + 1 by unfold WF; simp] at hRS
  have hl0 := hl.below hw3
  have hv0 := hv.below hw3
  have hu0 := hu.below hw3
  have cA : ∀ w', Calls Try.prog 7 #[] w' (Gives (.bool true) w') := fun w' => awake_any w'
  unfold WF at HX hl0 hv0 hu0 hRS hw3
  obtain ⟨W0, hW0⟩ : ∃ x, ((w.alloc (.cells #[.int .i64 i, .slice a L.length c] 24)).alloc (.cells #[.int .i64 j, .slice b V.length d] 27)).alloc (.cells #[.int .i64 s, .slice sb U.length sd] 27) = x := ⟨_, rfl⟩
  have HW0 := hid hW0
  rw [hW0] at hl0 hv0 hu0 hw3
  have HL := hid hl0
  have HV := hid hv0
  have HU := hid hu0
  have HRF : Hid (Block W0 w.heap.size 24 [.int .i64 i, .slice a L.length c]) := hid (by rw [← hW0]; exact hRF)
  have HRR : Hid (Block W0 (w.heap.size + 1) 27 [.int .i64 j, .slice b V.length d]) := hid (by rw [← hW0]; exact hRR)
  have HRS : Hid (Block W0 (w.heap.size + 1 + 1) 27 [.int .i64 s, .slice sb U.length sd]) := hid (by rw [← hW0]; exact hRS)
  have HB0 := hid hw3
  obtain ⟨g, hg⟩ : ∃ g, Hid (decide (40 < L.length ∨ 40 < V.length) = g) := ⟨_, hid rfl⟩
  have cG0 := great_any i a c L j b d V W0 g hg.out
  have cFn := fun w' (hb : Below W0.heap.size W0 w') => refFine_any i a c L w' (HL.out.below hb) hL
  clear hl hv hu hl0 hv0 hu0 hRF hRR hRS hw hw3 b3 hW0 HX
  rw [← HW0.out] at cG0
  unfold Gives at cA cG0 cFn
  by_cases hgt : g = true
  · subst hgt
    clear cFn
    go_enter Try.func3, Try.ntmps3
    go_wp2_with (first
      | (go_at_call 6; ((with_reducible refine cG0.mono ?_); rintro e w1 ⟨rfl, hb1⟩; rw [HW0.out] at hb1))
      | (go_at_call 7; ((with_reducible refine (cA _).mono ?_); rintro e w8 ⟨rfl, hb8⟩)))
    go_ret
    exact ⟨rfl, HB0.out.trans ((hb1.trans (hb8.mono hb1.size)).mono HB0.out.size)⟩
  rw [Bool.not_eq_true] at hgt
  subst hgt
  have hLV : ¬ (40 < L.length ∨ 40 < V.length) := of_decide_eq_false hg.out
  have hL40 : L.length ≤ 40 := by omega
  by_cases hf : Fine (i, L)
  · simp only [decide_eq_true hf] at cFn
    have cFi := fun w' (hb : Below W0.heap.size W0 w') => refFirst_any i a c L w' (HL.out.below hb) hL40
    have HFR : Hid (firstR i L = (i, firsts L)) := hid (if_pos hf)
    unfold RecAs at cFi
    have HFL := hid (firsts_length L)
    have hLi : (L.length : Int) ≤ 40 := by omega
    clear hLV hf
    go_enter Try.func3, Try.ntmps3
    go_wp2_with (first
      | (go_at_call 6; ((with_reducible refine cG0.mono ?_); clear cG0; rintro e w1 ⟨rfl, hb1⟩; rw [HW0.out] at hb1; have h1F := HRF.out.later hb1; have x0 := h1F.cell 0; have x1 := h1F.cell 1; have hsz1 : w.heap.size < w1.heap.size := h1F.lt; have hbw := hb1.trans ((newB w1 (.cells #[.int .i64 0, .slice none 0 0] 27)).mono hb1.size); have HG1 := hid (Block.new w1 27 [.int .i64 0, .slice none 0 0])))
      | (go_at_call 8; ((with_reducible refine (cFn _ hbw).mono ?_); rintro e w2 ⟨rfl, hb2⟩; have hb02 := hbw.trans (hb2.mono hbw.size); have h2F := HRF.out.later hb02; have y0 := h2F.cell 0; have y1 := h2F.cell 1; have HG2 := hid (HG1.out.later hb2)))
      | (go_at_call 9; ((with_reducible refine (cFi _ hb02).mono ?_); rintro e w3 ⟨x3, c3, rfl, hv3, hb3⟩; have hb03 := hb02.trans (hb3.mono hb02.size); have h3G := HG2.out.later hb3; have g0 := h3G.cell 0; have g1 := h3G.cell 1; have q0 := h3G.frozen 0; have q1 := h3G.frozen 1)))
    have HG3 := hid h3G
    have HV3 := hid hv3
    have HB3 := hid hb03
    have HSZ1 := hid hb1.size
    clear h3G hv3 hb03 g0 g1 q0 q1 y0 y1 x0 x1 h1F h2F hbw HG1 HG2 hb1 hb2 hb3 hb02 cFn cFi
    have hG4 := (HG3.out.setCell 0 (.int .i64 i)).setCell 1 (.slice x3 (firsts L).length c3)
    have hv4 := vas_store (vas_store HV3.out HG3.out 0 (.int .i64 i)) (HG3.out.setCell 0 (.int .i64 i)) 1 (.slice x3 (firsts L).length c3)
    have hb4 := below_setCells (below_setCells HB3.out HSZ1.out 0 [.int .i64 i]) HSZ1.out 1 [.slice x3 (firsts L).length c3]
    obtain ⟨w4, hw4⟩ : ∃ x, Hid ((w3.setCell ⟨w1.heap.size, 0, none⟩ (.int .i64 i)).setCell ⟨w1.heap.size, 1, none⟩ (.slice x3 (firsts L).length c3) = x) := ⟨_, hid rfl⟩
    have HG4 : Hid (Block w4 w1.heap.size 27 [.int .i64 i, .slice x3 (firsts L).length c3]) := hid (by rw [← hw4.out]; exact hG4)
    have HV4 : Hid (field.Vas w4 x3 (firsts L)) := hid (by rw [← hw4.out]; exact hv4)
    have HB4 : Hid (Below W0.heap.size W0 w4) := hid (by rw [← hw4.out]; exact hb4)
    rw [hw4.out]
    clear hw4 hG4 hv4 hb4 HG3 HV3 HB3 HSZ1
    have hFL : (firsts L).length ≤ maxLen := by rw [HFL.out]; exact hL
    obtain ⟨hFR1, hFR2⟩ : (firstR i L).1 = i ∧ (firstR i L).2 = firsts L := by rw [HFR.out]; exact ⟨rfl, rfl⟩
    generalize firsts L = FV at *
    have cH1 := fun w' (hb : Below w4.heap.size w4 w') => has_any' i a c L j b d V w' (HL.out.below (HB4.out.trans (hb.mono HB4.out.size))) (HV.out.below (HB4.out.trans (hb.mono HB4.out.size))) hL hV
    have cH2 := fun w' (hb : Below w4.heap.size w4 w') => refHas_any' i a c L j b d V w' (HL.out.below (HB4.out.trans (hb.mono HB4.out.size))) (HV.out.below (HB4.out.trans (hb.mono HB4.out.size))) hL hV
    have cF1 := fun w' (hb : Below w4.heap.size w4 w') => first_any i a c L w' (HL.out.below (HB4.out.trans (hb.mono HB4.out.size))) hL
    rw [hFR1, hFR2] at cF1
    have cW := fun x5 c5 w' (hb : Below w4.heap.size w4 w') (hv : field.Vas w' x5 FV) => refSame_any i x5 c5 FV i x3 c3 FV w' hv (HV4.out.below hb) hFL hFL
    have cS1 := fun w' (hb : Below w4.heap.size w4 w') => same_any j b d V s sb sd U w' (HV.out.below (HB4.out.trans (hb.mono HB4.out.size))) (HU.out.below (HB4.out.trans (hb.mono HB4.out.size))) hV hU
    have cS2 := fun w' (hb : Below w4.heap.size w4 w') => refSame_any j b d V s sb sd U w' (HV.out.below (HB4.out.trans (hb.mono HB4.out.size))) (HU.out.below (HB4.out.trans (hb.mono HB4.out.size))) hV hU
    have cS3 := fun w' (hb : Below w4.heap.size w4 w') => same_any j b d V j b d V w' (HV.out.below (HB4.out.trans (hb.mono HB4.out.size))) (HV.out.below (HB4.out.trans (hb.mono HB4.out.size))) hV hV
    simp only at cW
    simp only at cS3
    generalize decide (Has i L j V) = r at *
    generalize decide (j = s ∧ V = U) = q at *
    have HZ := hid (fun w' (hb' : Below w4.heap.size w4 w') => (⟨(HRF.out.later (HB4.out.trans (hb'.mono HB4.out.size))).whole, (HRR.out.later (HB4.out.trans (hb'.mono HB4.out.size))).whole, (HRS.out.later (HB4.out.trans (hb'.mono HB4.out.size))).whole, (HG4.out.later hb').whole⟩ : w'.rangeAt w.heap.size 0 [.int .i64 i, .slice a L.length c] ∧ w'.rangeAt (w.heap.size + 1) 0 [.int .i64 j, .slice b V.length d] ∧ w'.rangeAt (w.heap.size + 1 + 1) 0 [.int .i64 s, .slice sb U.length sd] ∧ w'.rangeAt w1.heap.size 0 [.int .i64 i, .slice x3 FV.length c3]))
    unfold RecAs at cF1
    have hb : Below w4.heap.size w4 w4.drew := below_drewN (Below.refl _ _) 1
    refine plan.region (by kernel_rfl) ?_
    refine plan.Rest.first 0 _ (.agg #[.int .i64 i, .slice a L.length c]) rfl (by kernel_rfl) (by kernel_rfl) (by kernel_rfl) (by kernel_rfl) (fun w' hb' => exec_load_at (b := w.heap.size) (off := 0) rfl (by kernel_rfl) (HZ.out _ (hb.trans (hb'.mono hb.size))).1 Try.underlying24 rfl info_fm.out) ?_
    refine plan.Rest.first 1 _ (.agg #[.int .i64 j, .slice b V.length d]) rfl (by kernel_rfl) (by kernel_rfl) (by kernel_rfl) (by kernel_rfl) (fun w' hb' => exec_load_at (b := w.heap.size + 1) (off := 0) rfl (by kernel_rfl) (HZ.out _ (hb.trans (hb'.mono hb.size))).2.1 Try.underlying27 rfl info_rc.out) ?_
    refine plan.Rest.first 3 _ (.agg #[.int .i64 i, .slice a L.length c]) rfl (by kernel_rfl) (by kernel_rfl) (by kernel_rfl) (by kernel_rfl) (fun w' hb' => exec_load_at (b := w.heap.size) (off := 0) rfl (by kernel_rfl) (HZ.out _ (hb.trans (hb'.mono hb.size))).1 Try.underlying24 rfl info_fm.out) ?_
    refine plan.Rest.first 4 _ (.agg #[.int .i64 j, .slice b V.length d]) rfl (by kernel_rfl) (by kernel_rfl) (by kernel_rfl) (by kernel_rfl) (fun w' hb' => exec_load_at (b := w.heap.size + 1) (off := 0) rfl (by kernel_rfl) (HZ.out _ (hb.trans (hb'.mono hb.size))).2.1 Try.underlying27 rfl info_rc.out) ?_
    refine plan.Rest.call 2 _ 10 #[.agg #[.int .i64 i, .slice a L.length c], .agg #[.int .i64 j, .slice b V.length d]] rfl (by kernel_rfl) (by kernel_rfl) (by kernel_rfl) ((cH1 w4.drew hb).mono ?_)
    rintro e W1 ⟨rfl, hn⟩
    have hb := hb.trans (hn.mono hb.size)
    refine ⟨_, rfl, hn, ?_⟩
    refine plan.Rest.call 5 _ 11 #[.agg #[.int .i64 i, .slice a L.length c], .agg #[.int .i64 j, .slice b V.length d]] rfl (by kernel_rfl) (by kernel_rfl) (by kernel_rfl) ((cH2 W1 hb).mono ?_)
    rintro e W2 ⟨rfl, hn⟩
    have hb := hb.trans (hn.mono hb.size)
    refine ⟨_, rfl, hn, ?_⟩
    refine plan.Rest.first 6 _ (.bool true) rfl (by kernel_rfl) (by kernel_rfl) (by kernel_rfl) (by kernel_rfl) (fun w' hb' => (exec_eql_bool (r := r) rfl (by kernel_rfl) (by kernel_rfl))) ?_
    refine plan.Rest.first 7 _ (.bool true) rfl (by kernel_rfl) (by kernel_rfl) (by kernel_rfl) (by kernel_rfl) (fun w' hb' => (by kernel_rfl)) ?_
    refine plan.Rest.first 8 _ (.agg #[.int .i64 i, .slice a L.length c]) rfl (by kernel_rfl) (by kernel_rfl) (by kernel_rfl) (by kernel_rfl) (fun w' hb' => exec_load_at (b := w.heap.size) (off := 0) rfl (by kernel_rfl) (HZ.out _ (hb.trans (hb'.mono hb.size))).1 Try.underlying24 rfl info_fm.out) ?_
    refine plan.Rest.first 10 _ (.agg #[.int .i64 i, .slice x3 FV.length c3]) rfl (by kernel_rfl) (by kernel_rfl) (by kernel_rfl) (by kernel_rfl) (fun w' hb' => exec_load_at (b := w1.heap.size) (off := 0) rfl (by kernel_rfl) (HZ.out _ (hb.trans (hb'.mono hb.size))).2.2.2 Try.underlying27 rfl info_rc.out) ?_
    refine plan.Rest.call 9 _ 13 #[.agg #[.int .i64 i, .slice a L.length c]] rfl (by kernel_rfl) (by kernel_rfl) (by kernel_rfl) ((cF1 W2 hb).mono ?_)
    rintro e W3 ⟨x5, c5, rfl, hv5, hn⟩
    have hb := hb.trans (hn.mono hb.size)
    refine ⟨_, rfl, hn, ?_⟩
    refine plan.Rest.call 11 _ 12 #[.agg #[.int .i64 i, .slice x5 FV.length c5], .agg #[.int .i64 i, .slice x3 FV.length c3]] rfl (by kernel_rfl) (by kernel_rfl) (by kernel_rfl) ((cW x5 c5 W3 hb hv5).mono ?_)
    rintro e W4 ⟨rfl, hn⟩
    have hb := hb.trans (hn.mono hb.size)
    refine ⟨_, rfl, hn, ?_⟩
    refine plan.Rest.first 12 _ (.bool true) rfl (by kernel_rfl) (by kernel_rfl) (by kernel_rfl) (by kernel_rfl) (fun w' hb' => (by kernel_rfl)) ?_
    refine plan.Rest.first 13 _ (.bool true) rfl (by kernel_rfl) (by kernel_rfl) (by kernel_rfl) (by kernel_rfl) (fun w' hb' => (by kernel_rfl)) ?_
    refine plan.Rest.first 14 _ (.agg #[.int .i64 j, .slice b V.length d]) rfl (by kernel_rfl) (by kernel_rfl) (by kernel_rfl) (by kernel_rfl) (fun w' hb' => exec_load_at (b := w.heap.size + 1) (off := 0) rfl (by kernel_rfl) (HZ.out _ (hb.trans (hb'.mono hb.size))).2.1 Try.underlying27 rfl info_rc.out) ?_
    refine plan.Rest.first 15 _ (.agg #[.int .i64 s, .slice sb U.length sd]) rfl (by kernel_rfl) (by kernel_rfl) (by kernel_rfl) (by kernel_rfl) (fun w' hb' => exec_load_at (b := w.heap.size + 1 + 1) (off := 0) rfl (by kernel_rfl) (HZ.out _ (hb.trans (hb'.mono hb.size))).2.2.1 Try.underlying27 rfl info_rc.out) ?_
    refine plan.Rest.first 17 _ (.agg #[.int .i64 j, .slice b V.length d]) rfl (by kernel_rfl) (by kernel_rfl) (by kernel_rfl) (by kernel_rfl) (fun w' hb' => exec_load_at (b := w.heap.size + 1) (off := 0) rfl (by kernel_rfl) (HZ.out _ (hb.trans (hb'.mono hb.size))).2.1 Try.underlying27 rfl info_rc.out) ?_
    refine plan.Rest.first 18 _ (.agg #[.int .i64 s, .slice sb U.length sd]) rfl (by kernel_rfl) (by kernel_rfl) (by kernel_rfl) (by kernel_rfl) (fun w' hb' => exec_load_at (b := w.heap.size + 1 + 1) (off := 0) rfl (by kernel_rfl) (HZ.out _ (hb.trans (hb'.mono hb.size))).2.2.1 Try.underlying27 rfl info_rc.out) ?_
    refine plan.Rest.call 16 _ 14 #[.agg #[.int .i64 j, .slice b V.length d], .agg #[.int .i64 s, .slice sb U.length sd]] rfl (by kernel_rfl) (by kernel_rfl) (by kernel_rfl) ((cS1 W4 hb).mono ?_)
    rintro e W5 ⟨rfl, hn⟩
    have hb := hb.trans (hn.mono hb.size)
    refine ⟨_, rfl, hn, ?_⟩
    refine plan.Rest.call 19 _ 12 #[.agg #[.int .i64 j, .slice b V.length d], .agg #[.int .i64 s, .slice sb U.length sd]] rfl (by kernel_rfl) (by kernel_rfl) (by kernel_rfl) ((cS2 W5 hb).mono ?_)
    rintro e W6 ⟨rfl, hn⟩
    have hb := hb.trans (hn.mono hb.size)
    refine ⟨_, rfl, hn, ?_⟩
    refine plan.Rest.first 20 _ (.bool true) rfl (by kernel_rfl) (by kernel_rfl) (by kernel_rfl) (by kernel_rfl) (fun w' hb' => (exec_eql_bool (r := q) rfl (by kernel_rfl) (by kernel_rfl))) ?_
    refine plan.Rest.first 21 _ (.bool true) rfl (by kernel_rfl) (by kernel_rfl) (by kernel_rfl) (by kernel_rfl) (fun w' hb' => (by kernel_rfl)) ?_
    refine plan.Rest.first 22 _ (.bool true) rfl (by kernel_rfl) (by kernel_rfl) (by kernel_rfl) (by kernel_rfl) (fun w' hb' => (by kernel_rfl)) ?_
    refine plan.Rest.first 23 _ (.agg #[.int .i64 j, .slice b V.length d]) rfl (by kernel_rfl) (by kernel_rfl) (by kernel_rfl) (by kernel_rfl) (fun w' hb' => exec_load_at (b := w.heap.size + 1) (off := 0) rfl (by kernel_rfl) (HZ.out _ (hb.trans (hb'.mono hb.size))).2.1 Try.underlying27 rfl info_rc.out) ?_
    refine plan.Rest.first 24 _ (.agg #[.int .i64 j, .slice b V.length d]) rfl (by kernel_rfl) (by kernel_rfl) (by kernel_rfl) (by kernel_rfl) (fun w' hb' => exec_load_at (b := w.heap.size + 1) (off := 0) rfl (by kernel_rfl) (HZ.out _ (hb.trans (hb'.mono hb.size))).2.1 Try.underlying27 rfl info_rc.out) ?_
    refine plan.Rest.call 25 _ 14 #[.agg #[.int .i64 j, .slice b V.length d], .agg #[.int .i64 j, .slice b V.length d]] rfl (by kernel_rfl) (by kernel_rfl) (by kernel_rfl) ((cS3 W6 hb).mono ?_)
    rintro e W7 ⟨rfl, hn⟩
    have hb := hb.trans (hn.mono hb.size)
    refine ⟨_, rfl, hn, ?_⟩
    refine plan.Rest.first 26 _ (.bool true) rfl (by kernel_rfl) (by kernel_rfl) (by kernel_rfl) (by kernel_rfl) (fun w' hb' => (by kernel_rfl)) ?_
    refine plan.Rest.first 27 _ (.bool true) rfl (by kernel_rfl) (by kernel_rfl) (by kernel_rfl) (by kernel_rfl) (fun w' hb' => (by kernel_rfl)) ?_
    refine plan.Rest.call 28 _ 7 #[] rfl (by kernel_rfl) (by kernel_rfl) (by kernel_rfl) ((cA W7).mono ?_)
    rintro e W8 ⟨rfl, hn⟩
    have hb := hb.trans (hn.mono hb.size)
    refine ⟨_, rfl, hn, ?_⟩
    refine plan.Rest.first 29 _ (.bool true) rfl (by kernel_rfl) (by kernel_rfl) (by kernel_rfl) (by kernel_rfl) (fun w' hb' => (by kernel_rfl)) ?_
    refine plan.Rest.value 30 _ (.bool true) rfl (by kernel_rfl) (by kernel_rfl) (by kernel_rfl) ?_
    refine plan.Rest.done (by kernel_rfl) ?_
    walk_nrm
    go_wp2
    go_ret
    exact ⟨rfl, HB0.out.trans ((HB4.out.trans (hb.mono HB4.out.size)).mono HB0.out.size)⟩
  · simp only [decide_eq_false hf] at cFn
    have HFR : Hid (firstR i L = (0, [])) := hid (if_neg hf)
    clear hLV hf
    go_enter Try.func3, Try.ntmps3
    go_wp2_with (first
      | (go_at_call 6; ((with_reducible refine cG0.mono ?_); clear cG0; rintro e w1 ⟨rfl, hb1⟩; rw [HW0.out] at hb1; have h1F := HRF.out.later hb1; have x0 := h1F.cell 0; have x1 := h1F.cell 1; have hsz1 : w.heap.size < w1.heap.size := h1F.lt; have hbw := hb1.trans ((newB w1 (.cells #[.int .i64 0, .slice none 0 0] 27)).mono hb1.size); have HG1 := hid (Block.new w1 27 [.int .i64 0, .slice none 0 0])))
      | (go_at_call 8; ((with_reducible refine (cFn _ hbw).mono ?_); rintro e w2 ⟨rfl, hb2⟩; have hb02 := hbw.trans (hb2.mono hbw.size); have h2F := HRF.out.later hb02; have y0 := h2F.cell 0; have y1 := h2F.cell 1; have HG2 := hid (HG1.out.later hb2))))
    have HG4 := HG2
    have HB4 := hid hb02
    have HV4 : Hid (field.Vas w2 none ([] : List Va)) := hid (.inl rfl)
    have hFL : ([] : List Va).length ≤ maxLen := by simp
    obtain ⟨hFR1, hFR2⟩ : (firstR i L).1 = 0 ∧ (firstR i L).2 = [] := by rw [HFR.out]; exact ⟨rfl, rfl⟩
    clear y0 y1 x0 x1 h1F h2F hbw HG1 HG2 hb1 hb2 hb02 cFn
    have cH1 := fun w' (hb : Below w2.heap.size w2 w') => has_any' i a c L j b d V w' (HL.out.below (HB4.out.trans (hb.mono HB4.out.size))) (HV.out.below (HB4.out.trans (hb.mono HB4.out.size))) hL hV
    have cH2 := fun w' (hb : Below w2.heap.size w2 w') => refHas_any' i a c L j b d V w' (HL.out.below (HB4.out.trans (hb.mono HB4.out.size))) (HV.out.below (HB4.out.trans (hb.mono HB4.out.size))) hL hV
    have cF1 := fun w' (hb : Below w2.heap.size w2 w') => first_any i a c L w' (HL.out.below (HB4.out.trans (hb.mono HB4.out.size))) hL
    rw [hFR1, hFR2] at cF1
    have cW := fun x5 c5 w' (hb : Below w2.heap.size w2 w') (hv : field.Vas w' x5 ([] : List Va)) => refSame_any 0 x5 c5 ([] : List Va) 0 none 0 ([] : List Va) w' hv (HV4.out.below hb) hFL hFL
    have cS1 := fun w' (hb : Below w2.heap.size w2 w') => same_any j b d V s sb sd U w' (HV.out.below (HB4.out.trans (hb.mono HB4.out.size))) (HU.out.below (HB4.out.trans (hb.mono HB4.out.size))) hV hU
    have cS2 := fun w' (hb : Below w2.heap.size w2 w') => refSame_any j b d V s sb sd U w' (HV.out.below (HB4.out.trans (hb.mono HB4.out.size))) (HU.out.below (HB4.out.trans (hb.mono HB4.out.size))) hV hU
    have cS3 := fun w' (hb : Below w2.heap.size w2 w') => same_any j b d V j b d V w' (HV.out.below (HB4.out.trans (hb.mono HB4.out.size))) (HV.out.below (HB4.out.trans (hb.mono HB4.out.size))) hV hV
    simp only at cW
    simp only at cS3
    generalize decide (Has i L j V) = r at *
    generalize decide (j = s ∧ V = U) = q at *
    have HZ := hid (fun w' (hb' : Below w2.heap.size w2 w') => (⟨(HRF.out.later (HB4.out.trans (hb'.mono HB4.out.size))).whole, (HRR.out.later (HB4.out.trans (hb'.mono HB4.out.size))).whole, (HRS.out.later (HB4.out.trans (hb'.mono HB4.out.size))).whole, (HG4.out.later hb').whole⟩ : w'.rangeAt w.heap.size 0 [.int .i64 i, .slice a L.length c] ∧ w'.rangeAt (w.heap.size + 1) 0 [.int .i64 j, .slice b V.length d] ∧ w'.rangeAt (w.heap.size + 1 + 1) 0 [.int .i64 s, .slice sb U.length sd] ∧ w'.rangeAt w1.heap.size 0 [.int .i64 0, .slice none 0 0]))
    unfold RecAs at cF1
    have hb : Below w2.heap.size w2 w2.drew := below_drewN (Below.refl _ _) 1
    refine plan.region (by kernel_rfl) ?_
    refine plan.Rest.first 0 _ (.agg #[.int .i64 i, .slice a L.length c]) rfl (by kernel_rfl) (by kernel_rfl) (by kernel_rfl) (by kernel_rfl) (fun w' hb' => exec_load_at (b := w.heap.size) (off := 0) rfl (by kernel_rfl) (HZ.out _ (hb.trans (hb'.mono hb.size))).1 Try.underlying24 rfl info_fm.out) ?_
    refine plan.Rest.first 1 _ (.agg #[.int .i64 j, .slice b V.length d]) rfl (by kernel_rfl) (by kernel_rfl) (by kernel_rfl) (by kernel_rfl) (fun w' hb' => exec_load_at (b := w.heap.size + 1) (off := 0) rfl (by kernel_rfl) (HZ.out _ (hb.trans (hb'.mono hb.size))).2.1 Try.underlying27 rfl info_rc.out) ?_
    refine plan.Rest.first 3 _ (.agg #[.int .i64 i, .slice a L.length c]) rfl (by kernel_rfl) (by kernel_rfl) (by kernel_rfl) (by kernel_rfl) (fun w' hb' => exec_load_at (b := w.heap.size) (off := 0) rfl (by kernel_rfl) (HZ.out _ (hb.trans (hb'.mono hb.size))).1 Try.underlying24 rfl info_fm.out) ?_
    refine plan.Rest.first 4 _ (.agg #[.int .i64 j, .slice b V.length d]) rfl (by kernel_rfl) (by kernel_rfl) (by kernel_rfl) (by kernel_rfl) (fun w' hb' => exec_load_at (b := w.heap.size + 1) (off := 0) rfl (by kernel_rfl) (HZ.out _ (hb.trans (hb'.mono hb.size))).2.1 Try.underlying27 rfl info_rc.out) ?_
    refine plan.Rest.call 2 _ 10 #[.agg #[.int .i64 i, .slice a L.length c], .agg #[.int .i64 j, .slice b V.length d]] rfl (by kernel_rfl) (by kernel_rfl) (by kernel_rfl) ((cH1 w2.drew hb).mono ?_)
    rintro e W1 ⟨rfl, hn⟩
    have hb := hb.trans (hn.mono hb.size)
    refine ⟨_, rfl, hn, ?_⟩
    refine plan.Rest.call 5 _ 11 #[.agg #[.int .i64 i, .slice a L.length c], .agg #[.int .i64 j, .slice b V.length d]] rfl (by kernel_rfl) (by kernel_rfl) (by kernel_rfl) ((cH2 W1 hb).mono ?_)
    rintro e W2 ⟨rfl, hn⟩
    have hb := hb.trans (hn.mono hb.size)
    refine ⟨_, rfl, hn, ?_⟩
    refine plan.Rest.first 6 _ (.bool true) rfl (by kernel_rfl) (by kernel_rfl) (by kernel_rfl) (by kernel_rfl) (fun w' hb' => (exec_eql_bool (r := r) rfl (by kernel_rfl) (by kernel_rfl))) ?_
    refine plan.Rest.first 7 _ (.bool true) rfl (by kernel_rfl) (by kernel_rfl) (by kernel_rfl) (by kernel_rfl) (fun w' hb' => (by kernel_rfl)) ?_
    refine plan.Rest.first 8 _ (.agg #[.int .i64 i, .slice a L.length c]) rfl (by kernel_rfl) (by kernel_rfl) (by kernel_rfl) (by kernel_rfl) (fun w' hb' => exec_load_at (b := w.heap.size) (off := 0) rfl (by kernel_rfl) (HZ.out _ (hb.trans (hb'.mono hb.size))).1 Try.underlying24 rfl info_fm.out) ?_
    refine plan.Rest.first 10 _ (.agg #[.int .i64 0, .slice none 0 0]) rfl (by kernel_rfl) (by kernel_rfl) (by kernel_rfl) (by kernel_rfl) (fun w' hb' => exec_load_at (b := w1.heap.size) (off := 0) rfl (by kernel_rfl) (HZ.out _ (hb.trans (hb'.mono hb.size))).2.2.2 Try.underlying27 rfl info_rc.out) ?_
    refine plan.Rest.call 9 _ 13 #[.agg #[.int .i64 i, .slice a L.length c]] rfl (by kernel_rfl) (by kernel_rfl) (by kernel_rfl) ((cF1 W2 hb).mono ?_)
    rintro e W3 ⟨x5, c5, rfl, hv5, hn⟩
    have hb := hb.trans (hn.mono hb.size)
    refine ⟨_, rfl, hn, ?_⟩
    refine plan.Rest.call 11 _ 12 #[.agg #[.int .i64 0, .slice x5 0 c5], .agg #[.int .i64 0, .slice none 0 0]] rfl (by kernel_rfl) (by kernel_rfl) (by kernel_rfl) ((cW x5 c5 W3 hb hv5).mono ?_)
    rintro e W4 ⟨rfl, hn⟩
    have hb := hb.trans (hn.mono hb.size)
    refine ⟨_, rfl, hn, ?_⟩
    refine plan.Rest.first 12 _ (.bool true) rfl (by kernel_rfl) (by kernel_rfl) (by kernel_rfl) (by kernel_rfl) (fun w' hb' => (by kernel_rfl)) ?_
    refine plan.Rest.first 13 _ (.bool true) rfl (by kernel_rfl) (by kernel_rfl) (by kernel_rfl) (by kernel_rfl) (fun w' hb' => (by kernel_rfl)) ?_
    refine plan.Rest.first 14 _ (.agg #[.int .i64 j, .slice b V.length d]) rfl (by kernel_rfl) (by kernel_rfl) (by kernel_rfl) (by kernel_rfl) (fun w' hb' => exec_load_at (b := w.heap.size + 1) (off := 0) rfl (by kernel_rfl) (HZ.out _ (hb.trans (hb'.mono hb.size))).2.1 Try.underlying27 rfl info_rc.out) ?_
    refine plan.Rest.first 15 _ (.agg #[.int .i64 s, .slice sb U.length sd]) rfl (by kernel_rfl) (by kernel_rfl) (by kernel_rfl) (by kernel_rfl) (fun w' hb' => exec_load_at (b := w.heap.size + 1 + 1) (off := 0) rfl (by kernel_rfl) (HZ.out _ (hb.trans (hb'.mono hb.size))).2.2.1 Try.underlying27 rfl info_rc.out) ?_
    refine plan.Rest.first 17 _ (.agg #[.int .i64 j, .slice b V.length d]) rfl (by kernel_rfl) (by kernel_rfl) (by kernel_rfl) (by kernel_rfl) (fun w' hb' => exec_load_at (b := w.heap.size + 1) (off := 0) rfl (by kernel_rfl) (HZ.out _ (hb.trans (hb'.mono hb.size))).2.1 Try.underlying27 rfl info_rc.out) ?_
    refine plan.Rest.first 18 _ (.agg #[.int .i64 s, .slice sb U.length sd]) rfl (by kernel_rfl) (by kernel_rfl) (by kernel_rfl) (by kernel_rfl) (fun w' hb' => exec_load_at (b := w.heap.size + 1 + 1) (off := 0) rfl (by kernel_rfl) (HZ.out _ (hb.trans (hb'.mono hb.size))).2.2.1 Try.underlying27 rfl info_rc.out) ?_
    refine plan.Rest.call 16 _ 14 #[.agg #[.int .i64 j, .slice b V.length d], .agg #[.int .i64 s, .slice sb U.length sd]] rfl (by kernel_rfl) (by kernel_rfl) (by kernel_rfl) ((cS1 W4 hb).mono ?_)
    rintro e W5 ⟨rfl, hn⟩
    have hb := hb.trans (hn.mono hb.size)
    refine ⟨_, rfl, hn, ?_⟩
    refine plan.Rest.call 19 _ 12 #[.agg #[.int .i64 j, .slice b V.length d], .agg #[.int .i64 s, .slice sb U.length sd]] rfl (by kernel_rfl) (by kernel_rfl) (by kernel_rfl) ((cS2 W5 hb).mono ?_)
    rintro e W6 ⟨rfl, hn⟩
    have hb := hb.trans (hn.mono hb.size)
    refine ⟨_, rfl, hn, ?_⟩
    refine plan.Rest.first 20 _ (.bool true) rfl (by kernel_rfl) (by kernel_rfl) (by kernel_rfl) (by kernel_rfl) (fun w' hb' => (exec_eql_bool (r := q) rfl (by kernel_rfl) (by kernel_rfl))) ?_
    refine plan.Rest.first 21 _ (.bool true) rfl (by kernel_rfl) (by kernel_rfl) (by kernel_rfl) (by kernel_rfl) (fun w' hb' => (by kernel_rfl)) ?_
    refine plan.Rest.first 22 _ (.bool true) rfl (by kernel_rfl) (by kernel_rfl) (by kernel_rfl) (by kernel_rfl) (fun w' hb' => (by kernel_rfl)) ?_
    refine plan.Rest.first 23 _ (.agg #[.int .i64 j, .slice b V.length d]) rfl (by kernel_rfl) (by kernel_rfl) (by kernel_rfl) (by kernel_rfl) (fun w' hb' => exec_load_at (b := w.heap.size + 1) (off := 0) rfl (by kernel_rfl) (HZ.out _ (hb.trans (hb'.mono hb.size))).2.1 Try.underlying27 rfl info_rc.out) ?_
    refine plan.Rest.first 24 _ (.agg #[.int .i64 j, .slice b V.length d]) rfl (by kernel_rfl) (by kernel_rfl) (by kernel_rfl) (by kernel_rfl) (fun w' hb' => exec_load_at (b := w.heap.size + 1) (off := 0) rfl (by kernel_rfl) (HZ.out _ (hb.trans (hb'.mono hb.size))).2.1 Try.underlying27 rfl info_rc.out) ?_
    refine plan.Rest.call 25 _ 14 #[.agg #[.int .i64 j, .slice b V.length d], .agg #[.int .i64 j, .slice b V.length d]] rfl (by kernel_rfl) (by kernel_rfl) (by kernel_rfl) ((cS3 W6 hb).mono ?_)
    rintro e W7 ⟨rfl, hn⟩
    have hb := hb.trans (hn.mono hb.size)
    refine ⟨_, rfl, hn, ?_⟩
    refine plan.Rest.first 26 _ (.bool true) rfl (by kernel_rfl) (by kernel_rfl) (by kernel_rfl) (by kernel_rfl) (fun w' hb' => (by kernel_rfl)) ?_
    refine plan.Rest.first 27 _ (.bool true) rfl (by kernel_rfl) (by kernel_rfl) (by kernel_rfl) (by kernel_rfl) (fun w' hb' => (by kernel_rfl)) ?_
    refine plan.Rest.call 28 _ 7 #[] rfl (by kernel_rfl) (by kernel_rfl) (by kernel_rfl) ((cA W7).mono ?_)
    rintro e W8 ⟨rfl, hn⟩
    have hb := hb.trans (hn.mono hb.size)
    refine ⟨_, rfl, hn, ?_⟩
    refine plan.Rest.first 29 _ (.bool true) rfl (by kernel_rfl) (by kernel_rfl) (by kernel_rfl) (by kernel_rfl) (fun w' hb' => (by kernel_rfl)) ?_
    refine plan.Rest.value 30 _ (.bool true) rfl (by kernel_rfl) (by kernel_rfl) (by kernel_rfl) ?_
    refine plan.Rest.done (by kernel_rfl) ?_
    walk_nrm
    go_wp2
    go_ret
    exact ⟨rfl, HB0.out.trans ((HB4.out.trans (hb.mono HB4.out.size)).mono HB0.out.size)⟩
theorem walk (f : schema.Fm) (r s : Rc) (w : World) (hf : f.Good w) (hr : r.Good w) (hs : s.Good w) : Calls Try.prog 3 #[f.val, r.val, s.val] w (Yes w) :=
  walk0 f.id f.f f.fCap f.fL r.form r.v r.vCap r.vL s.form s.v s.vCap s.vL w hf.rf (Nat.le_trans hf.cf hf.df) hr.rv (Nat.le_trans hr.cv hr.dv) hs.rv (Nat.le_trans hs.cv hs.dv)
end Go.Proofs.Ytegeeobfamjjpaa.recordHas
/- RecordHas returns true for every form and every two records, and each argument reads afterwards as it read before. No condition. -/
namespace Go.Proofs.Ytegeeobfamjjpaa.recordHas
open Go.ChangeShapes Go.WideShapes Go.ChangeAt Go.RowKit Go.Proofs.Ytegeeobfamjjpaa.record Go.Proofs.Ytegeeobfamjjpaa.schema
open Go.ChangeMaps (open_string shut_string)
set_option linter.unusedVariables false
set_option maxRecDepth 100000 in
theorem lifted (os : Os) (started : os.Started) (H : Type) (enc : TypeId × Value → H) :
    ReturnsInHanded {} Try.checked os 3 .any (Rows.recordHasSpec.pre6 enc Try.prog Try.f3 Rows.recordHasRow.domain false) (Rows.recordHasSpec.post enc Try.prog Try.f3 false true false false) := by
  refine returnsInHanded_of_change_sized (C := Try.checked) own started (by kernel_rfl) Try.func3
    (ChangeSpec.witness6 (enc := enc) (C := Try.checked) false ⟨#[], #[.agg #[.int .i64 0, .slice none 0 0], .agg #[.int .i64 0, .slice none 0 0], .agg #[.int .i64 0, .slice none 0 0]], []⟩ 8 (by kernel_rfl) (by kernel_rfl) (by kernel_rfl) (by kernel_rfl)) ?_
  intro W base args ds gs before hval0 hW hcnd hsz0 _
  have hsz : (DataW.weightsEach Try.prog (Try.f3.params.toList ++ Rows.recordHasSpec.plain.varTypes Try.prog) (ds ++ gs)).all (· ≤ reachBytes) = true := hsz0
  clear hsz0
  have hval : ∀ (j : Nat) t v, Try.f3.params[j]? = some t → args[j]? = some v → Value.okWide Try.prog W .any base t v := hval0
  have hW' := hW
  obtain ⟨p, q, hA0, hV, rfl, hfz, hnd⟩ := hW
  have hA : DataW.TrodAll enc Try.prog W 0 (fun _ => true) true Try.f3.params.toList args.toList ds p := hA0
  rw [Try.params3] at hA hval hsz
  obtain ⟨v0, vs0, d0, ds0, p0, q0, hargs, rfl, rfl, h0, r0⟩ := trodAll_cons hA
  obtain ⟨v1, vs1, d1, ds1, p1, q1, rfl, rfl, rfl, h1, r1⟩ := trodAll_cons r0
  obtain ⟨v2, vs2, d2, ds2, p2, q2, rfl, rfl, rfl, h2, r2⟩ := trodAll_cons r1
  obtain ⟨rfl, rfl, rfl⟩ := trodAll_nil r2
  obtain rfl : args = #[v0, v1, v2] := by cases args; simp_all
  obtain ⟨rfl, rfl⟩ := trodVars_none hV
  have k0 := h0
  have lt0 : ∀ x ∈ p0, x.block < W.heap.size := by obtain ⟨m, hm⟩ := k0; exact DataW.trod_lt m _ _ _ hm
  obtain ⟨pc0, fp0, rfl⟩ := open_Fm_arg Try.underlying24 (by kernel_rfl) (by kernel_rfl) (by kernel_rfl) Go.Proofs.Ytegeeobfamjjpaa.field.fdRow (hval 0 24 v0 rfl rfl) h0
  have k1 := h1
  have lt1 : ∀ x ∈ p1, x.block < W.heap.size := by obtain ⟨m, hm⟩ := k1; exact DataW.trod_lt m _ _ _ hm
  obtain ⟨pc1, fp1, rfl⟩ := open_Rc_arg Try.underlying27 (by kernel_rfl) (by kernel_rfl) (by kernel_rfl) Go.Proofs.Ytegeeobfamjjpaa.field.vaRow (hval 1 27 v1 rfl rfl) h1
  have k2 := h2
  have lt2 : ∀ x ∈ p2, x.block < W.heap.size := by obtain ⟨m, hm⟩ := k2; exact DataW.trod_lt m _ _ _ hm
  obtain ⟨pc2, fp2, rfl⟩ := open_Rc_arg Try.underlying27 (by kernel_rfl) (by kernel_rfl) (by kernel_rfl) Go.Proofs.Ytegeeobfamjjpaa.field.vaRow (hval 2 27 v2 rfl rfl) h2
  clear hA0 hval0
  refine (walk pc0 pc1 pc2 W fp0 fp1 fp2).mono fun e W' ⟨he, bel⟩ => ?_
  subst he
  exact ⟨_, rfl, _, _, _, [], _, [], hW', trodAll_mk1 (shut_bool Try.underlying4 _), (trodAll_cons_mk (Below.trod laidOut (by kernel_rfl) (of_decide_eq_true (by kernel_rfl)) k0 bel lt0) (trodAll_cons_mk (Below.trod laidOut (by kernel_rfl) (of_decide_eq_true (by kernel_rfl)) k1 bel lt1) (trodAll_cons_mk (Below.trod laidOut (by kernel_rfl) (of_decide_eq_true (by kernel_rfl)) k2 bel lt2) trodAll_mk0))), rfl, bel.frame _, fun h => by cases h⟩

theorem holds : Rows.RecordHasSaid :=
  OpenClaim.holds_of_wide 3 Try.f3 rfl rfl rfl rfl rfl rfl rfl ⟨rfl, rfl, rfl, rfl, rfl⟩ rfl rfl rfl rfl rfl (by kernel_rfl) Try.func3 (by kernel_rfl)
    (of_decide_eq_true (by kernel_rfl)) (by unfold Func.isWrapper; first | (rw [if_pos (by decide +kernel)]; kernel_rfl) | (rw [if_neg (by decide +kernel)]; exact ⟨rfl, rfl⟩))
    (fun os started H enc _ => lifted os started H enc)
#print axioms holds
end Go.Proofs.Ytegeeobfamjjpaa.recordHas
