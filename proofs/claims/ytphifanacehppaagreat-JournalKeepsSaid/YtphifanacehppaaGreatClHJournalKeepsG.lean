/- Lemmas of the claim HJournalKeeps. Each says its own conditions. -/
import Derived.Test.YtphifanacehppaaGreatClHJournalKeepsF
import Derived.IntWalk
import Derived.Conc.WalkWords
/- Contracts of the reference's load and turn of layer 11. No condition but a flash with fewer than 2^60 writes. -/
namespace Go.Proofs.YtphifanacehppaaGreat.journal
open Go Go.RowKit Go.Proofs.YtphifanacehppaaGreat.flash Go.Proofs.YtphifanacehppaaGreat.geom
set_option linter.unusedVariables false

theorem load_any (x : Option Addr) (n c : Nat) (L : List Nat) (w : World) (hl : L.length = n) : Calls Tryz.prog 58 #[.slice x n c] w (Quiet (.bool (loadB L)) w) := by
  obtain ⟨v, hv⟩ : ∃ v, Hid (loadB L = v) := ⟨_, rfl⟩
  rw [hv.out]
  have hv2 := hv.out
  unfold loadB at hv2
  rw [hl] at hv2
  have HV := hid hv2
  clear hv hv2 hl
  by_cases h1 : 1 ≤ n
  · go_enter Tryz.func58, Tryz.ntmps58
    go_wp2
    go_ret
    exact ⟨ret_bool (by rw [← HV.out]; rw [Bool.eq_iff_iff]; simp; omega), 0, rfl⟩
  · obtain rfl : n = 0 := by omega
    go_enter Tryz.func58, Tryz.ntmps58
    go_wp2
    go_ret
    exact ⟨ret_bool (by rw [← HV.out]; rfl), 0, rfl⟩
/-- behind an add: the journal says what was added -/
theorem RJIn.added {M S X : Nat → Prop} {j d b q : Nat} {g : Geo} {F : Fl} {J : Jv} {wv cv : Value} {w w1 w' : World} {R : Part} {A : Nat} {tn : Bool} (h : RJIn M S X j d b g F J wv cv w) (hO : Only (fun y => y = j) w w1)
    (k : Added X j q (.pointer (some ⟨d, 0, none⟩)) (.int .i64 (A : Int)) (.bool tn) R w1 w') (hqS : ¬ S q) (hqj : q ≠ j) (hqd : q ≠ d) :
    RJAt (fun x => (M x ∨ x = q ∨ w.heap.size ≤ x) ∧ x < w'.heap.size) j d b g F ⟨A, R, tn⟩ w' ∧ Only (fun y => y = j) w w' := by
  obtain ⟨wv', cv', k1, k2, k3, k4⟩ := k
  have hO2 := hO.trans k4
  have hs := hO2.size
  have hs1 := hO.size
  have hs2 := k4.size
  have hj := h.blk.lt
  have hd := h.dr.lt
  have hX : ∀ x, X x → x < w.heap.size := fun x hx => h.lm x (h.sub x (.inr (.inl hx)))
  have hS : ∀ x, S x → x < w.heap.size := fun x hx => h.lm x (h.sub x (.inl hx))
  refine ⟨⟨S, fun y => (X y ∨ y = q ∨ w1.heap.size ≤ y) ∧ y < w'.heap.size, wv', cv', ⟨h.dr.blk.only hO2 h.dj, h.dr.fl.only hO2 (fun x hx hs => h.sj (hx ▸ hs)), h.dr.nd⟩, k1, k2, k3, fun x hx hsx => ?_, h.sj, fun hx => ?_, fun hx => ?_, h.dj, fun x hx => ?_, fun x hx => hx.2⟩, hO2⟩
  · rcases hx.1 with hx | rfl | hx
    · exact h.sx x hx hsx
    · exact hqS hsx
    · have := hS x hsx; omega
  · rcases hx.1 with hx | hx | hx
    · exact h.xj hx
    · exact hqj hx.symm
    · omega
  · rcases hx.1 with hx | hx | hx
    · exact h.xd hx
    · exact hqd hx.symm
    · omega
  · rcases hx with hx | hx | rfl | rfl
    · exact ⟨.inl (h.sub x (.inl hx)), by have := hS x hx; omega⟩
    · refine ⟨?_, hx.2⟩
      rcases hx.1 with hx | hx | hx
      · exact .inl (h.sub x (.inr (.inl hx)))
      · exact .inr (.inl hx)
      · exact .inr (.inr (by omega))
    · exact ⟨.inl (h.sub _ (.inr (.inr (.inl rfl)))), by omega⟩
    · exact ⟨.inl (h.sub _ (.inr (.inr (.inr rfl)))), by omega⟩
theorem RJIn.finish {M M' S X T : Nat → Prop} {j d b q : Nat} {g : Geo} {F : Fl} {J : Jv} {wv cv : Value} {w0 w w1 w' : World} {R : Part} {A : Nat} {tn : Bool} (h : RJIn M' S X j d b g F J wv cv w) (h2 : ∀ x, M' x → x < w.heap.size ∧ (M x ∨ w0.heap.size ≤ x)) (h3 : Only (fun x => M x ∧ T x) w0 w) (hj : M j ∧ T j) (hO : Only (fun y => y = j) w w1)
    (k : Added X j q (.pointer (some ⟨d, 0, none⟩)) (.int .i64 (A : Int)) (.bool tn) R w1 w') (hqS : ¬ S q) (hqj : q ≠ j) (hqd : q ≠ d) (hq : w0.heap.size ≤ q) : RJTurn M T j d b g F ⟨A, R, tn⟩ w0 w' := by
  obtain ⟨k1, k2⟩ := h.added hO k hqS hqj hqd
  refine ⟨_, k1, fun x hx => ⟨hx.2, ?_⟩, h3.next k2 fun x hx _ => hx ▸ hj⟩
  rcases hx.1 with hx | rfl | hx
  · exact (h2 x hx).2
  · exact .inr hq
  · exact .inr (Nat.le_trans h3.size hx)
set_option maxRecDepth 20000 in
theorem refTurn_this {M S X : Nat → Prop} {j d b : Nat} {g : Geo} {F : Fl} {J : Jv} {wv cv : Value} {w : World} (h : RJIn M S X j d b g F J wv cv w) (fits : Fits F g) (hcnt : F.count < 1152921504606846976) (hso : J.Sound g) (hq : J.p.seq < 1073741823)
    (x : Option Addr) (n c : Nat) (L : List Nat) (hr : Reads .u32 w x n L) (hL : ∀ y ∈ L, y < 4294967296) (hb : loadB L = true) :
    Calls Tryz.prog 60 #[.pointer (some ⟨j, 0, none⟩), .slice x n c, .int .i64 ((J.p.seq : Int) + 1)] w fun e w' => e = .returned (.int .i64 (turnV F g J L).1) ∧ RJTurn M (fun x => S x ∨ x = j) j d b g (turnV F g J L).2.1 (turnV F g J L).2.2 w w' := by
  have hb' := of_decide_eq_true hb
  have hs := hso.sector
  obtain ⟨b1, b2, _, _, _⟩ := fits.bounds
  have HCH := hid (show J.p.changes.length ≤ 8192 by have := hso.p.count; have := hso.tail; omega)
  have hn : L.length = n := hr.1
  obtain ⟨i0, hi, hz0, hz1, hz2⟩ := info_parts u32_info
  have hok : frame.okB ((1 : Nat) : Int) ((J.p.seq + 1 : Nat) : Int) n = true := frame.okB_true.2 ⟨.inl rfl, by omega, by omega, by omega, by omega⟩
  have cl : ∀ q c' w1, Row w1 43 .u32 q c' L → Calls Tryz.prog 63 #[.agg #[.int .i64 1, .int .i64 ((J.p.seq : Int) + 1), .slice (some ⟨q, 0, none⟩) n c']] w1 fun e w' => ∃ g cap', e = .returned (.slice (some ⟨g, 0, none⟩) (n + 3) cap') ∧
      w1.heap.size ≤ g ∧ Row w' 43 .u32 g cap' (frame.words 1 (J.p.seq + 1) L) ∧ Below w1.heap.size w1 w' := fun q c' w1 hrow => by
    have hrd := hrow.reads
    rw [hn] at hrd
    have := frame.refLay_yes 1 (J.p.seq + 1) (some ⟨q, 0, none⟩) n c' L w1 hrd hL hok
    rwa [show ((J.p.seq + 1 : Nat) : Int) = (J.p.seq : Int) + 1 by omega, show ((1 : Nat) : Int) = 1 from rfl] at this
  have hW : ∀ y ∈ frame.words 1 (J.p.seq + 1) L, y < 4294967296 := frame.words_lt 1 (J.p.seq + 1) L (by decide) (by omega) hb'.2 hL
  have hWl : (frame.words 1 (J.p.seq + 1) L).length = n + 3 := by rw [frame.words_length, hn]
  have cf : ∀ q c' w1, w.heap.size ≤ q → Row w1 43 .u32 q c' (frame.words 1 (J.p.seq + 1) L) → Below w.heap.size w w1 →
      Calls Tryz.prog 81 #[.pointer (some ⟨d, 0, none⟩), .int .i64 (1 - (J.sector : Int)), .slice (some ⟨q, 0, none⟩) (n + 3) c'] w1
        (RDid S b (drive.fresh F g (1 - (J.sector : Int)) (frame.words 1 (J.p.seq + 1) L)).2 (.int .i64 (drive.fresh F g (1 - (J.sector : Int)) (frame.words 1 (J.p.seq + 1) L)).1) w1) := fun q c' w1 hq0 hrow hb1 => by
    have hrd := hrow.reads
    rw [hWl] at hrd
    exact drive.refFresh_this (h.later hb1).dr fits.ok fits.ft hcnt (1 - (J.sector : Int)) (some ⟨q, 0, none⟩) (n + 3) c' _ hrd hW (.inr ⟨_, rfl, fun hsq => by
      have := h.lm _ (h.sub _ (.inl hsq))
      have h2 : q < w.heap.size := this
      omega⟩)
  have HE : Hid (((1 - J.sector : Nat) : Int) = 1 - (J.sector : Int)) := hid (by omega)
  unfold turnV turned
  rw [HE.out]
  have HS := h.seen
  have H := hid h
  have HR := hid hr
  have HNEWS := hid (reads_news hr)
  have hk0 := HS.out w (Below.refl _ _)
  have i1 : (J.sector : Int) ≤ 1 := by omega
  have i2 : (J.p.seq : Int) < 1073741823 := by omega
  have hwr : IntKind.i64.wrap (1 - (J.sector : Int)) = 1 - (J.sector : Int) := IntWalk.i64_in _ (by omega)
  have HN := hid hn
  have HB56 := hid hb'
  have HL := hid (show (nums .u32 L).length = n by rw [nums_length, hn])
  have HWL := hid hWl
  have HM := hid (show 0 + n ≤ maxLen ∧ (0 + n) * 4 ≤ 140737488355328 by unfold maxLen; omega)
  clear h fits hcnt hr hL hb hn hb' hW hWl hok
  generalize hWe : frame.words 1 (J.p.seq + 1) L = W at *
  clear hWe
  generalize drive.fresh F g (1 - (J.sector : Int)) W = R at *
  obtain ⟨z, G⟩ := R
  simp only at *
  by_cases hz : z = 0
  · subst hz
    rw [if_neg (fun h => h rfl)]
    go_enter Tryz.func60, Tryz.ntmps60
    go_wp2_with (first
      | (at_builtin; refine wpList_append_from rfl _ _ 24 rfl w.heap.size 43 i0 (.int .u32 0) 4 Tryz.underlying24 hi hz0 hz1 hz2 rfl (.slice none 0 0) 0 [] rfl (World.ownsRow_nil _ _ _ _) x n c (nums .u32 L) rfl HL.out HNEWS.out (nums_one .u32 L) HM.out.1 HM.out.2 (Nat.le_refl _) ?_; intro v1 w1 ho1 hg1; rw [Nat.zero_add, List.nil_append] at ho1; have hb1 : Below w.heap.size w w1 := (Below.refl _ _).grown hg1 (Nat.le_refl _) (fun k hk => (by cases hk)); obtain ⟨q1, c1, rfl, hq1, hrow1⟩ := Row.own ho1 (by have := HB56.out; have := HN.out; omega); have hk1 := HS.out w1 hb1)
      | (go_at_call 63; ((with_reducible refine (cl _ _ _ (hrow1.later ((Below.refl _ _).alloc (Nat.le_refl _) _))).mono ?_); rintro e w2 ⟨q2, c2, rfl, hq2, hrow2, hb2⟩; have hb02 := (hb1.alloc hb1.size (.cells #[.int .i64 1, .int .i64 ((J.p.seq : Int) + 1), .slice (some ⟨q1, 0, none⟩) n c1] 118)).trans (hb2.mono (by have := hb1.size; simp; omega)); have hF2 := (Block.new w1 118 [.int .i64 1, .int .i64 ((J.p.seq : Int) + 1), .slice (some ⟨q1, 0, none⟩) n c1]).later hb2; have hr12 := (hrow1.later ((Below.refl _ _).alloc (Nat.le_refl _) _)).later hb2; have hq02 : w.heap.size ≤ q2 := (by have := hb1.size; simp at hq2; omega); have hk2 := HS.out w2 hb02)))
    have hB2 : Below w.heap.size w w2.drew := below_drewN hb02 1
    have hk3 := HS.out _ hB2
    have hF3 : Block w2.drew w1.heap.size 118 [.int .i64 1, .int .i64 ((J.p.seq : Int) + 1), .slice (some ⟨q1, 0, none⟩) n c1] := hF2.drewN 1
    have hr13 : Row w2.drew 43 .u32 q1 c1 L := hr12.later (below_drewN (Below.refl _ _) 1)
    have cf3 := cf q2 c2 w2.drew hq02 (hrow2.later (below_drewN (Below.refl _ _) 1)) hB2
    have HF3 := hid hF3
    have HR13 := hid hr13
    have HQ1 := hid hq1
    have HB1 := hid hb1
    clear hF2 hr12 hrow1 hrow2 hk1 hk2 hF3 hr13 cf cl hq1
    go_region_held3 (fun w' => w'.cell? ⟨j, 0, none⟩ = some (.pointer (some ⟨d, 0, none⟩)) ∧ w'.cell? ⟨j, 1, none⟩ = some (.int .i64 (J.sector : Int))) (first | assumption | go_keep) (
      (go_at_call 81; (with_reducible refine cf3.mono ?_); rintro e w3 ⟨rfl, ht⟩; obtain ⟨S', h2, h3, h4⟩ := (H.out.later hB2).turn ht; have hk6 := h2.cells))
    have hjl : j < w.heap.size := H.out.blk.lt
    have hw1l := HB1.out.size
    have hSl : ∀ y, S y → y < w.heap.size := fun y hy => H.out.lm y (H.out.sub y (.inl hy))
    have hF4 := HF3.out.only h4 (fun hs => by have := hSl _ hs; omega)
    have hr14 := HR13.out.only h4 (fun hs => by have := hSl _ hs; have := HQ1.out; omega)
    have d0 : w3.cell? ⟨w1.heap.size, 0, none⟩ = some (.int .i64 1) := hF4.cell 0
    have d1 : w3.cell? ⟨w1.heap.size, 1, none⟩ = some (.int .i64 ((J.p.seq : Int) + 1)) := hF4.cell 1
    have d2 : w3.cell? ⟨w1.heap.size, 2, none⟩ = some (.slice (some ⟨q1, 0, none⟩) n c1) := hF4.cell 2
    have hne : w1.heap.size ≠ j := by omega
    have hne2 : j ≠ w1.heap.size := by omega
    have f1 := h2.blk.frozen 1
    have f2 := h2.blk.frozen 2
    have f3 := h2.blk.frozen 3
    have hO3 : Only (fun y => y = j) w3 (((w3.setCell ⟨j, 1, none⟩ (.int .i64 (1 - (J.sector : Int)))).setCell ⟨j, 2, none⟩ (.int .i64 0)).setCell ⟨j, 3, none⟩ (.bool false)) :=
      (((Only.refl (fun y => y = j) w3).setCell (g := j) (.inl rfl) 1 _).setCell (g := j) (.inl rfl) 2 _).setCell (g := j) (.inl rfl) 3 _
    have hq1j : q1 ≠ j := by have := HQ1.out; omega
    have hXj : ∀ y, X y → y ≠ j := fun y hy e => h2.xj (e ▸ hy)
    have ca := refAdd_any (X := X) (k := 1) (s := J.p.seq + 1) (n := n + 3) (c0 := .pointer (some ⟨d, 0, none⟩)) (c1 := .int .i64 (1 - (J.sector : Int))) (c3 := .bool false) ⟨J.p.seq, J.p.whole, J.p.changes, 0⟩ (((h2.blk.setCell 1 (.int .i64 (1 - (J.sector : Int)))).setCell 2 (.int .i64 0)).setCell 3 (.bool false)) (h2.wh.stays (.only hO3 hXj)) (h2.ch.stays (.only hO3 hXj)) h2.xj (hr14.only hO3 hq1j) hq1j (by rw [HN.out]) (by have := HB56.out; have := HN.out; show 0 + (n + 3) ≤ 8192; omega) HCH.out
    rw [HN.out, show ((J.p.seq + 1 : Nat) : Int) = (J.p.seq : Int) + 1 by omega, show ((1 : Nat) : Int) = 1 from rfl, show ((n + 3 : Nat) : Int) = (n : Int) + 3 by omega] at ca
    have H2 := hid h2
    have H3 := hid h3
    have H4 := hid h4
    have HO3 := hid hO3
    clear h2 h3 h4 hF4 hr14 hO3 hSl ht hk3
    go_wp2_with (go_at_call 65; ((with_reducible refine ca.mono ?_); rintro e w5 ⟨rfl, hadd⟩))
    go_ret
    refine ⟨rfl, ?_⟩
    have hp : (Part.mk J.p.seq J.p.whole J.p.changes 0).add 1 (J.p.seq + 1) L = ⟨J.p.seq + 1, L, [], L.length + 3⟩ := by unfold Part.add; rw [if_pos rfl]; simp
    rw [hp, ← HE.out] at hadd
    have hO3' := HO3.out
    rw [← HE.out] at hO3'
    have hq1l : q1 < w2.drew.heap.size := HR13.out.lt
    have hq1w := HQ1.out
    have hSl : ∀ y, S y → y < w.heap.size := fun y hy => H.out.lm y (H.out.sub y (.inl hy))
    have hdl := H.out.dr.lt
    refine RJIn.finish H2.out (fun x hx => ⟨hx.2, hx.1.imp id fun h => Nat.le_trans hB2.size h⟩) ((Only.of hB2).next H4.out fun x hx _ => ⟨H.out.sub x (.inl hx), .inl hx⟩) ⟨H.out.sub j (.inr (.inr (.inl rfl))), .inr rfl⟩ hO3' (q := q1) hadd (fun hs => ?_) hq1j (by omega) hq1w
    rcases (H3.out q1 hs).2 with h | h
    · have := hSl _ h; omega
    · omega
  · rw [if_pos hz]
    have hzb : (z != 0) = true := by simpa using hz
    go_enter Tryz.func60, Tryz.ntmps60
    go_wp2_with (first
      | (at_builtin; refine wpList_append_from rfl _ _ 24 rfl w.heap.size 43 i0 (.int .u32 0) 4 Tryz.underlying24 hi hz0 hz1 hz2 rfl (.slice none 0 0) 0 [] rfl (World.ownsRow_nil _ _ _ _) x n c (nums .u32 L) rfl HL.out HNEWS.out (nums_one .u32 L) HM.out.1 HM.out.2 (Nat.le_refl _) ?_; intro v1 w1 ho1 hg1; rw [Nat.zero_add, List.nil_append] at ho1; have hb1 : Below w.heap.size w w1 := (Below.refl _ _).grown hg1 (Nat.le_refl _) (fun k hk => (by cases hk)); obtain ⟨q1, c1, rfl, hq1, hrow1⟩ := Row.own ho1 (by have := HB56.out; have := HN.out; omega); have hk1 := HS.out w1 hb1)
      | (go_at_call 63; ((with_reducible refine (cl _ _ _ (hrow1.later ((Below.refl _ _).alloc (Nat.le_refl _) _))).mono ?_); rintro e w2 ⟨q2, c2, rfl, hq2, hrow2, hb2⟩; have hb02 := (hb1.alloc hb1.size (.cells #[.int .i64 1, .int .i64 ((J.p.seq : Int) + 1), .slice (some ⟨q1, 0, none⟩) n c1] 118)).trans (hb2.mono (by have := hb1.size; simp; omega)); have hF2 := (Block.new w1 118 [.int .i64 1, .int .i64 ((J.p.seq : Int) + 1), .slice (some ⟨q1, 0, none⟩) n c1]).later hb2; have hr12 := (hrow1.later ((Below.refl _ _).alloc (Nat.le_refl _) _)).later hb2; have hq02 : w.heap.size ≤ q2 := (by have := hb1.size; simp at hq2; omega); have hk2 := HS.out w2 hb02)))
    have hB2 : Below w.heap.size w w2.drew := below_drewN hb02 1
    have hk3 := HS.out _ hB2
    have cf3 := cf q2 c2 w2.drew hq02 (hrow2.later (below_drewN (Below.refl _ _) 1)) hB2
    clear hF2 hr12 hrow1 hrow2 hk1 hk2 cf cl hq1
    go_region_held3 (fun w' => w'.cell? ⟨j, 0, none⟩ = some (.pointer (some ⟨d, 0, none⟩)) ∧ w'.cell? ⟨j, 1, none⟩ = some (.int .i64 (J.sector : Int))) (first | assumption | go_keep) (
      (go_at_call 81; (with_reducible refine cf3.mono ?_); rintro e w3 ⟨rfl, ht⟩; obtain ⟨S', h2, h3, h4⟩ := (H.out.later hB2).turn ht; have hk6 := h2.cells))
    go_wp2
    go_ret
    exact ⟨rfl, RJTurn.before hB2 ((H.out.later hB2).turned ht)⟩
end Go.Proofs.YtphifanacehppaaGreat.journal
/- Contract of the reference's Put of layer 11. No condition but a flash with fewer than 2^60 writes. -/
namespace Go.Proofs.YtphifanacehppaaGreat.journal
open Go Go.RowKit Go.Proofs.YtphifanacehppaaGreat.flash Go.Proofs.YtphifanacehppaaGreat.geom
set_option linter.unusedVariables false

section
variable {o : Oper} {a : Act} {w : World}
theorem exec_loadI {x : Operand} {ad : Addr} {n : Int} (ho : o.op = .load 3 x) (hx : a.eval x = .pointer (some ad)) (hc : w.cell? ad = some (.int .i64 n)) : (execOp a.eval o).run Tryz.prog w = .ok (.value (.int .i64 n)) w := by
  unfold execOp
  rw [ho]
  simp only [hx]
  go_simp
theorem exec_next {x y : Operand} {n : Int} (ho : o.op = .binOp .add 3 x y 3) (hx : a.eval x = .int .i64 n) (hy : a.eval y = .int .i64 1) (h0 : 0 ≤ n) (h1 : n < 1073741823) : (execOp a.eval o).run Tryz.prog w = .ok (.value (.int .i64 (n + 1))) w := by
  unfold execOp
  rw [ho]
  simp only [hx, hy]
  go_simp
  exact IntWalk.i64_in _ (by omega)
end
section
variable {M S X : Nat → Prop} {j d b : Nat} {g : Geo} {F : Fl} {J : Jv} {wv cv : Value} {w : World}
theorem refPut_bad (h : RJIn M S X j d b g F J wv cv w) (k : Int) (x y : Option Addr) (n c m e : Nat) (L V : List Nat) (hn : L.length = n) (hm : V.length = m) (hb : ¬ (loadB L = true ∧ loadB V = true)) :
    Calls Tryz.prog 40 #[.pointer (some ⟨j, 0, none⟩), .int .i64 k, .slice x n c, .slice y m e] w fun o w' => o = .returned (.int .i64 2) ∧ RJTurn M (fun x => S x ∨ x = j) j d b g F J w w' := by
  have c1 := fun w' => load_any x n c L w' hn
  have c2 := fun w' => load_any y m e V w' hm
  have H := hid h
  clear h hn hm
  cases h1 : loadB L with
  | false =>
    rw [h1] at c1
    clear h1 hb c2
    go_enter Tryz.func40, Tryz.ntmps40
    go_wp2_with (go_at_call 58; ((with_reducible refine (c1 _).mono ?_); rintro e w' ⟨rfl, m1, rfl⟩))
    go_ret
    exact ⟨rfl, RJTurn.of ⟨_, _, _, _, H.out⟩ (below_drewN (Below.refl _ _) _)⟩
  | true =>
    have h2 : loadB V = false := by rw [Bool.eq_false_iff]; exact fun k => hb ⟨h1, k⟩
    rw [h1] at c1
    rw [h2] at c2
    clear h1 hb h2
    go_enter Tryz.func40, Tryz.ntmps40
    go_wp2_with (first
      | (go_at_call 58; ((with_reducible refine (c1 _).mono ?_); rintro e w' ⟨rfl, m1, rfl⟩))
      | (go_at_call 58; ((with_reducible refine (c2 _).mono ?_); rintro e w' ⟨rfl, m2, rfl⟩)))
    go_ret
    exact ⟨rfl, RJTurn.of ⟨_, _, _, _, H.out⟩ (below_drewN (Below.refl _ _) _)⟩
theorem refPut_worn (h : RJIn M S X j d b g F J wv cv w) (k : Int) (x y : Option Addr) (n c m e : Nat) (L V : List Nat) (hn : L.length = n) (hm : V.length = m) (h1 : loadB L = true) (h2 : loadB V = true) (hl : g.life ≤ J.p.seq) :
    Calls Tryz.prog 40 #[.pointer (some ⟨j, 0, none⟩), .int .i64 k, .slice x n c, .slice y m e] w fun o w' => o = .returned (.int .i64 13) ∧ RJTurn M (fun x => S x ∨ x = j) j d b g F J w w' := by
  have c1 := fun w' => load_any x n c L w' hn
  have c2 := fun w' => load_any y m e V w' hm
  rw [h1] at c1
  rw [h2] at c2
  have hk := h.cells
  have hd := h.dr.cells
  have H := hid h
  clear h hn hm h1 h2
  go_enter Tryz.func40, Tryz.ntmps40
  go_wp2_with (first
    | (go_at_call 58; ((with_reducible refine (c1 _).mono ?_); rintro e w' ⟨rfl, m1, rfl⟩))
    | (go_at_call 58; ((with_reducible refine (c2 _).mono ?_); rintro e w' ⟨rfl, m2, rfl⟩)))
  go_quiet (fail)
  go_wp2
  go_ret
  exact ⟨rfl, RJTurn.of ⟨_, _, _, _, H.out⟩ (below_drewN (below_drewN (Below.refl _ _) _) _)⟩
set_option maxRecDepth 20000 in
set_option maxHeartbeats 3200000 in
theorem refPut_good (h : RJIn M S X j d b g F J wv cv w) (fits : Fits F g) (hcnt : F.count < 1152921504606846976) (hso : J.Sound g) (hq0 : J.p.seq ≠ 0) (hl : ¬ g.life ≤ J.p.seq) (k : Nat) (hk : k = 1 ∨ k = 2) (x y : Option Addr) (n c m e : Nat) (L V : List Nat)
    (hr : Reads .u32 w x n L) (hL : ∀ y ∈ L, y < 4294967296) (hb : loadB L = true) (hr2 : Reads .u32 w y m V) (hV : ∀ y ∈ V, y < 4294967296) (hb2 : loadB V = true) :
    Calls Tryz.prog 40 #[.pointer (some ⟨j, 0, none⟩), .int .i64 (k : Int), .slice x n c, .slice y m e] w fun o w' => o = .returned (.int .i64 (addV F g J k L V).1) ∧ RJTurn M (fun x => S x ∨ x = j) j d b g (addV F g J k L V).2.1 (addV F g J k L V).2.2 w w' := by
  have hb' := of_decide_eq_true hb
  have hn : L.length = n := hr.1
  have hm : V.length = m := hr2.1
  have c1 := fun w' => load_any x n c L w' hn
  have c2 := fun w' => load_any y m e V w' hm
  rw [hb] at c1
  rw [hb2] at c2
  obtain ⟨b1, b2, b3, b4, b5⟩ := fits.bounds
  have hq : J.p.seq < 1073741823 := by omega
  have hs := hso.sector
  have htl := hso.tail
  obtain ⟨xb, xo, rfl, _⟩ := hr.at (i := 0) (by omega)
  have HS := h.seen
  have HD : Hid (∀ w', Below w.heap.size w w' → w'.cell? ⟨d, 1, none⟩ = some (.int .i64 g.sector) ∧ w'.cell? ⟨d, 6, none⟩ = some (.int .i64 g.life)) := hid fun w' hb => ⟨(h.dr.later hb).cells.2.1, (h.dr.later hb).cells.2.2.2.2.2.2⟩
  have hk0 := HS.out w (Below.refl _ _)
  have hd0 := HD.out w (Below.refl _ _)
  have hok : frame.okB ((k : Nat) : Int) ((J.p.seq + 1 : Nat) : Int) n = true := frame.okB_true.2 ⟨by omega, by omega, by omega, by omega, by omega⟩
  have cl : ∀ q c' w1, Row w1 43 .u32 q c' L → Calls Tryz.prog 63 #[.agg #[.int .i64 (k : Int), .int .i64 ((J.p.seq : Int) + 1), .slice (some ⟨q, 0, none⟩) n c']] w1 fun e w' => ∃ g cap', e = .returned (.slice (some ⟨g, 0, none⟩) (n + 3) cap') ∧
      w1.heap.size ≤ g ∧ Row w' 43 .u32 g cap' (frame.words k (J.p.seq + 1) L) ∧ Below w1.heap.size w1 w' := fun q c' w1 hrow => by
    have hrd := hrow.reads
    rw [hn] at hrd
    have := frame.refLay_yes k (J.p.seq + 1) (some ⟨q, 0, none⟩) n c' L w1 hrd hL hok
    rwa [show ((J.p.seq + 1 : Nat) : Int) = (J.p.seq : Int) + 1 by omega] at this
  have hW : ∀ y ∈ frame.words k (J.p.seq + 1) L, y < 4294967296 := frame.words_lt k (J.p.seq + 1) L (by omega) (by omega) hb'.2 hL
  have hWl : (frame.words k (J.p.seq + 1) L).length = n + 3 := by rw [frame.words_length, hn]
  have ct : ∀ w', Below w.heap.size w w' → Calls Tryz.prog 60 #[.pointer (some ⟨j, 0, none⟩), .slice y m e, .int .i64 ((J.p.seq : Int) + 1)] w' fun e w2 => e = .returned (.int .i64 (turnV F g J V).1) ∧ RJTurn M (fun x => S x ∨ x = j) j d b g (turnV F g J V).2.1 (turnV F g J V).2.2 w w2 := fun w' hb =>
    (refTurn_this (h.later hb) fits hcnt hso hq y m e V (hr2.below hb) hV hb2).mono fun o w2 ⟨ho, k⟩ => ⟨ho, RJTurn.before hb k⟩
  obtain ⟨R, hR⟩ : ∃ R, Hid (addV F g J k L V = R) := ⟨_, rfl⟩
  rw [hR.out]
  have hR2 := hR.out
  unfold addV at hR2
  rw [if_neg hl] at hR2
  have HR2 := hid hR2
  have H := hid h
  have HR := hid hr
  have HN := hid hn
  have HB56 := hid hb'
  have HW := hid hW
  have HWL := hid hWl
  have HSO := hid hso
  have HFITS := hid fits
  have HCNT := hid hcnt
  have HK := hid hk
  have i1 : (J.p.seq : Int) < 1073741823 := by omega
  have i2 : ¬ g.life ≤ (J.p.seq : Int) := hl
  have i3 : decide (g.life ≤ (J.p.seq : Int)) = false := decide_eq_false hl
  have HLL : Hid ((Tryz.prog.info? 118).map (·.size) = some 3) := hid (by kernel_rfl)
  clear h hr hr2 hn hm hb hb2 hb' hW hWl hso fits hcnt hk hL hV hR hR2 hl hok
  go_enter Tryz.func40, Tryz.ntmps40
  go_wp2_with (first
    | (go_at_call 58; ((with_reducible refine (c1 _).mono ?_); rintro e w' ⟨rfl, m1, rfl⟩))
    | (go_at_call 58; ((with_reducible refine (c2 _).mono ?_); rintro e w' ⟨rfl, m2, rfl⟩)))
  go_quiet (fail)
  go_wp2
  obtain ⟨w1, hw1⟩ : ∃ z, Hid ((w.drewN (m1 + m2)).drewN nq = z) := ⟨_, rfl⟩
  have hbw1 : Below w.heap.size w w1 := by rw [← hw1.out]; exact below_drewN (below_drewN (Below.refl _ _) _) _
  rw [hw1.out]
  have HBW1 := hid hbw1
  have HJ1 : Hid (∀ w', Below w1.drew.heap.size w1.drew w' → w'.cell? ⟨j, 4, none⟩ = some (.int .i64 (J.p.seq : Int))) := hid fun w' hb => (HS.out w' ((below_drewN hbw1 1).trans (hb.mono hbw1.size))).2.2.2.2.1
  have hsz1 : w1.drew.heap.size = w1.heap.size := rfl
  clear hk0 hd0 hbw1 c1 c2
  refine plan.region (by kernel_rfl) ?_
  refine plan.Rest.first 0 _ (.int .i64 (k : Int)) rfl (by kernel_rfl) (by kernel_rfl) (by kernel_rfl) (by kernel_rfl) (fun w' hb' => (by kernel_rfl)) ?_
  refine plan.Rest.first 1 _ (.pointer (some ⟨j, 0, none⟩)) rfl (by kernel_rfl) (by kernel_rfl) (by kernel_rfl) (by kernel_rfl) (fun w' hb' => (by kernel_rfl)) ?_
  refine plan.Rest.first 2 _ (.pointer (some ⟨j, 0, none⟩)) rfl (by kernel_rfl) (by kernel_rfl) (by kernel_rfl) (by kernel_rfl) (fun w' hb' => (by kernel_rfl)) ?_
  refine plan.Rest.first 3 _ (.pointer (some ⟨j, 4, none⟩)) rfl (by kernel_rfl) (by kernel_rfl) (by kernel_rfl) (by kernel_rfl) (fun w' hb' => (by kernel_rfl)) ?_
  refine plan.Rest.first 4 _ (.int .i64 (J.p.seq : Int)) rfl (by kernel_rfl) (by kernel_rfl) (by kernel_rfl) (by kernel_rfl) (fun w' hb' => exec_loadI (ad := ⟨j, 4, none⟩) rfl (by kernel_rfl) (HJ1.out w' hb')) ?_
  refine plan.Rest.first 5 _ (.int .i64 ((J.p.seq : Int) + 1)) rfl (by kernel_rfl) (by kernel_rfl) (by kernel_rfl) (by kernel_rfl) (fun w' hb' => exec_next (n := (J.p.seq : Int)) rfl (by kernel_rfl) (by kernel_rfl) (by omega) i1) ?_
  refine plan.Rest.first 6 _ (.slice (some ⟨xb, xo, none⟩) n c) rfl (by kernel_rfl) (by kernel_rfl) (by kernel_rfl) (by kernel_rfl) (fun w' hb' => (by kernel_rfl)) ?_
  refine plan.Rest.to3 40 9 41 1 (fun p q r => #[true, true, true, true, true, true, true, p, r, q, false]) (by kernel_rfl) (by kernel_rfl) (by kernel_rfl) ?_
  refine plan.two _ _ 7 9 8 40 9 41 1 (by decide) (by decide) (by decide) _ _ _ (fun p q r => #[true, true, true, true, true, true, true, p, r, q, false])
    rfl rfl rfl rfl rfl rfl rfl rfl rfl (fun _ _ => rfl) (fun _ _ => rfl) (fun _ _ => rfl) (by kernel_rfl) (by kernel_rfl) (by kernel_rfl) (by kernel_rfl) (by kernel_rfl)
    (fun g v w' => ∃ c, v = .slice (some ⟨g, 0, none⟩) n c ∧ Row w' 43 .u32 g c L) (fun v => .agg #[.int .i64 (k : Int), .int .i64 ((J.p.seq : Int) + 1), v]) 118 [.int .i64 0, .int .i64 0, .slice none 0 0]
    (fun g v w1 w2 h hb => h.imp fun c h => ⟨h.1, h.2.later hb⟩) (fun g v w1 h => by obtain ⟨c, _, h⟩ := h; exact h.lt)
    ?rA (fun u v c w' => by kernel_rfl) ?rC ?rest undef undef undef
  case rA =>
    intro u v x w' hb'
    exact frame.exec_row (ad := ⟨xb, xo, none⟩) (n := n) (c := c) (L := L) rfl (by kernel_rfl) (by kernel_rfl) (HR.out.below ((below_drewN HBW1.out 1).trans (hb'.mono HBW1.out.size))) (by have := HB56.out; have := HN.out; omega) (by have := HB56.out; have := HN.out; omega)
  case rC =>
    rintro q u v x w' ⟨c', rfl, _⟩
    kernel_rfl
  case rest =>
    rintro q q' x w' hq1 hq2 hne ⟨c1, rfl, hR⟩ hB hb
    refine plan.store _ 10 _ 118 (.tmp 9) (.tmp 41) q' 118 [.int .i64 0, .int .i64 0, .slice none 0 0] #[.int .i64 (k : Int), .int .i64 ((J.p.seq : Int) + 1), .slice (some ⟨q, 0, none⟩) n c1] rfl rfl rfl rfl (by kernel_rfl) (by kernel_rfl) (by kernel_rfl) hB rfl (by kernel_rfl) (by simp [Value.oneCell']) hb hq2 (fun V2 hb2 hB2 hk2 => ?_)
    refine ⟨by kernel_rfl, NoPanic.normal ?_⟩
    have hbV : Below w.heap.size w V2 := (below_drewN HBW1.out 1).trans (hb2.mono HBW1.out.size)
    have hrow : Row V2 43 .u32 q c1 L := by
      obtain ⟨pad, h1, h2⟩ := hR
      exact ⟨pad, hk2 q _ _ hne h1, h2⟩
    have hblk : Block V2 q' 118 [.int .i64 (k : Int), .int .i64 ((J.p.seq : Int) + 1), .slice (some ⟨q, 0, none⟩) n c1] := hB2
    have hqw : w.heap.size ≤ q := Nat.le_trans HBW1.out.size hq1
    have hqw' : w.heap.size ≤ q' := Nat.le_trans HBW1.out.size hq2
    have d0 : V2.cell? ⟨q', 0, none⟩ = some (.int .i64 (k : Int)) := hblk.cell 0
    have d1 : V2.cell? ⟨q', 1, none⟩ = some (.int .i64 ((J.p.seq : Int) + 1)) := hblk.cell 1
    have d2 : V2.cell? ⟨q', 2, none⟩ = some (.slice (some ⟨q, 0, none⟩) n c1) := hblk.cell 2
    have cl1 := cl q c1 V2 hrow
    have HROW := hid hrow
    have HBLK := hid hblk
    have HBV := hid hbV
    clear hR hB hb hb2 hB2 hk2 hq1 hq2 hne hrow hblk hbV cl HJ1 hsz1 hw1 HBW1
    simp only [plan.at3]
    walk_nrm
    go_wp2_with (go_at_call 63; ((with_reducible refine cl1.mono ?_); rintro e w2 ⟨q2, c2, rfl, hq2, hrow2, hb2⟩; have hb02 := HBV.out.trans (hb2.mono HBV.out.size); have hk2 := HS.out w2 hb02; have hd2 := HD.out w2 hb02))
    have hq2w : w.heap.size ≤ q2 := Nat.le_trans HBV.out.size hq2
    have HB02 := hid hb02
    have HROW2 := hid hrow2
    have HB2 := hid hb2
    clear d0 d1 d2 cl1 hb02 hrow2 hb2 hq2
    by_cases htn : J.torn = true
    · have hR3 := HR2.out
      rw [if_pos (show full g J L from .inl htn)] at hR3
      have HR3 := hid hR3
      rw [htn] at hk2
      clear hR3
      go_quiet (fail)
      go_wp2_with (go_at_call 60; ((with_reducible refine (ct _ (below_drewN HB02.out nq)).mono ?_); rintro e w3 ⟨rfl, ht⟩))
      go_ret
      rw [HR3.out] at ht
      exact ⟨by rw [HR3.out]; rfl, ht⟩
    · have htn' : J.torn = false := by simpa using htn
      rw [htn'] at hk2
      by_cases hfl : g.sector - J.p.tail < (n : Int) + 3
      · have hR3 := HR2.out
        rw [if_pos (show full g J L from .inr (by rw [HN.out]; omega))] at hR3
        have HR3 := hid hR3
        have i4 : decide (g.sector < (J.p.tail : Int) + ((n : Int) + 3)) = true := decide_eq_true (by omega)
        have i5 : (J.p.tail : Int) ≤ 1024 := by omega
        have i6 : (n : Int) ≤ 56 := by have := HB56.out; have := HN.out; omega
        clear hR3
        go_quiet (fail)
        go_wp2_with (go_at_call 60; ((with_reducible refine (ct _ (below_drewN HB02.out nq)).mono ?_); rintro e w3 ⟨rfl, ht⟩))
        go_ret
        rw [HR3.out] at ht
        exact ⟨by rw [HR3.out]; rfl, ht⟩
      · have hR3 := HR2.out
        rw [if_neg (show ¬ full g J L from fun h => h.elim htn fun h => hfl (by rw [HN.out] at h; omega))] at hR3
        unfold layV at hR3
        have i4 : decide (g.sector < (J.p.tail : Int) + ((n : Int) + 3)) = false := decide_eq_false (by omega)
        have i5 : (J.p.tail : Int) ≤ 1024 := by omega
        have i6 : (n : Int) ≤ 56 := by have := HB56.out; have := HN.out; omega
        have HCH := hid (show J.p.changes.length ≤ 8192 by have := HSO.out.p.count; omega)
        have HT := hid (show J.p.tail + (n + 3) ≤ 8192 by omega)
        have cwr : ∀ w1, Below w.heap.size w w1 → Row w1 43 .u32 q2 c2 (frame.words k (J.p.seq + 1) L) →
            Calls Tryz.prog 64 #[.pointer (some ⟨d, 0, none⟩), .int .i64 (J.sector : Int), .int .i64 (J.p.tail : Int), .slice (some ⟨q2, 0, none⟩) (n + 3) c2] w1
              (RDid S b (drive.write F g J.sector J.p.tail (frame.words k (J.p.seq + 1) L)).2 (.int .i64 (drive.write F g J.sector J.p.tail (frame.words k (J.p.seq + 1) L)).1) w1) := fun w1 hb1 hrow => by
          have hrd := hrow.reads
          rw [HWL.out] at hrd
          exact drive.refWrite_this (H.out.later hb1).dr HFITS.out.ok HFITS.out.ft (by have := HCNT.out; omega) J.sector J.p.tail (by omega) (some ⟨q2, 0, none⟩) (n + 3) c2 _ hrd HW.out (.inr ⟨_, rfl, fun hsq => by
            have := H.out.lm _ (H.out.sub _ (.inl hsq))
            have h2 : q2 < w.heap.size := this
            omega⟩)
        generalize drive.write F g J.sector J.p.tail (frame.words k (J.p.seq + 1) L) = D at *
        obtain ⟨z, G⟩ := D
        simp only at hR3 cwr
        go_quiet (fail)
        go_wp2
        obtain ⟨w4, hw4⟩ : ∃ z, Hid (w2.drewN nq = z) := ⟨_, rfl⟩
        rw [hw4.out]
        have hb24 : Below w2.heap.size w2 w4.drew := by rw [← hw4.out]; exact below_drewN (below_drewN (Below.refl _ _) _) 1
        have hb4 : Below w.heap.size w w4.drew := HB02.out.trans (hb24.mono HB02.out.size)
        have hk4 := HS.out _ hb4
        have cwr4 := cwr w4.drew hb4 (HROW2.out.later hb24)
        have HF4 := hid ((HBLK.out.later HB2.out).later hb24)
        have HR4 := hid ((HROW.out.later HB2.out).later hb24)
        clear hk2 hd2 cwr hb24
        by_cases hz : z = 0
        · subst hz
          rw [if_neg (fun h => h rfl)] at hR3
          have HR3 := hid hR3
          clear hR3
          go_region_held3 (fun w' => w'.cell? ⟨j, 0, none⟩ = some (.pointer (some ⟨d, 0, none⟩)) ∧ w'.cell? ⟨j, 1, none⟩ = some (.int .i64 (J.sector : Int)) ∧ w'.cell? ⟨j, 2, none⟩ = some (.int .i64 (J.p.tail : Int))) (first | assumption | go_keep) (
            (go_at_call 64; (with_reducible refine cwr4.mono ?_); rintro e w5 ⟨rfl, ht⟩; obtain ⟨S', h2, h3, h4⟩ := (H.out.later hb4).turn ht; have hk6 := h2.cells))
          have hjl : j < w.heap.size := H.out.blk.lt
          have hdl : d < w.heap.size := H.out.dr.lt
          have hSl : ∀ y, S y → y < w.heap.size := fun y hy => H.out.lm y (H.out.sub y (.inl hy))
          have hF5 := HF4.out.only h4 (fun hs => by have := hSl _ hs; omega)
          have hr5 := HR4.out.only h4 (fun hs => by have := hSl _ hs; omega)
          have d0 : w5.cell? ⟨q', 0, none⟩ = some (.int .i64 (k : Int)) := hF5.cell 0
          have d1 : w5.cell? ⟨q', 1, none⟩ = some (.int .i64 ((J.p.seq : Int) + 1)) := hF5.cell 1
          have d2 : w5.cell? ⟨q', 2, none⟩ = some (.slice (some ⟨q, 0, none⟩) n c1) := hF5.cell 2
          have hqj : q ≠ j := by omega
          have ca := refAdd_any (X := X) (k := k) (s := J.p.seq + 1) (n := n + 3) (c0 := .pointer (some ⟨d, 0, none⟩)) (c1 := .int .i64 (J.sector : Int)) (c3 := .bool J.torn) J.p h2.blk h2.wh h2.ch h2.xj hr5 hqj (by rw [HN.out]) HT.out HCH.out
          rw [HN.out, show ((J.p.seq + 1 : Nat) : Int) = (J.p.seq : Int) + 1 by omega, show ((n + 3 : Nat) : Int) = (n : Int) + 3 by omega] at ca
          have hql : q < w4.drew.heap.size := HR4.out.lt
          have H2 := hid h2
          have H3 := hid h3
          have H4 := hid h4
          clear h2 h3 h4 hF5 hr5 ht hk4
          go_wp2_with (go_at_call 65; ((with_reducible refine ca.mono ?_); rintro e w6 ⟨rfl, hadd⟩))
          go_ret
          rw [← HR3.out]
          refine ⟨rfl, ?_⟩
          refine RJIn.finish H2.out (fun x hx => ⟨hx.2, hx.1.imp id fun h => Nat.le_trans hb4.size h⟩) ((Only.of hb4).next H4.out fun x hx _ => ⟨H.out.sub x (.inl hx), .inl hx⟩) ⟨H.out.sub j (.inr (.inr (.inl rfl))), .inr rfl⟩ (Only.refl _ _) (q := q) hadd (fun hs => ?_) hqj (by omega) hqw
          rcases (H3.out q hs).2 with h | h
          · have := hSl _ h; omega
          · omega
        · rw [if_pos hz] at hR3
          have HR3 := hid hR3
          have hzb : (z != 0) = true := by simpa using hz
          clear hR3
          go_region_held3 (fun w' => w'.cell? ⟨j, 0, none⟩ = some (.pointer (some ⟨d, 0, none⟩)) ∧ w'.cell? ⟨j, 1, none⟩ = some (.int .i64 (J.sector : Int)) ∧ w'.cell? ⟨j, 2, none⟩ = some (.int .i64 (J.p.tail : Int))) (first | assumption | go_keep) (
            (go_at_call 64; (with_reducible refine cwr4.mono ?_); rintro e w5 ⟨rfl, ht⟩; obtain ⟨S', h2, h3, h4⟩ := (H.out.later hb4).turn ht; have hk6 := h2.cells))
          go_wp2
          go_ret
          rw [← HR3.out]
          exact ⟨rfl, RJTurn.before hb4 ((H.out.later hb4).turned ht)⟩
theorem refPut_this (h : RJIn M S X j d b g F J wv cv w) (fits : Fits F g) (hcnt : F.count < 1152921504606846976) (hso : J.Sound g) (hq0 : J.p.seq ≠ 0) (k : Nat) (hk : k = 1 ∨ k = 2) (x y : Option Addr) (n c m e : Nat) (L V : List Nat)
    (hr : Reads .u32 w x n L) (hL : ∀ y ∈ L, y < 4294967296) (hr2 : Reads .u32 w y m V) (hV : ∀ y ∈ V, y < 4294967296) :
    Calls Tryz.prog 40 #[.pointer (some ⟨j, 0, none⟩), .int .i64 (k : Int), .slice x n c, .slice y m e] w fun o w' => o = .returned (.int .i64 (putV F g J k L V).1) ∧ RJTurn M (fun x => S x ∨ x = j) j d b g (putV F g J k L V).2.1 (putV F g J k L V).2.2 w w' := by
  unfold putV
  by_cases hb : loadB L = true ∧ loadB V = true
  · rw [if_pos hb]
    by_cases hl : g.life ≤ J.p.seq
    · unfold addV
      rw [if_pos hl]
      exact refPut_worn h k x y n c m e L V hr.1 hr2.1 hb.1 hb.2 hl
    · exact refPut_good h fits hcnt hso hq0 hl k hk x y n c m e L V hr hL hb.1 hr2 hV hb.2
  · rw [if_neg hb]
    exact refPut_bad h k x y n c m e L V hr.1 hr2.1 hb
end
end Go.Proofs.YtphifanacehppaaGreat.journal
/- Contract of the reference's Mend of layer 11. No condition but a flash with fewer than 2^60 writes. -/
namespace Go.Proofs.YtphifanacehppaaGreat.journal
open Go Go.RowKit Go.Proofs.YtphifanacehppaaGreat.flash Go.Proofs.YtphifanacehppaaGreat.geom
set_option linter.unusedVariables false

section
variable {M S X : Nat → Prop} {j d b : Nat} {g : Geo} {F : Fl} {J : Jv} {wv cv : Value} {w : World}
theorem refMend_this (h : RJIn M S X j d b g F J wv cv w) (fits : Fits F g) (hcnt : F.count < 1152921504606846976) (hso : J.Sound g) (y : Option Addr) (m e : Nat) (V : List Nat)
    (hr2 : Reads .u32 w y m V) (hV : ∀ y ∈ V, y < 4294967296) :
    Calls Tryz.prog 41 #[.pointer (some ⟨j, 0, none⟩), .slice y m e] w fun o w' => o = .returned (.int .i64 (mendV F g J V).1) ∧ RJTurn M (fun x => S x ∨ x = j) j d b g (mendV F g J V).2.1 (mendV F g J V).2.2 w w' := by
  have hm : V.length = m := hr2.1
  have c2 := fun w' => load_any y m e V w' hm
  have hk := h.cells
  have hd := h.dr.cells
  have H := hid h
  have hlf := fits.bounds.2.2.2.2
  unfold mendV
  cases hb2 : loadB V with
  | false =>
    rw [hb2] at c2
    rw [if_pos rfl]
    clear h fits hcnt hso hr2 hV hb2
    go_enter Tryz.func41, Tryz.ntmps41
    go_wp2_with (go_at_call 58; ((with_reducible refine (c2 _).mono ?_); rintro e w' ⟨rfl, m1, rfl⟩))
    go_ret
    exact ⟨rfl, RJTurn.of ⟨_, _, _, _, H.out⟩ (below_drewN (Below.refl _ _) _)⟩
  | true =>
    rw [hb2] at c2
    rw [if_neg (by simp)]
    by_cases htn : J.torn = false
    · rw [if_pos (.inl htn)]
      rw [htn] at hk
      clear h fits hcnt hso hr2 hV hb2
      go_enter Tryz.func41, Tryz.ntmps41
      go_wp2_with (go_at_call 58; ((with_reducible refine (c2 _).mono ?_); rintro e w' ⟨rfl, m1, rfl⟩))
      go_quiet (fail)
      go_wp2
      go_ret
      exact ⟨rfl, RJTurn.of ⟨_, _, _, _, H.out⟩ (below_drewN (below_drewN (Below.refl _ _) _) _)⟩
    · have htn' : J.torn = true := by simpa using htn
      rw [htn'] at hk
      by_cases hl : g.life ≤ J.p.seq
      · rw [if_pos (.inr hl)]
        have i3 : decide (g.life ≤ (J.p.seq : Int)) = true := decide_eq_true hl
        clear h fits hcnt hso hr2 hV hb2
        go_enter Tryz.func41, Tryz.ntmps41
        go_wp2_with (go_at_call 58; ((with_reducible refine (c2 _).mono ?_); rintro e w' ⟨rfl, m1, rfl⟩))
        go_quiet (fail)
        go_wp2
        go_ret
        exact ⟨rfl, RJTurn.of ⟨_, _, _, _, H.out⟩ (below_drewN (below_drewN (Below.refl _ _) _) _)⟩
      · rw [if_neg (fun h1 => h1.elim htn hl)]
        have i3 : decide (g.life ≤ (J.p.seq : Int)) = false := decide_eq_false hl
        have i1 : (J.p.seq : Int) < 1073741823 := by omega
        have ct : ∀ w', Below w.heap.size w w' → Calls Tryz.prog 60 #[.pointer (some ⟨j, 0, none⟩), .slice y m e, .int .i64 ((J.p.seq : Int) + 1)] w' fun e w2 => e = .returned (.int .i64 (turnV F g J V).1) ∧ RJTurn M (fun x => S x ∨ x = j) j d b g (turnV F g J V).2.1 (turnV F g J V).2.2 w w2 := fun w' hb =>
          (refTurn_this (h.later hb) fits hcnt hso (by omega) y m e V (hr2.below hb) hV hb2).mono fun o w2 ⟨ho, k⟩ => ⟨ho, RJTurn.before hb k⟩
        generalize turnV F g J V = R at *
        clear h fits hcnt hso hr2 hV hb2
        go_enter Tryz.func41, Tryz.ntmps41
        go_wp2_with (go_at_call 58; ((with_reducible refine (c2 _).mono ?_); rintro e w' ⟨rfl, m1, rfl⟩))
        go_quiet (fail)
        go_wp2_with (go_at_call 60; ((with_reducible refine (ct _ (below_drewN (Below.refl _ _) _)).mono ?_); rintro e w3 ⟨rfl, ht⟩))
        go_ret
        exact ⟨rfl, ht⟩
end
end Go.Proofs.YtphifanacehppaaGreat.journal
