/- Contracts and lemmas that the claims of this seat share: JournalChanges, PlanMore, JournalTold, JournalNew, JournalOpen, FrameRefMath. Each says its own conditions. -/
import Derived.Test.YtphifanacehppaaGreatCmK
import Derived.Test.YtphifanacehppaaGreatCmI
import Derived.Test.YtphifanacehppaaGreatCmH
import Derived.Test.YtphifanacehppaaGreatCmJ
import Derived.Conc.WalkWords
import Derived.Test.YtphifanacehppaaGreatCmF
import Derived.Test.YtphifanacehppaaGreatCmA
/- Contract of a journal's Changes. No condition. -/
namespace Go.Proofs.YtphifanacehppaaGreat.journal
open Go.RowKit Go.Proofs.YtphifanacehppaaGreat.flash Go.Proofs.YtphifanacehppaaGreat.geom
set_option linter.unusedVariables false

/-- the first k loads have been cloned into the row at lb -/
def Cloned (w : World) (lb N : Nat) (Ls : List (List Nat)) (k : Nat) (wr : World) : Prop :=
  ∃ vs, Block wr lb 24 vs ∧ vs.length = N ∧ (∀ i, i < k → ∃ x c, vs[i]? = some (.slice x (Ls.getD i []).length c) ∧ Reads .u32 wr x (Ls.getD i []).length (Ls.getD i []) ∧ ∀ y, x = some y → y.block ≠ lb) ∧ Below w.heap.size w wr
theorem Cloned.next {w w' wr : World} {lb N k : Nat} {Ls : List (List Nat)} (h : Cloned w lb N Ls k wr) (hl : w.heap.size ≤ lb) (hk : k < N) {x : Option Addr} {c : Nat} (hr : Reads .u32 w' x (Ls.getD k []).length (Ls.getD k [])) (hx : ∀ y, x = some y → wr.heap.size ≤ y.block ∧ y.block < w'.heap.size) (hb : Below wr.heap.size wr w') :
    Cloned w lb N Ls (k + 1) (w'.setCell ⟨lb, k, none⟩ (.slice x (Ls.getD k []).length c)) := by
  obtain ⟨vs, h1, h2, h3, h4⟩ := h
  have hlt := h1.lt
  have keep : ∀ {z : Option Addr} {L : List Nat}, Reads .u32 w' z L.length L → (∀ y, z = some y → y.block ≠ lb) → Reads .u32 (w'.setCell ⟨lb, k, none⟩ (.slice x (Ls.getD k []).length c)) z L.length L := fun {z L} hz hy =>
    reads_only (S := fun y => y = lb) hz ((Only.refl (fun y => y = lb) w').setCell (g := lb) (.inl rfl) k _) (by
      rcases hz.2 with h0 | ⟨q, off, h0, _⟩
      · exact .inl h0
      · exact .inr ⟨_, h0, hy _ h0⟩)
  have hxl : ∀ y, x = some y → y.block ≠ lb := fun y hy e => by have := (hx y hy).1; omega
  refine ⟨vs.set k (.slice x (Ls.getD k []).length c), (h1.later hb).setCell k _, by rw [List.length_set]; exact h2, fun i hi => ?_, (h4.trans (hb.mono h4.size)).setCell (p := ⟨lb, k, none⟩) hl _⟩
  by_cases e : i = k
  · subst e
    refine ⟨x, c, by rw [List.getElem?_set_self (by omega)], keep hr hxl, hxl⟩
  · obtain ⟨z, cz, k1, k2, k3⟩ := h3 i (by omega)
    exact ⟨z, cz, by rw [List.getElem?_set_ne (fun h => e h.symm)]; exact k1, keep (k2.below hb) k3, k3⟩
theorem Cloned.read {w wr : World} {lb N : Nat} {Ls : List (List Nat)} (h : Cloned w lb N Ls N wr) (hN : Ls.length = N) : LoadsRead wr (some ⟨lb, 0, none⟩) Ls := by
  obtain ⟨vs, h1, h2, h3, h4⟩ := h
  refine .inr ⟨lb, 0, rfl, h1.lt, fun i hi => ?_⟩
  obtain ⟨x, c, k1, k2, _⟩ := h3 i (by omega)
  exact ⟨x, c, by rw [Nat.zero_add, h1.cell]; exact k1, k2⟩
set_option maxHeartbeats 1600000 in
theorem changes_this {M S X : Nat → Prop} {j d b : Nat} {g : Geo} {F : Fl} {J : Jv} {wv cv : Value} {w : World} (h : JIn M S X j d b g F J wv cv w) (hso : J.p.Sound) (hlen : J.p.changes.length ≤ 8192) :
    Calls Tryz.prog 21 #[.pointer (some ⟨j, 0, none⟩)] w fun e w' => ∃ a, e = .returned (.slice a J.p.changes.length J.p.changes.length) ∧ LoadsRead w' a J.p.changes ∧ (∀ y, a = some y → w.heap.size ≤ y.block ∧ y.block < w'.heap.size) ∧ Below w.heap.size w w' := by
  have HS := h.seen
  obtain ⟨a, cc, rfl, hcc, hrd, _⟩ := h.ch.read
  have hk0 := HS.out w (Below.refl _ _)
  have HRD := hid hrd
  have HSM := hid (fun L hL => (hso.changes L hL).2.1)
  obtain ⟨j0, hj, hy0, hy1, hy2⟩ := info_parts slice_info
  clear h hrd hso
  generalize hLs : J.p.changes = Ls at *
  generalize hN : Ls.length = N at *
  have HN := hid hN
  clear hN hLs
  go_enter Tryz.func21, Tryz.ntmps21
  go_wp2_with (at_make; refine wpList_make_full _ rfl _ _ 46 rfl w.heap.size 24 j0 (.slice none 0 0) 1 Tryz.underlying46 hj hy0 hy1 _ _ _ _ N rfl rfl (by go_num) (by go_num) (by rw [hy2]; omega) (by unfold maxLen; omega) (Nat.le_refl _) ?_)
  intro w1 hown hgrow
  have hb1 : Below w.heap.size w w1 := (Below.refl _ _).grown hgrow (Nat.le_refl _) (fun k h => by cases h)
  have hC : Cloned w w.heap.size N Ls 0 w1 := by
    rcases hown.2 with ⟨h0, _⟩ | ⟨q, cap, cur, he, _, hq, _, _, hcs, _⟩
    · cases h0
    · simp only [Value.slice.injEq, Option.some.injEq, Addr.mk.injEq, and_true, true_and] at he
      obtain ⟨rfl, rfl⟩ := he
      refine ⟨cur.toList, by simpa [Block] using hq, by simpa using hcs, fun i hi => by omega, hb1⟩
  have HC := hid hC
  have hk1 := HS.out w1 hb1
  clear hown hgrow hC
  go_wp2
  go_loopw [21] (fun i wr => ∃ k : Nat, k ≤ N ∧ i = .int .i64 (k : Int) ∧ Hid (Cloned w w.heap.size N Ls k wr)) (fun i _ => N - (intOf i).toNat)
  case atStart => exact ⟨0, Nat.zero_le _, rfl, HC⟩
  case round =>
    obtain ⟨k, hk, rfl, hcl⟩ := hrel
    by_cases hlt : k < N
    · have hbr : Below w.heap.size w wr := by obtain ⟨_, _, _, _, h⟩ := hcl.out; exact h
      rcases HRD.out.below hbr with h0 | ⟨q, off, rfl, hq, hx⟩
      · have := HN.out; omega
      obtain ⟨x, c, hc1, hr1⟩ := hx k (by have := HN.out; omega)
      have hL56 : (Ls.getD k []).length ≤ 56 := by
        rw [List.getD_eq_getElem?_getD, List.getElem?_eq_getElem (by have := HN.out; omega)]
        exact HSM.out _ (List.getElem_mem _)
      have cl := clone_from (c := c) hr1 hL56 (Below.refl wr.heap.size wr)
      have HBL : Hid (∃ vs, Block wr w.heap.size 24 vs ∧ vs.length = N) := hid (by obtain ⟨vs, h1, h2, _⟩ := hcl.out; exact ⟨vs, h1, h2⟩)
      have i1 : (k : Int) < N := by omega
      generalize hLk : (Ls.getD k []).length = n at *
      have HLK := hid hLk
      clear hx hr1 hLk
      go_wp2_with (go_at_call 42; ((with_reducible refine cl.mono ?_); rintro e w2 ⟨x2, c2, rfl, hr2, hx2, hb2⟩; obtain ⟨vs, hv1, hv2⟩ := HBL.out; have hv3 := hv1.later hb2; obtain ⟨u, hu⟩ : ∃ u, vs[k]? = some u := ⟨_, List.getElem?_eq_getElem (show k < vs.length by omega)⟩; have hc3 : w2.cell? ⟨w.heap.size, k, none⟩ = some u := (hv3.cell k).trans hu; have hf3 := hv3.frozen k; clear hv3 hv1 hv2 hu))
      refine ⟨⟨k + 1, by omega, by go_num, hid ?_⟩, ?_⟩
      · have := hcl.out.next (Nat.le_refl _) hlt (x := x2) (c := c2) (w' := w2) (by rw [HLK.out]; exact hr2) hx2 hb2
        rw [HLK.out] at this
        exact this
      · simp [intOf]; omega
    · obtain rfl : k = N := by omega
      have hfin := hcl.out.read HN.out
      have hbr : Below w.heap.size w wr := by obtain ⟨_, _, _, _, h⟩ := hcl.out; exact h
      have hlb : w.heap.size < wr.heap.size := by obtain ⟨vs, h1, _⟩ := hcl.out; exact h1.lt
      have HF := hid hfin
      clear hfin
      go_wp2
      go_ret
      exact ⟨_, rfl, HF.out, fun y hy => by cases hy; exact ⟨Nat.le_refl _, hlb⟩, hbr⟩
end Go.Proofs.YtphifanacehppaaGreat.journal
/- A region walked by a schedule that the prover names: an operation whose guard does not hold is passed by; comparisons of ints. No condition. -/
namespace Go.Proofs.YtphifanacehppaaGreat.plan
open Go Go.RowKit

section
variable {P : Program} {md : Region.Mode} {Q : Exit → Act → World → Prop} {l : List Oper}
theorem Rest.skip {f : Nat} {listed : Array Bool} {a : Act} {w : World} (i : Nat) (o : Oper) (hi : l[i]? = some o) (hs : Region.noSelect l.toArray = true) (hf : Region.free md l.toArray listed i = true)
    (hr : (Region.ready md l.toArray listed).contains i = true) (hw : Region.wanted o (yielded l.toArray a.tmps) = false)
    (h : Rest P md l Q f (listed.setIfInBounds i true) (a.put o.dst undef) w) : Rest P md l Q (f + 1) listed a w :=
  wpAnyH_take (by simpa using hi) hs hf hr (fun c a' w' h => h) (.inr ⟨hw, rfl⟩) (Below.refl _ _) h
end
theorem eqg (t : TypeId) (x y : Operand) (k : IntKind) (n m : Int) (w : World) (P : Program) : (eqGuard .eql t x y (.int k n) (.int k m)).run P w = .ok () w := by simp [go_sem]
end Go.Proofs.YtphifanacehppaaGreat.plan
/- Contract of the law file's same of layer 11, where both journals say the same. No condition. -/
namespace Go.Proofs.YtphifanacehppaaGreat.journal
open Go Go.RowKit Go.Proofs.YtphifanacehppaaGreat.flash Go.Proofs.YtphifanacehppaaGreat.geom
set_option linter.unusedVariables false

section
variable {o : Oper} {a : Act} {w : World}
theorem exec_loadN {x : Operand} {ad : Addr} {n : Int} (ho : o.op = .load 3 x) (hx : a.eval x = .pointer (some ad)) (hc : w.cell? ad = some (.int .i64 n)) : (execOp a.eval o).run Tryz.prog w = .ok (.value (.int .i64 n)) w := by
  unfold execOp
  rw [ho]
  simp only [hx]
  go_simp
theorem exec_loadB {x : Operand} {ad : Addr} {v : Bool} (ho : o.op = .load 4 x) (hx : a.eval x = .pointer (some ad)) (hc : w.cell? ad = some (.bool v)) : (execOp a.eval o).run Tryz.prog w = .ok (.value (.bool v)) w := by
  unfold execOp
  rw [ho]
  simp only [hx]
  go_simp
theorem exec_loadL {x : Operand} {ad : Addr} {p : Option Addr} {n c : Nat} (ho : o.op = .load 46 x) (hx : a.eval x = .pointer (some ad)) (hc : w.cell? ad = some (.slice p n c)) : (execOp a.eval o).run Tryz.prog w = .ok (.value (.slice p n c)) w := by
  unfold execOp
  rw [ho]
  simp only [hx]
  go_simp
theorem exec_loadS {x : Operand} {ad : Addr} {p : Option Addr} {n c : Nat} (ho : o.op = .load 24 x) (hx : a.eval x = .pointer (some ad)) (hc : w.cell? ad = some (.slice p n c)) : (execOp a.eval o).run Tryz.prog w = .ok (.value (.slice p n c)) w := by
  unfold execOp
  rw [ho]
  simp only [hx]
  go_simp
theorem exec_eqI {x y : Operand} {n : Int} (ho : o.op = .binOp .eql 3 x y 3) (hx : a.eval x = .int .i64 n) (hy : a.eval y = .int .i64 n) : (execOp a.eval o).run Tryz.prog w = .ok (.value (.bool true)) w := by
  unfold execOp
  rw [ho]
  simp only [hx, hy]
  go_simp
theorem exec_eqB {x y : Operand} {v : Bool} (ho : o.op = .binOp .eql 4 x y 4) (hx : a.eval x = .bool v) (hy : a.eval y = .bool v) : (execOp a.eval o).run Tryz.prog w = .ok (.value (.bool true)) w := by
  unfold execOp
  rw [ho]
  simp only [hx, hy]
  go_simp
end
theorem LoadsAt.short {X : Nat → Prop} {w : World} {v : Value} {Ls : List (List Nat)} (h : LoadsAt X w v Ls) : ∃ a c, v = .slice a Ls.length c ∧ LoadsRead w a Ls := by
  obtain ⟨a, c, h1, _, h2, _⟩ := h.read
  exact ⟨a, c, h1, h2⟩
set_option maxRecDepth 20000 in
set_option maxHeartbeats 3200000 in
theorem told_same {M S X M' S' X' : Nat → Prop} {j d b r e c : Nat} {g : Geo} {F G : Fl} {J : Jv} {wv cv wv' cv' : Value} {w : World} (h : JIn M S X j d b g F J wv cv w) (k : RJIn M' S' X' r e c g G J wv' cv' w) (hso : J.p.Sound) (hlen : J.p.changes.length ≤ 8192) :
    Calls Tryz.prog 37 #[.pointer (some ⟨j, 0, none⟩), .pointer (some ⟨r, 0, none⟩)] w fun o w' => o = .returned (.bool true) ∧ Below w.heap.size w w' := by
  obtain ⟨wa, wc, rfl, _, _, hwr, _⟩ := k.wh.reads
  obtain ⟨ca, cc, rfl, hcr⟩ := k.ch.short
  have hpl := place_this h
  have HS := k.seen
  have csq : ∀ w', Below w.heap.size w w' → Calls Tryz.prog 17 #[.pointer (some ⟨j, 0, none⟩)] w' (Quiet (.int .i64 (J.p.seq : Int)) w') := fun w' hb => seq_this (h.later hb)
  have ctn : ∀ w', Below w.heap.size w w' → Calls Tryz.prog 23 #[.pointer (some ⟨j, 0, none⟩)] w' (Quiet (.bool J.torn) w') := fun w' hb => torn_this (h.later hb)
  have cwh : ∀ w', Below w.heap.size w w' → Calls Tryz.prog 19 #[.pointer (some ⟨j, 0, none⟩)] w' fun e w2 => ∃ x k, e = .returned (.slice x J.p.whole.length k) ∧ Reads .u32 w2 x J.p.whole.length J.p.whole ∧ Below w'.heap.size w' w2 := fun w' hb => (whole_this (h.later hb) hso).mono fun e w2 ⟨x, k, h1, h2, _, h3⟩ => ⟨x, k, h1, h2, h3⟩
  have cch : ∀ w', Below w.heap.size w w' → Calls Tryz.prog 21 #[.pointer (some ⟨j, 0, none⟩)] w' fun e w2 => ∃ a, e = .returned (.slice a J.p.changes.length J.p.changes.length) ∧ LoadsRead w2 a J.p.changes ∧ Below w'.heap.size w' w2 := fun w' hb => (changes_this (h.later hb) hso hlen).mono fun e w2 ⟨a, h1, h2, _, h3⟩ => ⟨a, h1, h2, h3⟩
  have h56 : J.p.whole.length ≤ 56 := by rcases hso.whole with k | k; · rw [k.2.1]; decide
                                         · exact k.2
  have cs1 : ∀ x cx w', Reads .u32 w' x J.p.whole.length J.p.whole → Below w.heap.size w w' → Calls Tryz.prog 18 #[.slice x J.p.whole.length cx, .slice wa J.p.whole.length wc] w' (Quiet (.bool true) w') := fun x cx w' hr hb => by
    have := sameW x wa _ _ cx wc _ _ w' hr (hwr.below hb) (by omega) (by omega)
    rwa [decide_eq_true rfl] at this
  have cs2 : ∀ x w', LoadsRead w' x J.p.changes → Below w.heap.size w w' → Calls Tryz.prog 20 #[.slice x J.p.changes.length J.p.changes.length, .slice ca J.p.changes.length cc] w' (Quiet (.bool true) w') := fun x w' hr hb => by
    have := sameLoads_any x ca _ _ J.p.changes.length cc _ _ w' hr (hcr.below hb) rfl rfl (fun L hL => (hso.changes L hL).2.1) (fun L hL => (hso.changes L hL).2.1) hlen hlen
    rwa [decide_eq_true rfl] at this
  clear h k hso hlen hwr hcr h56
  generalize J.p.whole.length = nw at *
  generalize J.p.changes.length = nc at *
  generalize (J.p.seq : Int) = sq at *
  generalize (J.sector : Int) = sec at *
  generalize (J.p.tail : Int) = tl at *
  generalize J.torn = tn at *
  generalize J.p.whole = Wh at *
  generalize J.p.changes = Ch at *
  have hb0 : ∀ m, Below w.heap.size w (w.drewN m) := fun m => below_drewN (Below.refl _ _) m
  go_enter Tryz.func37, Tryz.ntmps37
  go_wp2_with (go_at_call 25; ((with_reducible refine hpl.mono ?_); rintro o w1 ⟨rfl, m1, rfl⟩))
  refine plan.region (by kernel_rfl) ?_
  obtain ⟨W0, hW0⟩ : ∃ z, Hid ((w.drewN m1).drew = z) := ⟨_, rfl⟩
  have hb : Below w.heap.size w W0 := by rw [← hW0.out]; exact below_drewN (hb0 m1) 1
  rw [hW0.out]
  refine plan.Rest.first 0 _ (.pointer (some ⟨j, 0, none⟩)) rfl (by kernel_rfl) (by kernel_rfl) (by kernel_rfl) (by kernel_rfl) (fun w' hb' => (by kernel_rfl)) ?_
  refine plan.Rest.first 2 _ (.pointer (some ⟨r, 0, none⟩)) rfl (by kernel_rfl) (by kernel_rfl) (by kernel_rfl) (by kernel_rfl) (fun w' hb' => (by kernel_rfl)) ?_
  refine plan.Rest.first 3 _ (.pointer (some ⟨r, 0, none⟩)) rfl (by kernel_rfl) (by kernel_rfl) (by kernel_rfl) (by kernel_rfl) (fun w' hb' => (by kernel_rfl)) ?_
  refine plan.Rest.first 4 _ (.pointer (some ⟨r, 4, none⟩)) rfl (by kernel_rfl) (by kernel_rfl) (by kernel_rfl) (by kernel_rfl) (fun w' hb' => (by kernel_rfl)) ?_
  refine plan.Rest.first 5 _ (.int .i64 sq) rfl (by kernel_rfl) (by kernel_rfl) (by kernel_rfl) (by kernel_rfl) (fun w' hb' => exec_loadN (ad := ⟨r, 4, none⟩) rfl (by kernel_rfl) (HS.out w' (hb.trans (hb'.mono hb.size))).2.2.2.2.1) ?_
  refine plan.Rest.call 1 _ 17 #[.pointer (some ⟨j, 0, none⟩)] rfl (by kernel_rfl) (by kernel_rfl) (by kernel_rfl) ((csq W0 hb).mono ?_)
  rintro e W1 ⟨rfl, m9, hm9⟩
  have hn : Below W0.heap.size W0 W1 := by rw [hm9]; exact below_drewN (Below.refl _ _) _
  clear hm9
  have hb := hb.trans (hn.mono hb.size)
  refine ⟨_, rfl, hn, ?_⟩
  refine plan.Rest.first 6 _ (.bool true) rfl (by kernel_rfl) (by kernel_rfl) (by kernel_rfl) (by kernel_rfl) (fun w' hb' => exec_eqI (n := sq) rfl (by kernel_rfl) (by kernel_rfl)) ?_
  refine plan.Rest.first 7 _ (.bool true) rfl (by kernel_rfl) (by kernel_rfl) (by kernel_rfl) (by kernel_rfl) (fun w' hb' => (by kernel_rfl)) ?_
  refine plan.Rest.first 8 _ (.pointer (some ⟨j, 0, none⟩)) rfl (by kernel_rfl) (by kernel_rfl) (by kernel_rfl) (by kernel_rfl) (fun w' hb' => (by kernel_rfl)) ?_
  refine plan.Rest.first 10 _ (.pointer (some ⟨r, 0, none⟩)) rfl (by kernel_rfl) (by kernel_rfl) (by kernel_rfl) (by kernel_rfl) (fun w' hb' => (by kernel_rfl)) ?_
  refine plan.Rest.first 11 _ (.pointer (some ⟨r, 0, none⟩)) rfl (by kernel_rfl) (by kernel_rfl) (by kernel_rfl) (by kernel_rfl) (fun w' hb' => (by kernel_rfl)) ?_
  refine plan.Rest.first 12 _ (.pointer (some ⟨r, 5, none⟩)) rfl (by kernel_rfl) (by kernel_rfl) (by kernel_rfl) (by kernel_rfl) (fun w' hb' => (by kernel_rfl)) ?_
  refine plan.Rest.first 13 _ (.slice wa nw wc) rfl (by kernel_rfl) (by kernel_rfl) (by kernel_rfl) (by kernel_rfl) (fun w' hb' => exec_loadS (ad := ⟨r, 5, none⟩) rfl (by kernel_rfl) (HS.out w' (hb.trans (hb'.mono hb.size))).2.2.2.2.2.1) ?_
  refine plan.Rest.call 9 _ 19 #[.pointer (some ⟨j, 0, none⟩)] rfl (by kernel_rfl) (by kernel_rfl) (by kernel_rfl) ((cwh W1 hb).mono ?_)
  rintro e W2 ⟨x1, k1, rfl, hr1, hn⟩
  have hb := hb.trans (hn.mono hb.size)
  refine ⟨_, rfl, hn, ?_⟩
  refine plan.Rest.call 14 _ 18 #[.slice x1 nw k1, .slice wa nw wc] rfl (by kernel_rfl) (by kernel_rfl) (by kernel_rfl) ((cs1 x1 k1 W2 hr1 hb).mono ?_)
  rintro e W3 ⟨rfl, m9, hm9⟩
  have hn : Below W2.heap.size W2 W3 := by rw [hm9]; exact below_drewN (Below.refl _ _) _
  clear hm9
  have hb := hb.trans (hn.mono hb.size)
  refine ⟨_, rfl, hn, ?_⟩
  refine plan.Rest.first 15 _ (.bool true) rfl (by kernel_rfl) (by kernel_rfl) (by kernel_rfl) (by kernel_rfl) (fun w' hb' => (by kernel_rfl)) ?_
  refine plan.Rest.first 16 _ (.bool true) rfl (by kernel_rfl) (by kernel_rfl) (by kernel_rfl) (by kernel_rfl) (fun w' hb' => (by kernel_rfl)) ?_
  refine plan.Rest.first 17 _ (.pointer (some ⟨j, 0, none⟩)) rfl (by kernel_rfl) (by kernel_rfl) (by kernel_rfl) (by kernel_rfl) (fun w' hb' => (by kernel_rfl)) ?_
  refine plan.Rest.first 19 _ (.pointer (some ⟨r, 0, none⟩)) rfl (by kernel_rfl) (by kernel_rfl) (by kernel_rfl) (by kernel_rfl) (fun w' hb' => (by kernel_rfl)) ?_
  refine plan.Rest.first 20 _ (.pointer (some ⟨r, 0, none⟩)) rfl (by kernel_rfl) (by kernel_rfl) (by kernel_rfl) (by kernel_rfl) (fun w' hb' => (by kernel_rfl)) ?_
  refine plan.Rest.first 21 _ (.pointer (some ⟨r, 6, none⟩)) rfl (by kernel_rfl) (by kernel_rfl) (by kernel_rfl) (by kernel_rfl) (fun w' hb' => (by kernel_rfl)) ?_
  refine plan.Rest.first 22 _ (.slice ca nc cc) rfl (by kernel_rfl) (by kernel_rfl) (by kernel_rfl) (by kernel_rfl) (fun w' hb' => exec_loadL (ad := ⟨r, 6, none⟩) rfl (by kernel_rfl) (HS.out w' (hb.trans (hb'.mono hb.size))).2.2.2.2.2.2) ?_
  refine plan.Rest.call 18 _ 21 #[.pointer (some ⟨j, 0, none⟩)] rfl (by kernel_rfl) (by kernel_rfl) (by kernel_rfl) ((cch W3 hb).mono ?_)
  rintro e W4 ⟨x2, rfl, hr2, hn⟩
  have hb := hb.trans (hn.mono hb.size)
  refine ⟨_, rfl, hn, ?_⟩
  refine plan.Rest.call 23 _ 20 #[.slice x2 nc nc, .slice ca nc cc] rfl (by kernel_rfl) (by kernel_rfl) (by kernel_rfl) ((cs2 x2 W4 hr2 hb).mono ?_)
  rintro e W5 ⟨rfl, m9, hm9⟩
  have hn : Below W4.heap.size W4 W5 := by rw [hm9]; exact below_drewN (Below.refl _ _) _
  clear hm9
  have hb := hb.trans (hn.mono hb.size)
  refine ⟨_, rfl, hn, ?_⟩
  refine plan.Rest.first 24 _ (.bool true) rfl (by kernel_rfl) (by kernel_rfl) (by kernel_rfl) (by kernel_rfl) (fun w' hb' => (by kernel_rfl)) ?_
  refine plan.Rest.first 25 _ (.bool true) rfl (by kernel_rfl) (by kernel_rfl) (by kernel_rfl) (by kernel_rfl) (fun w' hb' => (by kernel_rfl)) ?_
  refine plan.Rest.first 26 _ (.pointer (some ⟨j, 0, none⟩)) rfl (by kernel_rfl) (by kernel_rfl) (by kernel_rfl) (by kernel_rfl) (fun w' hb' => (by kernel_rfl)) ?_
  refine plan.Rest.first 28 _ (.pointer (some ⟨r, 0, none⟩)) rfl (by kernel_rfl) (by kernel_rfl) (by kernel_rfl) (by kernel_rfl) (fun w' hb' => (by kernel_rfl)) ?_
  refine plan.Rest.first 29 _ (.pointer (some ⟨r, 0, none⟩)) rfl (by kernel_rfl) (by kernel_rfl) (by kernel_rfl) (by kernel_rfl) (fun w' hb' => (by kernel_rfl)) ?_
  refine plan.Rest.first 30 _ (.pointer (some ⟨r, 3, none⟩)) rfl (by kernel_rfl) (by kernel_rfl) (by kernel_rfl) (by kernel_rfl) (fun w' hb' => (by kernel_rfl)) ?_
  refine plan.Rest.first 31 _ (.bool tn) rfl (by kernel_rfl) (by kernel_rfl) (by kernel_rfl) (by kernel_rfl) (fun w' hb' => exec_loadB (ad := ⟨r, 3, none⟩) rfl (by kernel_rfl) (HS.out w' (hb.trans (hb'.mono hb.size))).2.2.2.1) ?_
  refine plan.Rest.call 27 _ 23 #[.pointer (some ⟨j, 0, none⟩)] rfl (by kernel_rfl) (by kernel_rfl) (by kernel_rfl) ((ctn W5 hb).mono ?_)
  rintro e W6 ⟨rfl, m9, hm9⟩
  have hn : Below W5.heap.size W5 W6 := by rw [hm9]; exact below_drewN (Below.refl _ _) _
  clear hm9
  have hb := hb.trans (hn.mono hb.size)
  refine ⟨_, rfl, hn, ?_⟩
  refine plan.Rest.first 32 _ (.bool true) rfl (by kernel_rfl) (by kernel_rfl) (by kernel_rfl) (by kernel_rfl) (fun w' hb' => exec_eqB (v := tn) rfl (by kernel_rfl) (by kernel_rfl)) ?_
  refine plan.Rest.first 33 _ (.bool true) rfl (by kernel_rfl) (by kernel_rfl) (by kernel_rfl) (by kernel_rfl) (fun w' hb' => (by kernel_rfl)) ?_
  refine plan.Rest.first 34 _ (.bool true) rfl (by kernel_rfl) (by kernel_rfl) (by kernel_rfl) (by kernel_rfl) (fun w' hb' => (by kernel_rfl)) ?_
  refine plan.Rest.first 35 _ (.int .i64 sec) rfl (by kernel_rfl) (by kernel_rfl) (by kernel_rfl) (by kernel_rfl) (fun w' hb' => (by kernel_rfl)) ?_
  refine plan.Rest.first 36 _ (.pointer (some ⟨r, 0, none⟩)) rfl (by kernel_rfl) (by kernel_rfl) (by kernel_rfl) (by kernel_rfl) (fun w' hb' => (by kernel_rfl)) ?_
  refine plan.Rest.first 37 _ (.pointer (some ⟨r, 0, none⟩)) rfl (by kernel_rfl) (by kernel_rfl) (by kernel_rfl) (by kernel_rfl) (fun w' hb' => (by kernel_rfl)) ?_
  refine plan.Rest.first 38 _ (.pointer (some ⟨r, 1, none⟩)) rfl (by kernel_rfl) (by kernel_rfl) (by kernel_rfl) (by kernel_rfl) (fun w' hb' => (by kernel_rfl)) ?_
  refine plan.Rest.first 39 _ (.int .i64 sec) rfl (by kernel_rfl) (by kernel_rfl) (by kernel_rfl) (by kernel_rfl) (fun w' hb' => exec_loadN (ad := ⟨r, 1, none⟩) rfl (by kernel_rfl) (HS.out w' (hb.trans (hb'.mono hb.size))).2.1) ?_
  refine plan.Rest.first 40 _ (.bool true) rfl (by kernel_rfl) (by kernel_rfl) (by kernel_rfl) (by kernel_rfl) (fun w' hb' => exec_eqI (n := sec) rfl (by kernel_rfl) (by kernel_rfl)) ?_
  refine plan.Rest.first 41 _ (.bool true) rfl (by kernel_rfl) (by kernel_rfl) (by kernel_rfl) (by kernel_rfl) (fun w' hb' => (by kernel_rfl)) ?_
  refine plan.Rest.first 42 _ (.bool true) rfl (by kernel_rfl) (by kernel_rfl) (by kernel_rfl) (by kernel_rfl) (fun w' hb' => (by kernel_rfl)) ?_
  refine plan.Rest.first 43 _ (.int .i64 tl) rfl (by kernel_rfl) (by kernel_rfl) (by kernel_rfl) (by kernel_rfl) (fun w' hb' => (by kernel_rfl)) ?_
  refine plan.Rest.first 44 _ (.pointer (some ⟨r, 0, none⟩)) rfl (by kernel_rfl) (by kernel_rfl) (by kernel_rfl) (by kernel_rfl) (fun w' hb' => (by kernel_rfl)) ?_
  refine plan.Rest.first 45 _ (.pointer (some ⟨r, 0, none⟩)) rfl (by kernel_rfl) (by kernel_rfl) (by kernel_rfl) (by kernel_rfl) (fun w' hb' => (by kernel_rfl)) ?_
  refine plan.Rest.first 46 _ (.pointer (some ⟨r, 2, none⟩)) rfl (by kernel_rfl) (by kernel_rfl) (by kernel_rfl) (by kernel_rfl) (fun w' hb' => (by kernel_rfl)) ?_
  refine plan.Rest.first 47 _ (.int .i64 tl) rfl (by kernel_rfl) (by kernel_rfl) (by kernel_rfl) (by kernel_rfl) (fun w' hb' => exec_loadN (ad := ⟨r, 2, none⟩) rfl (by kernel_rfl) (HS.out w' (hb.trans (hb'.mono hb.size))).2.2.1) ?_
  refine plan.Rest.first 48 _ (.bool true) rfl (by kernel_rfl) (by kernel_rfl) (by kernel_rfl) (by kernel_rfl) (fun w' hb' => exec_eqI (n := tl) rfl (by kernel_rfl) (by kernel_rfl)) ?_
  refine plan.Rest.first 49 _ (.bool true) rfl (by kernel_rfl) (by kernel_rfl) (by kernel_rfl) (by kernel_rfl) (fun w' hb' => (by kernel_rfl)) ?_
  refine plan.Rest.value 50 _ (.bool true) rfl (by kernel_rfl) (by kernel_rfl) (by kernel_rfl) ?_
  refine plan.Rest.done (by kernel_rfl) ?_
  walk_nrm
  go_wp2
  go_ret
  exact ⟨rfl, hb⟩
end Go.Proofs.YtphifanacehppaaGreat.journal
/- Contract of New of layer 11. No condition but a flash with fewer than 2^60 writes. -/
namespace Go.Proofs.YtphifanacehppaaGreat.journal
open Go.RowKit Go.Proofs.YtphifanacehppaaGreat.flash Go.Proofs.YtphifanacehppaaGreat.geom
set_option linter.unusedVariables false

theorem new_none (x : Option Addr) (n c : Nat) (w : World) : Calls Tryz.prog 31 #[.pointer none, .slice x n c] w (Quiet (.tuple #[.pointer none, .int .i64 1]) w) := by
  go_enter Tryz.func31, Tryz.ntmps31
  go_wp2
  go_ret2
  exact ⟨rfl, 0, rfl⟩
theorem new_bad (d : Nat) (y : Option Addr) (m e : Nat) (V : List Nat) (w : World) (hr2 : Reads .u32 w y m V) (hm : m ≤ 4611686018427387904) (hb : loadB V = false) :
    Calls Tryz.prog 31 #[.pointer (some ⟨d, 0, none⟩), .slice y m e] w fun o w' => o = .returned (.tuple #[.pointer none, .int .i64 2]) ∧ Below w.heap.size w w' := by
  have hlm : V.length = m := hr2.1
  have hb1 : Below w.heap.size w (w.alloc (.cells #[.slice y m e] 24)) := (Below.refl _ _).alloc (Nat.le_refl _) _
  have cr := checked_any w.heap.size 1 1 [m] _ (Lens.one w y m e) rfl (by decide) (by intro z hz; simp at hz; subst hz; assumption)
  rw [show [m] = [V.length] by rw [hlm], allB_one, hb] at cr
  simp only [Bool.false_eq_true, if_false] at cr
  clear hr2 hb hlm
  go_enter Tryz.func31, Tryz.ntmps31
  go_wp2_with (go_at_call 55; ((with_reducible refine cr.mono ?_); rintro e w' ⟨rfl, m1, rfl⟩))
  go_ret2
  exact ⟨rfl, below_drewN hb1 m1⟩
/-- the empty journal that New and Open begin with -/
theorem jin_new {S : Nat → Prop} {d b : Nat} {g : Geo} {F : Fl} {w w1 : World} (h : drive.DriveAt S d b g F w) (hS : ∀ x, S x → x < w.heap.size) (hb : Below w.heap.size w w1) (A : Nat) :
    JIn (fun x => (S x ∨ x = d) ∨ x = w1.heap.size) S (fun _ => False) w1.heap.size d b g F ⟨A, Part.zero, false⟩ (.slice none 0 0) (.slice none 0 0) (w1.alloc (.cells #[.pointer (some ⟨d, 0, none⟩), .int .i64 (A : Int), .int .i64 0, .slice none 0 0, .slice none 0 0, .int .i64 0, .bool false] 95)) := by
  have hd := h.lt
  have hs := hb.size
  refine ⟨h.later (hb.alloc hs _), Block.new w1 95 [.pointer (some ⟨d, 0, none⟩), .int .i64 (A : Int), .int .i64 0, .slice none 0 0, .slice none 0 0, .int .i64 0, .bool false], .nil, .nil, fun x hx => hx.elim, fun hx => by have := hS _ hx; omega, fun hx => hx, fun hx => hx, by omega, fun x hx => ?_, fun x hx => ?_⟩
  · rcases hx with hx | hx | hx | hx
    · exact .inl (.inl hx)
    · exact hx.elim
    · exact .inr hx
    · exact .inl (.inr hx)
  · have hsz : (w1.alloc (.cells #[.pointer (some ⟨d, 0, none⟩), .int .i64 (A : Int), .int .i64 0, .slice none 0 0, .slice none 0 0, .int .i64 0, .bool false] 95)).heap.size = w1.heap.size + 1 := by simp
    rw [hsz]
    rcases hx with (hx | rfl) | rfl
    · have := hS x hx; omega
    · omega
    · omega
theorem jturn_new {S : Nat → Prop} {d b j : Nat} {g : Geo} {F : Fl} {K : Jv} {w w1 w' : World} (hb : Below w.heap.size w w1) (hj : w.heap.size ≤ j) (k : JTurn (fun x => (S x ∨ x = d) ∨ x = j) j d b g F K w1 w') : JTurn (fun x => S x ∨ x = d) j d b g F K w w' := by
  obtain ⟨M', h1, h2, h3⟩ := k
  refine ⟨M', h1, fun x hx => ⟨(h2 x hx).1, ?_⟩, (Only.of hb).next h3 fun x hx hl => ?_⟩
  · rcases (h2 x hx).2 with (h4 | h4) | h4
    · exact .inl h4
    · exact .inr (by omega)
    · exact .inr (Nat.le_trans hb.size h4)
  · rcases hx with hx | hx
    · exact hx
    · omega
set_option maxRecDepth 20000 in
theorem new_good {S : Nat → Prop} {d b : Nat} {g : Geo} {F G : Fl} {K : Jv} {w : World} (h : drive.DriveAt S d b g F w) (hS : ∀ x, S x → x < w.heap.size) (fits : Fits F g) (hcnt : F.count < 1000000) (y : Option Addr) (m e : Nat) (V : List Nat)
    (hr2 : Reads .u32 w y m V) (hV : ∀ y ∈ V, y < 4294967296) (hm : m ≤ 4611686018427387904) (hsep : m = 0 ∨ ∃ z, y = some z ∧ ¬ S z.block) (hb : loadB V = true) (hnew : newV F g V = (0, G, some K)) :
    Calls Tryz.prog 31 #[.pointer (some ⟨d, 0, none⟩), .slice y m e] w fun o w' => ∃ j, o = .returned (.tuple #[.pointer (some ⟨j, 0, none⟩), .int .i64 0]) ∧ w.heap.size ≤ j ∧ JTurn (fun x => S x ∨ x = d) j d b g G K w w' := by
  have hlm : V.length = m := hr2.1
  have hb1 : Below w.heap.size w (w.alloc (.cells #[.slice y m e] 24)) := (Below.refl _ _).alloc (Nat.le_refl _) _
  have cr := checked_any w.heap.size 1 1 [m] _ (Lens.one w y m e) rfl (by decide) (by intro z hz; simp at hz; subst hz; assumption)
  rw [show [m] = [V.length] by rw [hlm], allB_one, hb] at cr
  simp only [if_true] at cr
  have st := drive.clean_step fits.ok g 1
  have cc : ∀ w1, Below w.heap.size w w1 → Calls Tryz.prog 56 #[.pointer (some ⟨d, 0, none⟩), .int .i64 1] w1 (Did S b (drive.clean F g 1).2 (.int .i64 (drive.clean F g 1).1) w1) := fun w1 hb1 => drive.clean_this (h.later hb1) fits.ok fits.ft (by omega) 1
  unfold newV at hnew
  rw [if_neg (by rw [hb]; decide)] at hnew
  have hz : (drive.clean F g 1).1 = 0 := Classical.byContradiction fun k => by rw [if_pos k] at hnew; simp at hnew
  rw [if_neg (fun k => k hz)] at hnew
  have f2 : Fits (drive.clean F g 1).2 g := ⟨st.ok, fits.ft.like st.like⟩
  have hc2 : (drive.clean F g 1).2.count < 1152921504606846976 := by have := st.c2; omega
  rw [hz] at cc
  generalize (drive.clean F g 1).2 = F2 at *
  have hz2 : (turnV F2 g ⟨1, Part.zero, false⟩ V).1 = 0 := Classical.byContradiction fun k => by rw [if_pos k] at hnew; simp at hnew
  rw [if_neg (fun k => k hz2)] at hnew
  simp only [Prod.mk.injEq, Option.some.injEq, true_and] at hnew
  have ct : ∀ (q : Nat) (w2 : World) (M S' : Nat → Prop), JIn M S' (fun _ => False) q d b g F2 ⟨1, Part.zero, false⟩ (.slice none 0 0) (.slice none 0 0) w2 → Reads .u32 w2 y m V →
      Calls Tryz.prog 49 #[.pointer (some ⟨q, 0, none⟩), .slice y m e] w2 fun o w' => o = .returned (.int .i64 0) ∧ JTurn M q d b g G K w2 w' := fun q w2 M S' hj hr => by
    have := turn_this hj f2 hc2 (by decide) (by decide) y m e V hr hV hb
    rw [hz2, hnew.1, hnew.2] at this
    exact this
  have H := hid h
  have HS := hid hS
  have HR := hid hr2
  have HSEP := hid hsep
  clear h hS fits hcnt hr2 hV hb hnew hz hz2 st f2 hc2 hlm hsep
  go_enter Tryz.func31, Tryz.ntmps31
  go_wp2_with (first
    | (go_at_call 55; ((with_reducible refine cr.mono ?_); rintro e w' ⟨rfl, m1, rfl⟩; have hj0 := jin_new H.out HS.out (below_drewN hb1 m1) 1; rw [show ((w.alloc (.cells #[.slice y m e] 24)).drewN m1).heap.size = w.heap.size + 1 by simp] at hj0; have HB2 := hid (below_drewN hb1 m1); have hjc := hj0.cells))
    | (go_at_call 56; ((with_reducible refine (cc _ ((below_drewN hb1 m1).alloc (below_drewN hb1 m1).size _)).mono ?_); rintro e w2 ⟨rfl, ht⟩; obtain ⟨S', h2, h3, h4⟩ := hj0.turn ht; have hrd := reads_only (HR.out.below ((below_drewN hb1 m1).alloc (below_drewN hb1 m1).size _)) h4 HSEP.out; have H2 := hid h2; have H3 := hid h3; have H4 := hid h4; have HRD := hid hrd; have hk2 := h2.cells; clear hjc hj0 h2 h3 h4 hrd))
    | (go_at_call 49; ((with_reducible refine (ct _ _ _ _ H2.out HRD.out).mono ?_); rintro e w3 ⟨rfl, ht3⟩)))
  go_ret2
  refine ⟨w.heap.size + 1, rfl, by omega, ?_⟩
  exact jturn_new (HB2.out.alloc HB2.out.size _) (by omega) (JTurn.join (fun x hx => ⟨hx.2, hx.1⟩) (H4.out.mono fun x hx _ => .inl (.inl hx)) ht3)
end Go.Proofs.YtphifanacehppaaGreat.journal
/- Contract of Open of layer 11, over a flash with power. No condition. -/
namespace Go.Proofs.YtphifanacehppaaGreat.journal
open Go.RowKit Go.Proofs.YtphifanacehppaaGreat.flash Go.Proofs.YtphifanacehppaaGreat.geom
set_option linter.unusedVariables false

theorem open_none (w : World) : Calls Tryz.prog 16 #[.pointer none] w (Quiet (.tuple #[.pointer none, .int .i64 1]) w) := by
  go_enter Tryz.func16, Tryz.ntmps16
  go_wp2
  go_ret2
  exact ⟨rfl, 0, rfl⟩
/-- the best of the first k sectors -/
def bestV (F : Fl) (g : Geo) : Nat → Nat × Part
  | 0 => (0, Part.zero)
  | k + 1 => if (bestV F g k).2.seq < (said F g k).seq then (k, said F g k) else bestV F g k
theorem openV_best (F : Fl) (g : Geo) : openV F g = if (bestV F g 2).2.seq = 0 then none else some ⟨(bestV F g 2).1, (bestV F g 2).2, tornV F g (bestV F g 2).1 (bestV F g 2).2.tail⟩ := by
  have h0 : bestV F g 1 = if 0 < (said F g 0).seq then (0, said F g 0) else (0, Part.zero) := rfl
  have h1 : bestV F g 2 = if (bestV F g 1).2.seq < (said F g 1).seq then (1, said F g 1) else bestV F g 1 := rfl
  unfold openV best
  rw [h1, h0]
  by_cases h : 0 < (said F g 0).seq
  · rw [if_pos h, if_neg (by omega)]
    by_cases k : (said F g 0).seq < (said F g 1).seq
    · simp only [if_pos k]
      rw [if_neg (by show ¬ (said F g 1).seq = 0; omega)]
    · simp only [if_neg k]
      rw [if_neg (by show ¬ (said F g 0).seq = 0; omega)]
  · rw [if_neg h]
    have z : Part.zero.seq = 0 := rfl
    by_cases k : 0 < (said F g 1).seq
    · rw [if_neg (by omega), if_pos (show (0, Part.zero).2.seq < (said F g 1).seq from k), if_pos (show (said F g 0).seq < (said F g 1).seq by omega)]
      rw [if_neg (by show ¬ (said F g 1).seq = 0; omega)]
    · rw [if_pos (by omega), if_neg (show ¬ (0, Part.zero).2.seq < (said F g 1).seq from k), if_pos (show Part.zero.seq = 0 from rfl)]
theorem bestV_sound {F : Fl} (ok : F.Ok) (g : Geo) : ∀ k, (bestV F g k).2.Sound ∧ (bestV F g k).2.tail ≤ g.sector.toNat
  | 0 => ⟨.zero, Nat.zero_le _⟩
  | k + 1 => by
    unfold bestV
    split
    · exact ⟨said_sound ok g k, said_tail F g k⟩
    · exact bestV_sound ok g k
theorem bestV_le (F : Fl) (g : Geo) : (bestV F g 2).1 ≤ 1 := by
  have h0 : bestV F g 1 = if 0 < (said F g 0).seq then (0, said F g 0) else (0, Part.zero) := rfl
  have h1 : bestV F g 2 = if (bestV F g 1).2.seq < (said F g 1).seq then (1, said F g 1) else bestV F g 1 := rfl
  rw [h1, h0]
  split <;> split <;> simp
/-- at the head of the loop: the journal at q says what the best of the sectors so far says -/
def OpenAt (d q : Nat) (A : Nat) (R : Part) (w wr : World) : Prop :=
  ∃ X wv cv, Block wr q 95 [.pointer (some ⟨d, 0, none⟩), .int .i64 (A : Int), .int .i64 (R.seq : Int), wv, cv, .int .i64 (R.tail : Int), .bool false] ∧ LoadAt X wr wv R.whole ∧ LoadsAt X wr cv R.changes ∧
    (∀ y, X y → w.heap.size ≤ y ∧ y < wr.heap.size ∧ y ≠ q) ∧ Below w.heap.size w wr
/-- the part that a sector's words make, in a new variable -/
def PartAt (w2 : World) (R : Part) (w3 : World) : Prop :=
  ∃ X' wv cv, Block w3 w2.heap.size 93 [.int .i64 (R.seq : Int), wv, cv, .int .i64 (R.tail : Int)] ∧ LoadAt X' w3 wv R.whole ∧ LoadsAt X' w3 cv R.changes ∧ (∀ y, X' y → w2.heap.size < y ∧ y < w3.heap.size) ∧ Below w2.heap.size w2 w3
theorem read_new {q N : Nat} {W : List Nat} {w2 : World} (hq : q < w2.heap.size) (hr : Reads .u32 w2 (some ⟨q, 0, none⟩) N W) (hW : ∀ y ∈ W, y < 4294967296) (hN : N ≤ 1024) :
    Calls Tryz.prog 45 #[.pointer (some ⟨w2.heap.size, 0, none⟩), .slice (some ⟨q, 0, none⟩) N N] (w2.alloc (.cells #[.int .i64 0, .slice none 0 0, .slice none 0 0, .int .i64 0] 93)) fun e w3 => e = .returned (.tuple #[]) ∧ PartAt w2 (scan N Part.zero W) w3 := by
  have hb : Below w2.heap.size w2 (w2.alloc (.cells #[.int .i64 0, .slice none 0 0, .slice none 0 0, .int .i64 0] 93)) := (Below.refl _ _).alloc (Nat.le_refl _) _
  refine (read_part (X := fun _ => False) (b := w2.heap.size) (o := 0) (T := 93) (cs := [.int .i64 0, .slice none 0 0, .slice none 0 0, .int .i64 0]) Part.zero (some ⟨q, 0, none⟩) N N W _ (Block.new w2 93 [.int .i64 0, .slice none 0 0, .slice none 0 0, .int .i64 0]) (by simp) rfl rfl rfl rfl .nil .nil (fun h => h) (fun y h => h.elim) .zero (hr.below hb) hW (Nat.le_refl _) (by unfold maxLen; omega) (by show 0 + N ≤ 8192; omega) (fun y hy => by
    cases hy
    exact ⟨Nat.lt_of_lt_of_le hq hb.size, by show q ≠ _; omega, fun h => h⟩)).mono ?_
  rintro e w3 ⟨he, X', wv, cv, k1, k2, k3, k4, k5, k6⟩
  refine ⟨he, X', wv, cv, k1, k2, k3, fun y hy => ⟨?_, (k4 y hy).1⟩, ?_⟩
  · rcases (k4 y hy).2 with h | h
    · exact h.elim
    · simp at h; omega
  · have := k6.below (B := w2.heap.size) hb.size (fun x hx => by
      rcases hx with rfl | hx
      · exact Nat.le_refl _
      · exact hx.elim)
    exact hb.trans this
/-- what Open gives -/
def Opened (S : Nat → Prop) (d b : Nat) (g : Geo) (F : Fl) (w : World) (OV : Option Jv) (o : Ending) (w' : World) : Prop :=
  match OV with
  | none => o = .returned (.tuple #[.pointer none, .int .i64 8]) ∧ Below w.heap.size w w'
  | some J => ∃ j X wv cv, o = .returned (.tuple #[.pointer (some ⟨j, 0, none⟩), .int .i64 0]) ∧ w.heap.size ≤ j ∧ Below w.heap.size w w' ∧ (∀ y, X y → w.heap.size ≤ y ∧ y < w'.heap.size) ∧
      JIn (fun x => (S x ∨ x = d) ∨ (X x ∨ x = j)) S X j d b g F J wv cv w'
theorem opened_last {S X : Nat → Prop} {d b A : Nat} {g : Geo} {F : Fl} {R : Part} {wv cv : Value} {w wr w1 : World} {tn : Bool} (h : drive.DriveAt S d b g F w) (hS : ∀ x, S x → x < w.heap.size)
    (hB : Block wr w.heap.size 95 [.pointer (some ⟨d, 0, none⟩), .int .i64 (A : Int), .int .i64 (R.seq : Int), wv, cv, .int .i64 (R.tail : Int), .bool false]) (hw : LoadAt X wr wv R.whole) (hc : LoadsAt X wr cv R.changes)
    (hX : ∀ y, X y → w.heap.size ≤ y ∧ y < wr.heap.size ∧ y ≠ w.heap.size) (hbr : Below w.heap.size w wr) (hb1 : Below wr.heap.size wr w1) :
    Opened S d b g F w (some ⟨A, R, tn⟩) (.returned (.tuple #[.pointer (some ⟨w.heap.size, 0, none⟩), .int .i64 0])) (w1.setCell ⟨w.heap.size, 6, none⟩ (.bool tn)) := by
  have hd := h.lt
  have hbw : Below w.heap.size w (w1.setCell ⟨w.heap.size, 6, none⟩ (.bool tn)) := (hbr.trans (hb1.mono hbr.size)).setCell (p := ⟨w.heap.size, 6, none⟩) (Nat.le_refl _) _
  have hO : Only (fun y => y = w.heap.size) wr (w1.setCell ⟨w.heap.size, 6, none⟩ (.bool tn)) := (Only.of (S := fun y => y = w.heap.size) hb1).setCell (g := w.heap.size) (.inl rfl) 6 _
  have hjl := hB.lt
  have hs := hO.size
  refine ⟨w.heap.size, X, wv, cv, rfl, Nat.le_refl _, hbw, fun y hy => ⟨(hX y hy).1, Nat.lt_of_lt_of_le (hX y hy).2.1 hs⟩, h.later hbw, (hB.later hb1).setCell 6 _, hw.stays (.only hO fun y hy => (hX y hy).2.2), hc.stays (.only hO fun y hy => (hX y hy).2.2), fun x hx hs => ?_, fun hs => ?_, fun hx => (hX _ hx).2.2 rfl, fun hx => ?_, by omega, fun x hx => ?_, fun x hx => ?_⟩
  · have := (hX x hx).1; have := hS x hs; omega
  · have := hS _ hs; omega
  · have := (hX _ hx).1; omega
  · rcases hx with hx | hx | hx | hx
    · exact .inl (.inl hx)
    · exact .inr (.inl hx)
    · exact .inr (.inr hx)
    · exact .inl (.inr hx)
  · rcases hx with (hx | rfl) | hx | rfl
    · have := hS x hx; omega
    · omega
    · have := (hX x hx).2.1; omega
    · omega
set_option maxRecDepth 20000 in
set_option maxHeartbeats 3200000 in
theorem open_this {S : Nat → Prop} {d b : Nat} {g : Geo} {F : Fl} {w : World} (h : drive.DriveAt S d b g F w) (hS : ∀ x, S x → x < w.heap.size) (fits : Fits F g) (hd : F.dark = false) :
    Calls Tryz.prog 16 #[.pointer (some ⟨d, 0, none⟩)] w (Opened S d b g F w (openV F g)) := by
  obtain ⟨b1, b2, b3, b4, b5⟩ := fits.bounds
  obtain ⟨N, hN⟩ := Int.eq_ofNat_of_zero_le (show 0 ≤ g.sector by omega)
  have hNt : g.sector.toNat = N := by omega
  have cg : ∀ w', Below w.heap.size w w' → Calls Tryz.prog 44 #[.pointer (some ⟨d, 0, none⟩)] w' fun e w2 => e = .returned (.agg #[.int .i64 (N : Int), .int .i64 g.slot, .int .i64 g.data, .int .i64 g.quota, .int .i64 g.tries, .int .i64 g.life]) ∧ Below w'.heap.size w' w2 := fun w' hb => by
    have := drive.geometry_any (h.later hb)
    rw [hN] at this
    exact this
  have cr : ∀ s : Nat, s ≤ 1 → ∀ w', Below w.heap.size w w' → Calls Tryz.prog 43 #[.pointer (some ⟨d, 0, none⟩), .int .i64 (s : Int), .int .i64 0, .int .i64 (N : Int)] w' fun e w2 => ∃ q, e = .returned (.tuple #[.slice (some ⟨q, 0, none⟩) N N, .int .i64 0]) ∧ w'.heap.size ≤ q ∧ q < w2.heap.size ∧ Reads .u32 w2 (some ⟨q, 0, none⟩) N (sec F g s) ∧ Below w'.heap.size w' w2 := fun s hs w' hb => by
    have hz := bad_in fits hd (s := s) (a := 0) (n := N) hs (by omega)
    refine (drive.read_good (h.later hb) fits.ok fits.ft (s : Int) 0 N hz).mono ?_
    rintro e w2 ⟨q, he, hq, hr, hb2⟩
    refine ⟨q, he, hq, ?_, by unfold sec; rw [hNt]; exact hr, hb2⟩
    rcases hr.2 with h0 | ⟨q', off, h1, h2, _⟩
    · omega
    · cases h1; exact h2
  have cb : ∀ A a : Nat, ∀ w', Below w.heap.size w w' → A ≤ 1 → a ≤ N → Calls Tryz.prog 46 #[.pointer (some ⟨d, 0, none⟩), .int .i64 (A : Int), .int .i64 (a : Int)] w' fun e w2 => e = .returned (.tuple #[.bool (!tornV F g A a), .int .i64 0]) ∧ Below w'.heap.size w' w2 := fun A a w' hb hA ha => by
    have hz := bad_in fits hd (s := A) (a := a) (n := N - a) hA (by omega)
    have := drive.blank_this (h.later hb) fits.ok fits.ft (A : Int) (a : Int) (by omega)
    unfold drive.blankAt at this
    rw [show g.sector - (a : Int) = ((N - a : Nat) : Int) by omega, if_neg (fun k => k hz)] at this
    refine this.mono ?_
    rintro e w2 ⟨he, hb2⟩
    refine ⟨?_, hb2⟩
    rw [he]
    unfold tornV
    rw [show g.sector - (a : Int) = ((N - a : Nat) : Int) by omega, Bool.not_not]
  have hdl := h.lt
  have HSL : Hid (∀ s, (sec F g s).length = N) := hid fun s => by rw [sec_length, hNt]
  have HSX : Hid (∀ s, ∀ y ∈ sec F g s, y < 4294967296) := hid fun s => sec_lt fits.ok g s
  have HSC : Hid (∀ s, scan N Part.zero (sec F g s) = said F g s) := hid fun s => by unfold said; rw [hNt]
  have HBS : Hid (∀ k, (bestV F g k).2.Sound ∧ (bestV F g k).2.tail ≤ N) := hid fun k => by have := bestV_sound fits.ok g k; rwa [hNt] at this
  have HSS : Hid (∀ s, (said F g s).Sound) := hid fun s => said_sound fits.ok g s
  have HBB : Hid (∀ k, bestV F g (k + 1) = if (bestV F g k).2.seq < (said F g k).seq then (k, said F g k) else bestV F g k) := hid fun k => rfl
  have HBL := hid (bestV_le F g)
  have HB0 : Hid (bestV F g 0 = (0, Part.zero)) := hid rfl
  have H := hid h
  have HS := hid hS
  have HN1 := hid b1
  have HN2 := hid b2
  have i1 : N ≤ 1024 := by omega
  have hst : OpenAt d w.heap.size 0 Part.zero w (w.alloc (.cells #[.pointer (some ⟨d, 0, none⟩), .int .i64 0, .int .i64 0, .slice none 0 0, .slice none 0 0, .int .i64 0, .bool false] 95)) :=
    ⟨fun _ => False, _, _, Block.new w 95 [.pointer (some ⟨d, 0, none⟩), .int .i64 0, .int .i64 0, .slice none 0 0, .slice none 0 0, .int .i64 0, .bool false], .nil, .nil, fun y hy => hy.elim, (Below.refl _ _).alloc (Nat.le_refl _) _⟩
  have HST := hid hst
  have HSEC : Hid (g.sector = N) := hid hN
  have HOP := hid (openV_best F g)
  obtain ⟨OV, hOV⟩ : ∃ OV, Hid (openV F g = OV) := ⟨_, rfl⟩
  rw [hOV.out] at HOP ⊢
  clear h hS fits hd b1 b2 b3 b4 b5 hst hNt hN
  generalize said F g = sd at *
  generalize bestV F g = bv at *
  have hfd : ∀ W, (Instr.field 23 (.agg #[.int .i64 (N : Int), .int .i64 g.slot, .int .i64 g.data, .int .i64 g.quota, .int .i64 g.tries, .int .i64 g.life]) 0).run Tryz.prog W = .ok (.int .i64 (N : Int)) W := fun W => drive.field_geo _ _ _ _ _ _ W
  go_enter Tryz.func16, Tryz.ntmps16
  go_wp2
  go_loopw [16] (fun i wr => ∃ k : Nat, k ≤ 2 ∧ i = .int .i64 (k : Int) ∧ Hid (OpenAt d w.heap.size (bv k).1 (bv k).2 w wr)) (fun i _ => 2 - (intOf i).toNat)
  case atStart => exact ⟨0, Nat.zero_le _, rfl, hid (by rw [HB0.out]; exact HST.out)⟩
  case round =>
    obtain ⟨k, hk, rfl, hop⟩ := hrel
    obtain ⟨X, wv, cv, hB, hw, hc, hX, hbr⟩ := hop.out
    by_cases hlt : k < 2
    · have i2 : (k : Int) < 2 := by omega
      have hk1 : k ≤ 1 := by omega
      have HX := hid hX
      have HB := hid hB
      have HW := hid hw
      have HC := hid hc
      clear hX hB hw hc hop
      obtain ⟨Q, hQ⟩ : ∃ Q, Hid (Q = bv k) := ⟨_, rfl⟩
      rw [← hQ.out] at HB HW HC
      obtain ⟨A, R⟩ := Q
      simp only at HB HW HC
      have cp := fun q w2 hql hrd => read_new (q := q) (w2 := w2) (W := sec F g k) hql hrd (HSX.out k) i1
      rw [HSC.out k] at cp
      have HBK := HBB.out k
      rw [← hQ.out] at HBK
      have HSK := hid (HSS.out k)
      generalize sd k = T at *
      by_cases hgt : R.seq < T.seq
      · rw [if_pos hgt] at HBK
        have i3 : (R.seq : Int) < (T.seq : Int) := by omega
        have HBK := hid HBK
        clear hgt
        go_wp2_with (first
          | (go_at_call 44; ((with_reducible refine (cg _ hbr).mono ?_); rintro e w1 ⟨rfl, hb1⟩))
          | (go_at_call 43; ((with_reducible refine (cr k hk1 _ (hbr.trans (hb1.mono hbr.size))).mono ?_); rintro e w2 ⟨q, rfl, hq, hql, hrd, hb2⟩))
          | (go_at_call 45; ((with_reducible refine (cp _ _ hql hrd).mono ?_); rintro e w3 ⟨rfl, X', wv', cv', k1, k2, k3, k4, k5⟩; obtain ⟨xa, xc, rfl, _⟩ := k2.reads; obtain ⟨ya, yc, rfl, _⟩ := k3.slice; have hB3 := ((HB.out.later hb1).later hb2).later k5; have HB3 := hid hB3; have hbr3 := ((hbr.trans (hb1.mono hbr.size)).trans (hb2.mono (Nat.le_trans hbr.size hb1.size))).trans (k5.mono (Nat.le_trans hbr.size (Nat.le_trans hb1.size hb2.size))); have HBR3 := hid hbr3; have HK5 := hid k5; have K5 := hid ((hb1.trans (hb2.mono hb1.size)).trans (k5.mono (Nat.le_trans hb1.size hb2.size))); have HSZ := hid (show wr.heap.size ≤ w2.heap.size from Nat.le_trans hb1.size hb2.size); have c0 : w3.cell? ⟨w2.heap.size, 0, none⟩ = some (.int .i64 (T.seq : Int)) := k1.cell 0; have c1 : w3.cell? ⟨w2.heap.size, 1, none⟩ = some (.slice xa T.whole.length xc) := k1.cell 1; have c2 : w3.cell? ⟨w2.heap.size, 2, none⟩ = some (.slice ya T.changes.length yc) := k1.cell 2; have c3 : w3.cell? ⟨w2.heap.size, 3, none⟩ = some (.int .i64 (T.tail : Int)) := k1.cell 3; have j2 : w3.cell? ⟨w.heap.size, 2, none⟩ = some (.int .i64 (R.seq : Int)) := hB3.cell 2; have j1 : w3.cell? ⟨w.heap.size, 1, none⟩ = some (.int .i64 (A : Int)) := hB3.cell 1; have j3 : w3.cell? ⟨w.heap.size, 3, none⟩ = some wv := hB3.cell 3; have j4 : w3.cell? ⟨w.heap.size, 4, none⟩ = some cv := hB3.cell 4; have j5 : w3.cell? ⟨w.heap.size, 5, none⟩ = some (.int .i64 (R.tail : Int)) := hB3.cell 5; have f1 := hB3.frozen 1; have f2 := hB3.frozen 2; have f3 := hB3.frozen 3; have f4 := hB3.frozen 4; have f5 := hB3.frozen 5; have K2 := hid k2; have K3 := hid k3; have K4 := hid k4; clear k2 k3 k4 hB3 k1 hbr3)))
        go_quiet (fail)
        go_wp2
        refine ⟨⟨k + 1, by omega, by go_num, hid ?_⟩, ?_⟩
        · rw [HBK.out]
          have hjl := HB.out.lt
          have hsz := HSZ.out
          have hO : Only (fun y => y = w.heap.size) w3 (((((((w3.drewN nq).setCell ⟨w.heap.size, 1, none⟩ (.int .i64 (k : Int))).setCell ⟨w.heap.size, 2, none⟩ (.int .i64 (T.seq : Int))).setCell ⟨w.heap.size, 3, none⟩ (.slice xa T.whole.length xc)).setCell ⟨w.heap.size, 4, none⟩ (.slice ya T.changes.length yc)).setCell ⟨w.heap.size, 5, none⟩ (.int .i64 (T.tail : Int)))) := ((((((Only.refl (fun y => y = w.heap.size) w3).drewN nq).setCell (g := w.heap.size) (.inl rfl) 1 _).setCell (g := w.heap.size) (.inl rfl) 2 _).setCell (g := w.heap.size) (.inl rfl) 3 _).setCell (g := w.heap.size) (.inl rfl) 4 _).setCell (g := w.heap.size) (.inl rfl) 5 _
          refine ⟨X', _, _, ((((((HB3.out.drewN nq).setCell 1 (.int .i64 (k : Int))).setCell 2 (.int .i64 (T.seq : Int))).setCell 3 (.slice xa T.whole.length xc)).setCell 4 (.slice ya T.changes.length yc)).setCell 5 (.int .i64 (T.tail : Int))), K2.out.stays (.only hO fun x hx e => ?_), K3.out.stays (.only hO fun x hx e => ?_), fun y hy => ?_, HBR3.out.trans (hO.below HBR3.out.size fun x hx => by rw [hx]; exact Nat.le_refl _)⟩
          · have := (K4.out x hx).1; omega
          · have := (K4.out x hx).1; omega
          · have h4 := K4.out y hy
            have := hO.size
            omega
        · simp [intOf]; omega
      · rw [if_neg hgt] at HBK
        have i3 : ¬ (R.seq : Int) < (T.seq : Int) := by omega
        have HBK := hid HBK
        clear hgt
        go_wp2_with (first
          | (go_at_call 44; ((with_reducible refine (cg _ hbr).mono ?_); rintro e w1 ⟨rfl, hb1⟩))
          | (go_at_call 43; ((with_reducible refine (cr k hk1 _ (hbr.trans (hb1.mono hbr.size))).mono ?_); rintro e w2 ⟨q, rfl, hq, hql, hrd, hb2⟩))
          | (go_at_call 45; ((with_reducible refine (cp _ _ hql hrd).mono ?_); rintro e w3 ⟨rfl, X', wv', cv', k1, k2, k3, k4, k5⟩; obtain ⟨xa, xc, rfl, _⟩ := k2.reads; obtain ⟨ya, yc, rfl, _⟩ := k3.slice; have hB3 := ((HB.out.later hb1).later hb2).later k5; have HB3 := hid hB3; have hbr3 := ((hbr.trans (hb1.mono hbr.size)).trans (hb2.mono (Nat.le_trans hbr.size hb1.size))).trans (k5.mono (Nat.le_trans hbr.size (Nat.le_trans hb1.size hb2.size))); have HBR3 := hid hbr3; have HK5 := hid k5; have K5 := hid ((hb1.trans (hb2.mono hb1.size)).trans (k5.mono (Nat.le_trans hb1.size hb2.size))); have HSZ := hid (show wr.heap.size ≤ w2.heap.size from Nat.le_trans hb1.size hb2.size); have c0 : w3.cell? ⟨w2.heap.size, 0, none⟩ = some (.int .i64 (T.seq : Int)) := k1.cell 0; have c1 : w3.cell? ⟨w2.heap.size, 1, none⟩ = some (.slice xa T.whole.length xc) := k1.cell 1; have c2 : w3.cell? ⟨w2.heap.size, 2, none⟩ = some (.slice ya T.changes.length yc) := k1.cell 2; have c3 : w3.cell? ⟨w2.heap.size, 3, none⟩ = some (.int .i64 (T.tail : Int)) := k1.cell 3; have j2 : w3.cell? ⟨w.heap.size, 2, none⟩ = some (.int .i64 (R.seq : Int)) := hB3.cell 2; have j1 : w3.cell? ⟨w.heap.size, 1, none⟩ = some (.int .i64 (A : Int)) := hB3.cell 1; have j3 : w3.cell? ⟨w.heap.size, 3, none⟩ = some wv := hB3.cell 3; have j4 : w3.cell? ⟨w.heap.size, 4, none⟩ = some cv := hB3.cell 4; have j5 : w3.cell? ⟨w.heap.size, 5, none⟩ = some (.int .i64 (R.tail : Int)) := hB3.cell 5; have f1 := hB3.frozen 1; have f2 := hB3.frozen 2; have f3 := hB3.frozen 3; have f4 := hB3.frozen 4; have f5 := hB3.frozen 5; have K2 := hid k2; have K3 := hid k3; have K4 := hid k4; clear k2 k3 k4 hB3 k1 hbr3)))
        go_quiet (fail)
        go_wp2
        refine ⟨⟨k + 1, by omega, by go_num, hid ?_⟩, ?_⟩
        · rw [HBK.out]
          have hjl := HB.out.lt
          have hsz := HSZ.out
          have hbw := below_drewN HBR3.out nq
          have hb3 := below_drewN K5.out nq
          refine ⟨X, wv, cv, HB3.out.drewN nq, HW.out.stays (.below hb3), HC.out.stays (.below hb3), fun y hy => ?_, hbw⟩
          have h4 := HX.out y hy
          have := hb3.size
          exact ⟨h4.1, Nat.lt_of_lt_of_le h4.2.1 this, h4.2.2⟩
        · simp [intOf]; omega
    · obtain rfl : k = 2 := by omega
      have hjl := hB.lt
      have hQS := HBS.out 2
      have hQL := HBL.out
      obtain ⟨Q, hQ⟩ : ∃ Q, Hid (Q = bv 2) := ⟨_, rfl⟩
      rw [← hQ.out] at hB hw hc hQS hQL HOP
      obtain ⟨A, R⟩ := Q
      simp only at hB hw hc hQS hQL HOP
      have j2 : wr.cell? ⟨w.heap.size, 2, none⟩ = some (.int .i64 (R.seq : Int)) := hB.cell 2
      by_cases hz : R.seq = 0
      · have HOV := hid (HOP.out.trans (if_pos hz))
        have hbr2 := hid hbr
        rw [hz] at j2
        clear hB hw hc hX hop hQS hQL hz
        go_wp2
        go_ret2
        rw [HOV.out]
        exact ⟨rfl, hbr2.out⟩
      · have HOV := hid (HOP.out.trans (if_neg hz))
        have i3 : ((R.seq : Int) == 0) = false := by simp; omega
        have hb0 : Below wr.heap.size wr wr.drew := below_drewN (Below.refl _ _) 1
        have cbb := cb A R.tail wr.drew (below_drewN hbr 1) hQL hQS.2
        have HKK : Hid (∀ w', Below wr.heap.size wr w' → w'.cell? ⟨w.heap.size, 1, none⟩ = some (.int .i64 (A : Int)) ∧ w'.cell? ⟨w.heap.size, 5, none⟩ = some (.int .i64 (R.tail : Int)) ∧ w'.cell? ⟨w.heap.size, 6, none⟩ = some (.bool false) ∧ w'.frozen? ⟨w.heap.size, 6, none⟩ = false) := hid fun w' hb => ⟨(hB.later hb).cell 1, (hB.later hb).cell 5, (hB.later hb).cell 6, (hB.later hb).frozen 6⟩
        have k0 := HKK.out wr (Below.refl _ _)
        have k1 := HKK.out _ hb0
        have HB := hid hB
        have HW := hid hw
        have HC := hid hc
        have HX := hid hX
        have HBR := hid hbr
        have i4 : R.tail ≤ 1024 := by omega
        clear hB hw hc hX hop hQS hQL hz
        cases htn : tornV F g A R.tail
        all_goals
          rw [htn] at cbb HOV
          go_wp2
          go_region_held3 (fun w' => w'.cell? ⟨w.heap.size, 1, none⟩ = some (.int .i64 (A : Int)) ∧ w'.cell? ⟨w.heap.size, 5, none⟩ = some (.int .i64 (R.tail : Int))) (first | assumption | go_keep) (
            (go_at_call 46; (with_reducible refine cbb.mono ?_); rintro e w1 ⟨rfl, hb1⟩; have hk2 := HKK.out w1 (hb0.trans hb1)))
          go_wp2
          go_ret2
          rw [HOV.out]
          exact opened_last H.out HS.out HB.out HW.out HC.out HX.out HBR.out (hb0.trans hb1)
end Go.Proofs.YtphifanacehppaaGreat.journal
/- What words are read as, told as the reference tells it. Plain lists, no condition. -/
namespace Go.Proofs.YtphifanacehppaaGreat.frame
open Go.RowKit Go.Proofs.YtphifanacehppaaGreat.word Go.Proofs.YtphifanacehppaaGreat.zeros
set_option linter.unusedVariables false

theorem readN_few (xs : List Nat) (h : xs.length < 4) : readN xs = none := by
  unfold readN
  rcases toldS_cases xs with h0 | ⟨n, h1, h2, h3, h4, h5⟩
  · rw [if_pos h0]
  · omega
theorem readN_not (xs : List Nat) (h : (toldN (xs.getD 0 0)).1 < 1 ∨ 56 < (toldN (xs.getD 0 0)).1 ∨ xs.length < (toldN (xs.getD 0 0)).1 + 3) : readN xs = none := by
  unfold readN
  rcases toldS_cases xs with h0 | ⟨n, h1, h2, h3, h4, h5⟩
  · rw [if_pos h0]
  · rw [h4] at h
    simp only at h
    omega
theorem readN_eq (xs : List Nat) (n : Nat) (hn : (toldN (xs.getD 0 0)).1 = n) (n1 : 1 ≤ n) (n2 : n ≤ 56) (h5 : n + 3 ≤ xs.length) (K S : Nat) (L : List Nat)
    (hK : K = xs.getD 1 0 / 1073741824) (hS : S = xs.getD 1 0 % 1073741824) (hLd : L = (xs.take (n + 2)).drop 2) :
    readN xs = if okB K S n = true ∧ words K S L = xs.take (n + 3) then some (K, S, L) else none := by
  have hL : L.length = n := by rw [hLd]; simp; omega
  have ht : toldN (xs.getD 0 0) = (n, true) := by
    have h := toldN_fst (x := xs.getD 0 0) (n := n) (b := (toldN (xs.getD 0 0)).2) (Prod.ext hn rfl) (by omega)
    exact Prod.ext hn h.2
  have hx0 := twin_of ht (by omega)
  by_cases h : okB K S n = true ∧ words K S L = xs.take (n + 3)
  · rw [if_pos h]
    have e : xs = words K S L ++ xs.drop (n + 3) := by rw [h.2, List.take_append_drop]
    rw [e]
    exact readN_words K S L _ (by rw [hL]; exact h.1)
  · rw [if_neg h]
    cases hr : readN xs with
    | none => rfl
    | some q =>
      obtain ⟨k, s, M⟩ := q
      obtain ⟨r1, r2, r3⟩ := readN_some hr
      obtain ⟨o1, o2, o3, o4, o5⟩ := okB_true.1 r1
      exfalso
      have g0 : xs.getD 0 0 = twinN M.length := by
        have : (xs.take (M.length + 3)).getD 0 0 = xs.getD 0 0 := by simp [List.getD_eq_getElem?_getD]
        rw [← this, r2]; rfl
      have g1 : xs.getD 1 0 = k * 1073741824 + s := by
        have : (xs.take (M.length + 3)).getD 1 0 = xs.getD 1 0 := by simp [List.getD_eq_getElem?_getD]
        rw [← this, r2]; rfl
      rw [g0, told_twin _ (by omega), Prod.mk.injEq] at ht
      have hM := ht.1
      have gK : K = k := by rw [hK, g1]; omega
      have gS : S = s := by rw [hS, g1]; omega
      have gL : L = M := by
        have e2 : xs.take (n + 2) = body k s M := by
          have : xs.take (n + 2) = (xs.take (n + 3)).take (n + 2) := by rw [List.take_take]; congr 1; omega
          rw [this, ← hM, r2]
          unfold words
          rw [List.take_append_of_le_length (by rw [body_length]; omega), List.take_of_length_le (by rw [body_length]; omega)]
        rw [hLd, e2]
        rfl
      apply h
      rw [gK, gS, gL, ← hM]
      exact ⟨r1, r2.symm⟩
end Go.Proofs.YtphifanacehppaaGreat.frame
