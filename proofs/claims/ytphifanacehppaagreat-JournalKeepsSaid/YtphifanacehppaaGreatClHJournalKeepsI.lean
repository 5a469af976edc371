/- Lemmas of the claim HJournalKeeps. Each says its own conditions. -/
import Derived.Test.YtphifanacehppaaGreatClHJournalKeepsH
import Derived.Test.YtphifanacehppaaGreatClHJournalKeepsB
import Derived.Test.YtphifanacehppaaGreatClHJournalKeepsE
import Derived.Conc.WalkWords
import Derived.Test.YtphifanacehppaaGreatClHJournalKeepsD
/- Contract of the law file's same of layer 11, where both journals say the same. No condition. -/
namespace Go.Proofs.YtphifanacehppaaGreat.journal
open Go Go.RowKit Go.Proofs.YtphifanacehppaaGreat.flash Go.Proofs.YtphifanacehppaaGreat.geom
set_option linter.unusedVariables false

section
variable {o : Oper} {a : Act} {w : World}
theorem exec_loadN {x : Operand} {ad : Addr} {n : Int} (ho : o.op = .load 3 x) (hx : a.eval x = .pointer (some ad)) (hc : w.cell? ad = some (.int .i64 n)) : (execOp a.eval o).run Tryz.prog w = .ok (.value (.int .i64 n)) w := by
  unfold execOp
  rw [ho]
  simp only [hx]
  go_simp
theorem exec_loadB {x : Operand} {ad : Addr} {v : Bool} (ho : o.op = .load 4 x) (hx : a.eval x = .pointer (some ad)) (hc : w.cell? ad = some (.bool v)) : (execOp a.eval o).run Tryz.prog w = .ok (.value (.bool v)) w := by
  unfold execOp
  rw [ho]
  simp only [hx]
  go_simp
theorem exec_loadL {x : Operand} {ad : Addr} {p : Option Addr} {n c : Nat} (ho : o.op = .load 46 x) (hx : a.eval x = .pointer (some ad)) (hc : w.cell? ad = some (.slice p n c)) : (execOp a.eval o).run Tryz.prog w = .ok (.value (.slice p n c)) w := by
  unfold execOp
  rw [ho]
  simp only [hx]
  go_simp
theorem exec_loadS {x : Operand} {ad : Addr} {p : Option Addr} {n c : Nat} (ho : o.op = .load 24 x) (hx : a.eval x = .pointer (some ad)) (hc : w.cell? ad = some (.slice p n c)) : (execOp a.eval o).run Tryz.prog w = .ok (.value (.slice p n c)) w := by
  unfold execOp
  rw [ho]
  simp only [hx]
  go_simp
theorem exec_eqI {x y : Operand} {n : Int} (ho : o.op = .binOp .eql 3 x y 3) (hx : a.eval x = .int .i64 n) (hy : a.eval y = .int .i64 n) : (execOp a.eval o).run Tryz.prog w = .ok (.value (.bool true)) w := by
  unfold execOp
  rw [ho]
  simp only [hx, hy]
  go_simp
theorem exec_eqB {x y : Operand} {v : Bool} (ho : o.op = .binOp .eql 4 x y 4) (hx : a.eval x = .bool v) (hy : a.eval y = .bool v) : (execOp a.eval o).run Tryz.prog w = .ok (.value (.bool true)) w := by
  unfold execOp
  rw [ho]
  simp only [hx, hy]
  go_simp
end
theorem LoadsAt.short {X : Nat → Prop} {w : World} {v : Value} {Ls : List (List Nat)} (h : LoadsAt X w v Ls) : ∃ a c, v = .slice a Ls.length c ∧ LoadsRead w a Ls := by
  obtain ⟨a, c, h1, _, h2, _⟩ := h.read
  exact ⟨a, c, h1, h2⟩
set_option maxRecDepth 20000 in
set_option maxHeartbeats 3200000 in
theorem told_same {M S X M' S' X' : Nat → Prop} {j d b r e c : Nat} {g : Geo} {F G : Fl} {J : Jv} {wv cv wv' cv' : Value} {w : World} (h : JIn M S X j d b g F J wv cv w) (k : RJIn M' S' X' r e c g G J wv' cv' w) (hso : J.p.Sound) (hlen : J.p.changes.length ≤ 8192) :
    Calls Tryz.prog 37 #[.pointer (some ⟨j, 0, none⟩), .pointer (some ⟨r, 0, none⟩)] w fun o w' => o = .returned (.bool true) ∧ Below w.heap.size w w' := by
  obtain ⟨wa, wc, rfl, _, _, hwr, _⟩ := k.wh.reads
  obtain ⟨ca, cc, rfl, hcr⟩ := k.ch.short
  have hpl := place_this h
  have HS := k.seen
  have csq : ∀ w', Below w.heap.size w w' → Calls Tryz.prog 17 #[.pointer (some ⟨j, 0, none⟩)] w' (Quiet (.int .i64 (J.p.seq : Int)) w') := fun w' hb => seq_this (h.later hb)
  have ctn : ∀ w', Below w.heap.size w w' → Calls Tryz.prog 23 #[.pointer (some ⟨j, 0, none⟩)] w' (Quiet (.bool J.torn) w') := fun w' hb => torn_this (h.later hb)
  have cwh : ∀ w', Below w.heap.size w w' → Calls Tryz.prog 19 #[.pointer (some ⟨j, 0, none⟩)] w' fun e w2 => ∃ x k, e = .returned (.slice x J.p.whole.length k) ∧ Reads .u32 w2 x J.p.whole.length J.p.whole ∧ Below w'.heap.size w' w2 := fun w' hb => (whole_this (h.later hb) hso).mono fun e w2 ⟨x, k, h1, h2, _, h3⟩ => ⟨x, k, h1, h2, h3⟩
  have cch : ∀ w', Below w.heap.size w w' → Calls Tryz.prog 21 #[.pointer (some ⟨j, 0, none⟩)] w' fun e w2 => ∃ a, e = .returned (.slice a J.p.changes.length J.p.changes.length) ∧ LoadsRead w2 a J.p.changes ∧ Below w'.heap.size w' w2 := fun w' hb => (changes_this (h.later hb) hso hlen).mono fun e w2 ⟨a, h1, h2, _, h3⟩ => ⟨a, h1, h2, h3⟩
  have h56 : J.p.whole.length ≤ 56 := by rcases hso.whole with k | k; · rw [k.2.1]; decide
                                         · exact k.2
  have cs1 : ∀ x cx w', Reads .u32 w' x J.p.whole.length J.p.whole → Below w.heap.size w w' → Calls Tryz.prog 18 #[.slice x J.p.whole.length cx, .slice wa J.p.whole.length wc] w' (Quiet (.bool true) w') := fun x cx w' hr hb => by
    have := sameW x wa _ _ cx wc _ _ w' hr (hwr.below hb) (by omega) (by omega)
    rwa [decide_eq_true rfl] at this
  have cs2 : ∀ x w', LoadsRead w' x J.p.changes → Below w.heap.size w w' → Calls Tryz.prog 20 #[.slice x J.p.changes.length J.p.changes.length, .slice ca J.p.changes.length cc] w' (Quiet (.bool true) w') := fun x w' hr hb => by
    have := sameLoads_any x ca _ _ J.p.changes.length cc _ _ w' hr (hcr.below hb) rfl rfl (fun L hL => (hso.changes L hL).2.1) (fun L hL => (hso.changes L hL).2.1) hlen hlen
    rwa [decide_eq_true rfl] at this
  clear h k hso hlen hwr hcr h56
  generalize J.p.whole.length = nw at *
  generalize J.p.changes.length = nc at *
  generalize (J.p.seq : Int) = sq at *
  generalize (J.sector : Int) = sec at *
  generalize (J.p.tail : Int) = tl at *
  generalize J.torn = tn at *
  generalize J.p.whole = Wh at *
  generalize J.p.changes = Ch at *
  have hb0 : ∀ m, Below w.heap.size w (w.drewN m) := fun m => below_drewN (Below.refl _ _) m
  go_enter Tryz.func37, Tryz.ntmps37
  go_wp2_with (go_at_call 25; ((with_reducible refine hpl.mono ?_); rintro o w1 ⟨rfl, m1, rfl⟩))
  refine plan.region (by kernel_rfl) ?_
  obtain ⟨W0, hW0⟩ : ∃ z, Hid ((w.drewN m1).drew = z) := ⟨_, rfl⟩
  have hb : Below w.heap.size w W0 := by rw [← hW0.out]; exact below_drewN (hb0 m1) 1
  rw [hW0.out]
  refine plan.Rest.first 0 _ (.pointer (some ⟨j, 0, none⟩)) rfl (by kernel_rfl) (by kernel_rfl) (by kernel_rfl) (by kernel_rfl) (fun w' hb' => (by kernel_rfl)) ?_
  refine plan.Rest.first 2 _ (.pointer (some ⟨r, 0, none⟩)) rfl (by kernel_rfl) (by kernel_rfl) (by kernel_rfl) (by kernel_rfl) (fun w' hb' => (by kernel_rfl)) ?_
  refine plan.Rest.first 3 _ (.pointer (some ⟨r, 0, none⟩)) rfl (by kernel_rfl) (by kernel_rfl) (by kernel_rfl) (by kernel_rfl) (fun w' hb' => (by kernel_rfl)) ?_
  refine plan.Rest.first 4 _ (.pointer (some ⟨r, 4, none⟩)) rfl (by kernel_rfl) (by kernel_rfl) (by kernel_rfl) (by kernel_rfl) (fun w' hb' => (by kernel_rfl)) ?_
  refine plan.Rest.first 5 _ (.int .i64 sq) rfl (by kernel_rfl) (by kernel_rfl) (by kernel_rfl) (by kernel_rfl) (fun w' hb' => exec_loadN (ad := ⟨r, 4, none⟩) rfl (by kernel_rfl) (HS.out w' (hb.trans (hb'.mono hb.size))).2.2.2.2.1) ?_
  refine plan.Rest.call 1 _ 17 #[.pointer (some ⟨j, 0, none⟩)] rfl (by kernel_rfl) (by kernel_rfl) (by kernel_rfl) ((csq W0 hb).mono ?_)
  rintro e W1 ⟨rfl, m9, hm9⟩
  have hn : Below W0.heap.size W0 W1 := by rw [hm9]; exact below_drewN (Below.refl _ _) _
  clear hm9
  have hb := hb.trans (hn.mono hb.size)
  refine ⟨_, rfl, hn, ?_⟩
  refine plan.Rest.first 6 _ (.bool true) rfl (by kernel_rfl) (by kernel_rfl) (by kernel_rfl) (by kernel_rfl) (fun w' hb' => exec_eqI (n := sq) rfl (by kernel_rfl) (by kernel_rfl)) ?_
  refine plan.Rest.first 7 _ (.bool true) rfl (by kernel_rfl) (by kernel_rfl) (by kernel_rfl) (by kernel_rfl) (fun w' hb' => (by kernel_rfl)) ?_
  refine plan.Rest.first 8 _ (.pointer (some ⟨j, 0, none⟩)) rfl (by kernel_rfl) (by kernel_rfl) (by kernel_rfl) (by kernel_rfl) (fun w' hb' => (by kernel_rfl)) ?_
  refine plan.Rest.first 10 _ (.pointer (some ⟨r, 0, none⟩)) rfl (by kernel_rfl) (by kernel_rfl) (by kernel_rfl) (by kernel_rfl) (fun w' hb' => (by kernel_rfl)) ?_
  refine plan.Rest.first 11 _ (.pointer (some ⟨r, 0, none⟩)) rfl (by kernel_rfl) (by kernel_rfl) (by kernel_rfl) (by kernel_rfl) (fun w' hb' => (by kernel_rfl)) ?_
  refine plan.Rest.first 12 _ (.pointer (some ⟨r, 5, none⟩)) rfl (by kernel_rfl) (by kernel_rfl) (by kernel_rfl) (by kernel_rfl) (fun w' hb' => (by kernel_rfl)) ?_
  refine plan.Rest.first 13 _ (.slice wa nw wc) rfl (by kernel_rfl) (by kernel_rfl) (by kernel_rfl) (by kernel_rfl) (fun w' hb' => exec_loadS (ad := ⟨r, 5, none⟩) rfl (by kernel_rfl) (HS.out w' (hb.trans (hb'.mono hb.size))).2.2.2.2.2.1) ?_
  refine plan.Rest.call 9 _ 19 #[.pointer (some ⟨j, 0, none⟩)] rfl (by kernel_rfl) (by kernel_rfl) (by kernel_rfl) ((cwh W1 hb).mono ?_)
  rintro e W2 ⟨x1, k1, rfl, hr1, hn⟩
  have hb := hb.trans (hn.mono hb.size)
  refine ⟨_, rfl, hn, ?_⟩
  refine plan.Rest.call 14 _ 18 #[.slice x1 nw k1, .slice wa nw wc] rfl (by kernel_rfl) (by kernel_rfl) (by kernel_rfl) ((cs1 x1 k1 W2 hr1 hb).mono ?_)
  rintro e W3 ⟨rfl, m9, hm9⟩
  have hn : Below W2.heap.size W2 W3 := by rw [hm9]; exact below_drewN (Below.refl _ _) _
  clear hm9
  have hb := hb.trans (hn.mono hb.size)
  refine ⟨_, rfl, hn, ?_⟩
  refine plan.Rest.first 15 _ (.bool true) rfl (by kernel_rfl) (by kernel_rfl) (by kernel_rfl) (by kernel_rfl) (fun w' hb' => (by kernel_rfl)) ?_
  refine plan.Rest.first 16 _ (.bool true) rfl (by kernel_rfl) (by kernel_rfl) (by kernel_rfl) (by kernel_rfl) (fun w' hb' => (by kernel_rfl)) ?_
  refine plan.Rest.first 17 _ (.pointer (some ⟨j, 0, none⟩)) rfl (by kernel_rfl) (by kernel_rfl) (by kernel_rfl) (by kernel_rfl) (fun w' hb' => (by kernel_rfl)) ?_
  refine plan.Rest.first 19 _ (.pointer (some ⟨r, 0, none⟩)) rfl (by kernel_rfl) (by kernel_rfl) (by kernel_rfl) (by kernel_rfl) (fun w' hb' => (by kernel_rfl)) ?_
  refine plan.Rest.first 20 _ (.pointer (some ⟨r, 0, none⟩)) rfl (by kernel_rfl) (by kernel_rfl) (by kernel_rfl) (by kernel_rfl) (fun w' hb' => (by kernel_rfl)) ?_
  refine plan.Rest.first 21 _ (.pointer (some ⟨r, 6, none⟩)) rfl (by kernel_rfl) (by kernel_rfl) (by kernel_rfl) (by kernel_rfl) (fun w' hb' => (by kernel_rfl)) ?_
  refine plan.Rest.first 22 _ (.slice ca nc cc) rfl (by kernel_rfl) (by kernel_rfl) (by kernel_rfl) (by kernel_rfl) (fun w' hb' => exec_loadL (ad := ⟨r, 6, none⟩) rfl (by kernel_rfl) (HS.out w' (hb.trans (hb'.mono hb.size))).2.2.2.2.2.2) ?_
  refine plan.Rest.call 18 _ 21 #[.pointer (some ⟨j, 0, none⟩)] rfl (by kernel_rfl) (by kernel_rfl) (by kernel_rfl) ((cch W3 hb).mono ?_)
  rintro e W4 ⟨x2, rfl, hr2, hn⟩
  have hb := hb.trans (hn.mono hb.size)
  refine ⟨_, rfl, hn, ?_⟩
  refine plan.Rest.call 23 _ 20 #[.slice x2 nc nc, .slice ca nc cc] rfl (by kernel_rfl) (by kernel_rfl) (by kernel_rfl) ((cs2 x2 W4 hr2 hb).mono ?_)
  rintro e W5 ⟨rfl, m9, hm9⟩
  have hn : Below W4.heap.size W4 W5 := by rw [hm9]; exact below_drewN (Below.refl _ _) _
  clear hm9
  have hb := hb.trans (hn.mono hb.size)
  refine ⟨_, rfl, hn, ?_⟩
  refine plan.Rest.first 24 _ (.bool true) rfl (by kernel_rfl) (by kernel_rfl) (by kernel_rfl) (by kernel_rfl) (fun w' hb' => (by kernel_rfl)) ?_
  refine plan.Rest.first 25 _ (.bool true) rfl (by kernel_rfl) (by kernel_rfl) (by kernel_rfl) (by kernel_rfl) (fun w' hb' => (by kernel_rfl)) ?_
  refine plan.Rest.first 26 _ (.pointer (some ⟨j, 0, none⟩)) rfl (by kernel_rfl) (by kernel_rfl) (by kernel_rfl) (by kernel_rfl) (fun w' hb' => (by kernel_rfl)) ?_
  refine plan.Rest.first 28 _ (.pointer (some ⟨r, 0, none⟩)) rfl (by kernel_rfl) (by kernel_rfl) (by kernel_rfl) (by kernel_rfl) (fun w' hb' => (by kernel_rfl)) ?_
  refine plan.Rest.first 29 _ (.pointer (some ⟨r, 0, none⟩)) rfl (by kernel_rfl) (by kernel_rfl) (by kernel_rfl) (by kernel_rfl) (fun w' hb' => (by kernel_rfl)) ?_
  refine plan.Rest.first 30 _ (.pointer (some ⟨r, 3, none⟩)) rfl (by kernel_rfl) (by kernel_rfl) (by kernel_rfl) (by kernel_rfl) (fun w' hb' => (by kernel_rfl)) ?_
  refine plan.Rest.first 31 _ (.bool tn) rfl (by kernel_rfl) (by kernel_rfl) (by kernel_rfl) (by kernel_rfl) (fun w' hb' => exec_loadB (ad := ⟨r, 3, none⟩) rfl (by kernel_rfl) (HS.out w' (hb.trans (hb'.mono hb.size))).2.2.2.1) ?_
  refine plan.Rest.call 27 _ 23 #[.pointer (some ⟨j, 0, none⟩)] rfl (by kernel_rfl) (by kernel_rfl) (by kernel_rfl) ((ctn W5 hb).mono ?_)
  rintro e W6 ⟨rfl, m9, hm9⟩
  have hn : Below W5.heap.size W5 W6 := by rw [hm9]; exact below_drewN (Below.refl _ _) _
  clear hm9
  have hb := hb.trans (hn.mono hb.size)
  refine ⟨_, rfl, hn, ?_⟩
  refine plan.Rest.first 32 _ (.bool true) rfl (by kernel_rfl) (by kernel_rfl) (by kernel_rfl) (by kernel_rfl) (fun w' hb' => exec_eqB (v := tn) rfl (by kernel_rfl) (by kernel_rfl)) ?_
  refine plan.Rest.first 33 _ (.bool true) rfl (by kernel_rfl) (by kernel_rfl) (by kernel_rfl) (by kernel_rfl) (fun w' hb' => (by kernel_rfl)) ?_
  refine plan.Rest.first 34 _ (.bool true) rfl (by kernel_rfl) (by kernel_rfl) (by kernel_rfl) (by kernel_rfl) (fun w' hb' => (by kernel_rfl)) ?_
  refine plan.Rest.first 35 _ (.int .i64 sec) rfl (by kernel_rfl) (by kernel_rfl) (by kernel_rfl) (by kernel_rfl) (fun w' hb' => (by kernel_rfl)) ?_
  refine plan.Rest.first 36 _ (.pointer (some ⟨r, 0, none⟩)) rfl (by kernel_rfl) (by kernel_rfl) (by kernel_rfl) (by kernel_rfl) (fun w' hb' => (by kernel_rfl)) ?_
  refine plan.Rest.first 37 _ (.pointer (some ⟨r, 0, none⟩)) rfl (by kernel_rfl) (by kernel_rfl) (by kernel_rfl) (by kernel_rfl) (fun w' hb' => (by kernel_rfl)) ?_
  refine plan.Rest.first 38 _ (.pointer (some ⟨r, 1, none⟩)) rfl (by kernel_rfl) (by kernel_rfl) (by kernel_rfl) (by kernel_rfl) (fun w' hb' => (by kernel_rfl)) ?_
  refine plan.Rest.first 39 _ (.int .i64 sec) rfl (by kernel_rfl) (by kernel_rfl) (by kernel_rfl) (by kernel_rfl) (fun w' hb' => exec_loadN (ad := ⟨r, 1, none⟩) rfl (by kernel_rfl) (HS.out w' (hb.trans (hb'.mono hb.size))).2.1) ?_
  refine plan.Rest.first 40 _ (.bool true) rfl (by kernel_rfl) (by kernel_rfl) (by kernel_rfl) (by kernel_rfl) (fun w' hb' => exec_eqI (n := sec) rfl (by kernel_rfl) (by kernel_rfl)) ?_
  refine plan.Rest.first 41 _ (.bool true) rfl (by kernel_rfl) (by kernel_rfl) (by kernel_rfl) (by kernel_rfl) (fun w' hb' => (by kernel_rfl)) ?_
  refine plan.Rest.first 42 _ (.bool true) rfl (by kernel_rfl) (by kernel_rfl) (by kernel_rfl) (by kernel_rfl) (fun w' hb' => (by kernel_rfl)) ?_
  refine plan.Rest.first 43 _ (.int .i64 tl) rfl (by kernel_rfl) (by kernel_rfl) (by kernel_rfl) (by kernel_rfl) (fun w' hb' => (by kernel_rfl)) ?_
  refine plan.Rest.first 44 _ (.pointer (some ⟨r, 0, none⟩)) rfl (by kernel_rfl) (by kernel_rfl) (by kernel_rfl) (by kernel_rfl) (fun w' hb' => (by kernel_rfl)) ?_
  refine plan.Rest.first 45 _ (.pointer (some ⟨r, 0, none⟩)) rfl (by kernel_rfl) (by kernel_rfl) (by kernel_rfl) (by kernel_rfl) (fun w' hb' => (by kernel_rfl)) ?_
  refine plan.Rest.first 46 _ (.pointer (some ⟨r, 2, none⟩)) rfl (by kernel_rfl) (by kernel_rfl) (by kernel_rfl) (by kernel_rfl) (fun w' hb' => (by kernel_rfl)) ?_
  refine plan.Rest.first 47 _ (.int .i64 tl) rfl (by kernel_rfl) (by kernel_rfl) (by kernel_rfl) (by kernel_rfl) (fun w' hb' => exec_loadN (ad := ⟨r, 2, none⟩) rfl (by kernel_rfl) (HS.out w' (hb.trans (hb'.mono hb.size))).2.2.1) ?_
  refine plan.Rest.first 48 _ (.bool true) rfl (by kernel_rfl) (by kernel_rfl) (by kernel_rfl) (by kernel_rfl) (fun w' hb' => exec_eqI (n := tl) rfl (by kernel_rfl) (by kernel_rfl)) ?_
  refine plan.Rest.first 49 _ (.bool true) rfl (by kernel_rfl) (by kernel_rfl) (by kernel_rfl) (by kernel_rfl) (fun w' hb' => (by kernel_rfl)) ?_
  refine plan.Rest.value 50 _ (.bool true) rfl (by kernel_rfl) (by kernel_rfl) (by kernel_rfl) ?_
  refine plan.Rest.done (by kernel_rfl) ?_
  walk_nrm
  go_wp2
  go_ret
  exact ⟨rfl, hb⟩
end Go.Proofs.YtphifanacehppaaGreat.journal
/- Contract of New of layer 11. No condition but a flash with fewer than 2^60 writes. -/
namespace Go.Proofs.YtphifanacehppaaGreat.journal
open Go.RowKit Go.Proofs.YtphifanacehppaaGreat.flash Go.Proofs.YtphifanacehppaaGreat.geom
set_option linter.unusedVariables false

theorem new_none (x : Option Addr) (n c : Nat) (w : World) : Calls Tryz.prog 31 #[.pointer none, .slice x n c] w (Quiet (.tuple #[.pointer none, .int .i64 1]) w) := by
  go_enter Tryz.func31, Tryz.ntmps31
  go_wp2
  go_ret2
  exact ⟨rfl, 0, rfl⟩
theorem new_bad (d : Nat) (y : Option Addr) (m e : Nat) (V : List Nat) (w : World) (hr2 : Reads .u32 w y m V) (hm : m ≤ 4611686018427387904) (hb : loadB V = false) :
    Calls Tryz.prog 31 #[.pointer (some ⟨d, 0, none⟩), .slice y m e] w fun o w' => o = .returned (.tuple #[.pointer none, .int .i64 2]) ∧ Below w.heap.size w w' := by
  have hlm : V.length = m := hr2.1
  have hb1 : Below w.heap.size w (w.alloc (.cells #[.slice y m e] 24)) := (Below.refl _ _).alloc (Nat.le_refl _) _
  have cr := checked_any w.heap.size 1 1 [m] _ (Lens.one w y m e) rfl (by decide) (by intro z hz; simp at hz; subst hz; assumption)
  rw [show [m] = [V.length] by rw [hlm], allB_one, hb] at cr
  simp only [Bool.false_eq_true, if_false] at cr
  clear hr2 hb hlm
  go_enter Tryz.func31, Tryz.ntmps31
  go_wp2_with (go_at_call 55; ((with_reducible refine cr.mono ?_); rintro e w' ⟨rfl, m1, rfl⟩))
  go_ret2
  exact ⟨rfl, below_drewN hb1 m1⟩
/-- the empty journal that New and Open begin with -/
theorem jin_new {S : Nat → Prop} {d b : Nat} {g : Geo} {F : Fl} {w w1 : World} (h : drive.DriveAt S d b g F w) (hS : ∀ x, S x → x < w.heap.size) (hb : Below w.heap.size w w1) (A : Nat) :
    JIn (fun x => (S x ∨ x = d) ∨ x = w1.heap.size) S (fun _ => False) w1.heap.size d b g F ⟨A, Part.zero, false⟩ (.slice none 0 0) (.slice none 0 0) (w1.alloc (.cells #[.pointer (some ⟨d, 0, none⟩), .int .i64 (A : Int), .int .i64 0, .slice none 0 0, .slice none 0 0, .int .i64 0, .bool false] 95)) := by
  have hd := h.lt
  have hs := hb.size
  refine ⟨h.later (hb.alloc hs _), Block.new w1 95 [.pointer (some ⟨d, 0, none⟩), .int .i64 (A : Int), .int .i64 0, .slice none 0 0, .slice none 0 0, .int .i64 0, .bool false], .nil, .nil, fun x hx => hx.elim, fun hx => by have := hS _ hx; omega, fun hx => hx, fun hx => hx, by omega, fun x hx => ?_, fun x hx => ?_⟩
  · rcases hx with hx | hx | hx | hx
    · exact .inl (.inl hx)
    · exact hx.elim
    · exact .inr hx
    · exact .inl (.inr hx)
  · have hsz : (w1.alloc (.cells #[.pointer (some ⟨d, 0, none⟩), .int .i64 (A : Int), .int .i64 0, .slice none 0 0, .slice none 0 0, .int .i64 0, .bool false] 95)).heap.size = w1.heap.size + 1 := by simp
    rw [hsz]
    rcases hx with (hx | rfl) | rfl
    · have := hS x hx; omega
    · omega
    · omega
theorem jturn_new {S : Nat → Prop} {d b j : Nat} {g : Geo} {F : Fl} {K : Jv} {w w1 w' : World} (hb : Below w.heap.size w w1) (hj : w.heap.size ≤ j) (k : JTurn (fun x => (S x ∨ x = d) ∨ x = j) j d b g F K w1 w') : JTurn (fun x => S x ∨ x = d) j d b g F K w w' := by
  obtain ⟨M', h1, h2, h3⟩ := k
  refine ⟨M', h1, fun x hx => ⟨(h2 x hx).1, ?_⟩, (Only.of hb).next h3 fun x hx hl => ?_⟩
  · rcases (h2 x hx).2 with (h4 | h4) | h4
    · exact .inl h4
    · exact .inr (by omega)
    · exact .inr (Nat.le_trans hb.size h4)
  · rcases hx with hx | hx
    · exact hx
    · omega
set_option maxRecDepth 20000 in
theorem new_good {S : Nat → Prop} {d b : Nat} {g : Geo} {F G : Fl} {K : Jv} {w : World} (h : drive.DriveAt S d b g F w) (hS : ∀ x, S x → x < w.heap.size) (fits : Fits F g) (hcnt : F.count < 1000000) (y : Option Addr) (m e : Nat) (V : List Nat)
    (hr2 : Reads .u32 w y m V) (hV : ∀ y ∈ V, y < 4294967296) (hm : m ≤ 4611686018427387904) (hsep : m = 0 ∨ ∃ z, y = some z ∧ ¬ S z.block) (hb : loadB V = true) (hnew : newV F g V = (0, G, some K)) :
    Calls Tryz.prog 31 #[.pointer (some ⟨d, 0, none⟩), .slice y m e] w fun o w' => ∃ j, o = .returned (.tuple #[.pointer (some ⟨j, 0, none⟩), .int .i64 0]) ∧ w.heap.size ≤ j ∧ JTurn (fun x => S x ∨ x = d) j d b g G K w w' := by
  have hlm : V.length = m := hr2.1
  have hb1 : Below w.heap.size w (w.alloc (.cells #[.slice y m e] 24)) := (Below.refl _ _).alloc (Nat.le_refl _) _
  have cr := checked_any w.heap.size 1 1 [m] _ (Lens.one w y m e) rfl (by decide) (by intro z hz; simp at hz; subst hz; assumption)
  rw [show [m] = [V.length] by rw [hlm], allB_one, hb] at cr
  simp only [if_true] at cr
  have st := drive.clean_step fits.ok g 1
  have cc : ∀ w1, Below w.heap.size w w1 → Calls Tryz.prog 56 #[.pointer (some ⟨d, 0, none⟩), .int .i64 1] w1 (Did S b (drive.clean F g 1).2 (.int .i64 (drive.clean F g 1).1) w1) := fun w1 hb1 => drive.clean_this (h.later hb1) fits.ok fits.ft (by omega) 1
  unfold newV at hnew
  rw [if_neg (by rw [hb]; decide)] at hnew
  have hz : (drive.clean F g 1).1 = 0 := Classical.byContradiction fun k => by rw [if_pos k] at hnew; simp at hnew
  rw [if_neg (fun k => k hz)] at hnew
  have f2 : Fits (drive.clean F g 1).2 g := ⟨st.ok, fits.ft.like st.like⟩
  have hc2 : (drive.clean F g 1).2.count < 1152921504606846976 := by have := st.c2; omega
  rw [hz] at cc
  generalize (drive.clean F g 1).2 = F2 at *
  have hz2 : (turnV F2 g ⟨1, Part.zero, false⟩ V).1 = 0 := Classical.byContradiction fun k => by rw [if_pos k] at hnew; simp at hnew
  rw [if_neg (fun k => k hz2)] at hnew
  simp only [Prod.mk.injEq, Option.some.injEq, true_and] at hnew
  have ct : ∀ (q : Nat) (w2 : World) (M S' : Nat → Prop), JIn M S' (fun _ => False) q d b g F2 ⟨1, Part.zero, false⟩ (.slice none 0 0) (.slice none 0 0) w2 → Reads .u32 w2 y m V →
      Calls Tryz.prog 49 #[.pointer (some ⟨q, 0, none⟩), .slice y m e] w2 fun o w' => o = .returned (.int .i64 0) ∧ JTurn M q d b g G K w2 w' := fun q w2 M S' hj hr => by
    have := turn_this hj f2 hc2 (by decide) (by decide) y m e V hr hV hb
    rw [hz2, hnew.1, hnew.2] at this
    exact this
  have H := hid h
  have HS := hid hS
  have HR := hid hr2
  have HSEP := hid hsep
  clear h hS fits hcnt hr2 hV hb hnew hz hz2 st f2 hc2 hlm hsep
  go_enter Tryz.func31, Tryz.ntmps31
  go_wp2_with (first
    | (go_at_call 55; ((with_reducible refine cr.mono ?_); rintro e w' ⟨rfl, m1, rfl⟩; have hj0 := jin_new H.out HS.out (below_drewN hb1 m1) 1; rw [show ((w.alloc (.cells #[.slice y m e] 24)).drewN m1).heap.size = w.heap.size + 1 by simp] at hj0; have HB2 := hid (below_drewN hb1 m1); have hjc := hj0.cells))
    | (go_at_call 56; ((with_reducible refine (cc _ ((below_drewN hb1 m1).alloc (below_drewN hb1 m1).size _)).mono ?_); rintro e w2 ⟨rfl, ht⟩; obtain ⟨S', h2, h3, h4⟩ := hj0.turn ht; have hrd := reads_only (HR.out.below ((below_drewN hb1 m1).alloc (below_drewN hb1 m1).size _)) h4 HSEP.out; have H2 := hid h2; have H3 := hid h3; have H4 := hid h4; have HRD := hid hrd; have hk2 := h2.cells; clear hjc hj0 h2 h3 h4 hrd))
    | (go_at_call 49; ((with_reducible refine (ct _ _ _ _ H2.out HRD.out).mono ?_); rintro e w3 ⟨rfl, ht3⟩)))
  go_ret2
  refine ⟨w.heap.size + 1, rfl, by omega, ?_⟩
  exact jturn_new (HB2.out.alloc HB2.out.size _) (by omega) (JTurn.join (fun x hx => ⟨hx.2, hx.1⟩) (H4.out.mono fun x hx _ => .inl (.inl hx)) ht3)
end Go.Proofs.YtphifanacehppaaGreat.journal
