/- Lemmas of the claim HJournalKeeps. Each says its own conditions. -/
import Derived.Test.YtphifanacehppaaGreatClHJournalKeepsU
/- JournalKeeps: if the power goes in a Change, a Put, or a Mend, a journal that is opened then says what it said ahead of it, or what it would say behind it; mended it is mended without a write. No condition. -/
namespace Go.Proofs.YtphifanacehppaaGreat.journalKeeps
open Go Go.RowKit Go.Proofs.YtphifanacehppaaGreat.journal Go.Proofs.YtphifanacehppaaGreat.geom Go.Proofs.YtphifanacehppaaGreat.flash Go.Proofs.YtphifanacehppaaGreat.word Go.Proofs.YtphifanacehppaaGreat.journalPlays
set_option linter.unusedVariables false

/-- four cells turned -/
theorem put_pair {w : World} {q : Nat} {b d j r j2 r2 : Nat} (h : Block w q 34 [.pointer (some ⟨b, 0, none⟩), .pointer (some ⟨d, 0, none⟩), .pointer (some ⟨j, 0, none⟩), .pointer (some ⟨r, 0, none⟩)]) : Block ((((w.setCell ⟨q, 0, none⟩ (.pointer (some ⟨b, 0, none⟩))).setCell ⟨q, 1, none⟩ (.pointer (some ⟨d, 0, none⟩))).setCell ⟨q, 2, none⟩ (.pointer (some ⟨j2, 0, none⟩))).setCell ⟨q, 3, none⟩ (.pointer (some ⟨r2, 0, none⟩))) q 34 [.pointer (some ⟨b, 0, none⟩), .pointer (some ⟨d, 0, none⟩), .pointer (some ⟨j2, 0, none⟩), .pointer (some ⟨r2, 0, none⟩)] ∧
    Only (fun x => x = q) w ((((w.setCell ⟨q, 0, none⟩ (.pointer (some ⟨b, 0, none⟩))).setCell ⟨q, 1, none⟩ (.pointer (some ⟨d, 0, none⟩))).setCell ⟨q, 2, none⟩ (.pointer (some ⟨j2, 0, none⟩))).setCell ⟨q, 3, none⟩ (.pointer (some ⟨r2, 0, none⟩))) :=
  ⟨(((h.setCell 0 _).setCell 1 _).setCell 2 _).setCell 3 _, ((((Only.refl (fun x => x = q) w).setCell (g := q) (.inl rfl) 0 _).setCell (g := q) (.inl rfl) 1 _).setCell (g := q) (.inl rfl) 2 _).setCell (g := q) (.inl rfl) 3 _⟩
theorem pair_cells {w : World} {q b d j r : Nat} (h : Block w q 34 [.pointer (some ⟨b, 0, none⟩), .pointer (some ⟨d, 0, none⟩), .pointer (some ⟨j, 0, none⟩), .pointer (some ⟨r, 0, none⟩)]) : w.cell? ⟨q, 0, none⟩ = some (.pointer (some ⟨b, 0, none⟩)) ∧ w.cell? ⟨q, 1, none⟩ = some (.pointer (some ⟨d, 0, none⟩)) ∧ w.cell? ⟨q, 2, none⟩ = some (.pointer (some ⟨j, 0, none⟩)) ∧ w.cell? ⟨q, 3, none⟩ = some (.pointer (some ⟨r, 0, none⟩)) := ⟨h.cell 0, h.cell 1, h.cell 2, h.cell 3⟩
theorem pair_free {w : World} {q : Nat} {x y z t : Value} (h : Block w q 34 [x, y, z, t]) : w.frozen? ⟨q, 0, none⟩ = false ∧ w.frozen? ⟨q, 1, none⟩ = false ∧ w.frozen? ⟨q, 2, none⟩ = false ∧ w.frozen? ⟨q, 3, none⟩ = false := ⟨h.frozen 0, h.frozen 1, h.frozen 2, h.frozen 3⟩
theorem crash_cells {w : World} {q : Nat} {x0 x1 x2 x3 x4 x5 : Value} (h : Block w q 42 [x0, x1, x2, x3, x4, x5]) : w.cell? ⟨q, 0, none⟩ = some x0 ∧ w.cell? ⟨q, 1, none⟩ = some x1 ∧ w.cell? ⟨q, 2, none⟩ = some x2 ∧ w.cell? ⟨q, 3, none⟩ = some x3 ∧ w.cell? ⟨q, 4, none⟩ = some x4 ∧ w.cell? ⟨q, 5, none⟩ = some x5 := ⟨h.cell 0, h.cell 1, h.cell 2, h.cell 3, h.cell 4, h.cell 5⟩
theorem ref_cells {w : World} {q : Nat} {x0 x1 x2 x3 x4 x5 x6 : Value} (h : Block w q 48 [x0, x1, x2, x3, x4, x5, x6]) : w.cell? ⟨q, 0, none⟩ = some x0 ∧ w.cell? ⟨q, 1, none⟩ = some x1 ∧ w.cell? ⟨q, 2, none⟩ = some x2 ∧ w.cell? ⟨q, 3, none⟩ = some x3 ∧ w.cell? ⟨q, 4, none⟩ = some x4 ∧ w.cell? ⟨q, 5, none⟩ = some x5 ∧ w.cell? ⟨q, 6, none⟩ = some x6 := ⟨h.cell 0, h.cell 1, h.cell 2, h.cell 3, h.cell 4, h.cell 5, h.cell 6⟩
/-- what stands beside the program's journal, behind the reference's act -/
structure Kp (R : Nat → Prop) (pb ab bb r : Nat) (pv av bv rv : List Value) (wv cv wv' cv' : Value) (J D : Jv) (w : World) : Prop where
  pR : R pb
  aR : R ab
  bR : R bb
  rR : R r
  p : Block w pb 34 pv
  a : Block w ab 42 av
  f : Block w bb 48 bv
  q : Block w r 48 rv
  was : journal.Rows R w wv cv J
  now : journal.Rows R w wv' cv' D
theorem Kp.stays {R : Nat → Prop} {pb ab bb r : Nat} {pv av bv rv : List Value} {wv cv wv' cv' : Value} {J D : Jv} {w w' : World} (h : Kp R pb ab bb r pv av bv rv wv cv wv' cv' J D w) (s : Stays R w w') : Kp R pb ab bb r pv av bv rv wv cv wv' cv' J D w' :=
  ⟨h.pR, h.aR, h.bR, h.rR, s.blk h.p h.pR, s.blk h.a h.aR, s.blk h.f h.bR, s.blk h.q h.rR, h.was.stays s, h.now.stays s⟩
theorem Kp.later {R : Nat → Prop} {pb ab bb r : Nat} {pv av bv rv : List Value} {wv cv wv' cv' : Value} {J D : Jv} {w w' : World} (h : Kp R pb ab bb r pv av bv rv wv cv wv' cv' J D w) (k : Below w.heap.size w w') : Kp R pb ab bb r pv av bv rv wv cv wv' cv' J D w' := h.stays (.below k)
theorem rows_reads {R : Nat → Prop} {w : World} {a a2 : Option Addr} {n c n2 c2 : Nat} {K : Jv} (h : journal.Rows R w (.slice a n c) (.slice a2 n2 c2) K) : Reads .u32 w a K.p.whole.length K.p.whole ∧ LoadsRead w a2 K.p.changes := by
  obtain ⟨_, _, _, _, h1, h2, h3, h4⟩ := h.reads
  cases h1
  cases h2
  exact ⟨h3, h4⟩
/-- the calls of a comparison, where the journal says P -/
theorem cmp_calls {w0 w : World} {R : Nat → Prop} {j d b : Nat} {g : Geo} {F : Fl} {J J' : Jv} {P : Part} {wa ca : Option Addr} (h : Solo w0 R j d b g F J' w) (fits : Fits F g) (hj : J' = J) (hso : J.Sound g) (e : J.p = P) (hW : Reads .u32 w wa P.whole.length P.whole) (hL : LoadsRead w ca P.changes) (wc cc : Nat) :
    (∀ w', Below w.heap.size w w' → Calls Tryz.prog 17 #[.pointer (some ⟨j, 0, none⟩)] w' fun o w2 => o = .returned (.int .i64 (P.seq : Int)) ∧ Below w.heap.size w w2) ∧
    (∀ w', Below w.heap.size w w' → Calls Tryz.prog 19 #[.pointer (some ⟨j, 0, none⟩)] w' fun o w2 => ∃ x k, o = .returned (.slice x P.whole.length k) ∧ Reads .u32 w2 x P.whole.length P.whole ∧ Below w.heap.size w w2) ∧
    (∀ x cx w', Reads .u32 w' x P.whole.length P.whole → Below w.heap.size w w' → Calls Tryz.prog 18 #[.slice x P.whole.length cx, .slice wa P.whole.length wc] w' fun o w2 => o = .returned (.bool true) ∧ Below w.heap.size w w2) ∧
    (∀ w', Below w.heap.size w w' → Calls Tryz.prog 21 #[.pointer (some ⟨j, 0, none⟩)] w' fun o w2 => ∃ a, o = .returned (.slice a P.changes.length P.changes.length) ∧ LoadsRead w2 a P.changes ∧ Below w.heap.size w w2) ∧
    (∀ x w', LoadsRead w' x P.changes → Below w.heap.size w w' → Calls Tryz.prog 20 #[.slice x P.changes.length P.changes.length, .slice ca P.changes.length cc] w' fun o w2 => o = .returned (.bool true) ∧ Below w.heap.size w w2) := by
  subst hj
  have SE := solo_sees h fits hso
  have hb := fits.bounds
  have hlen : J'.p.changes.length ≤ 8192 := by have := hso.p.count; have := hso.tail; omega
  have hs := hso.p
  have h56 : J'.p.whole.length ≤ 56 := by
    rcases hs.whole with k | k
    · rw [k.2.1]; decide
    · exact k.2
  subst e
  refine ⟨fun w' hb => (SE.seq w' hb).mono fun o w2 ⟨h1, m, h2⟩ => ⟨h1, by rw [h2]; exact below_drewN hb m⟩, fun w' hb => (SE.whole w' hb).mono fun o w2 ⟨x, k, h1, h2, h3⟩ => ⟨x, k, h1, h2, hb.trans (h3.mono hb.size)⟩, fun x cx w' hr hb => ?_, fun w' hb => (SE.changes w' hb).mono fun o w2 ⟨a, h1, h2, h3⟩ => ⟨a, h1, h2, hb.trans (h3.mono hb.size)⟩, fun x w' hr hb => ?_⟩
  · have := sameW x wa _ _ cx wc _ _ w' hr (hW.below hb) (by omega) (by omega)
    rw [decide_eq_true rfl] at this
    exact this.mono fun o w2 ⟨h1, m, h2⟩ => ⟨h1, by rw [h2]; exact below_drewN hb m⟩
  · have := sameLoads_any x ca _ _ J'.p.changes.length cc _ _ w' hr (hL.below hb) rfl rfl (fun L hL => (hs.changes L hL).2.1) (fun L hL => (hs.changes L hL).2.1) hlen hlen
    rw [decide_eq_true rfl] at this
    exact this.mono fun o w2 ⟨h1, m, h2⟩ => ⟨h1, by rw [h2]; exact below_drewN hb m⟩
section
variable {P : Program} {md : Region.Mode} {Q : Exit → _root_.Go.Act → World → Prop} {l : List Oper}
/-- a call that may turn what there was: what may come up behind it goes by what stands behind it -/
theorem callT {f : Nat} {listed : Array Bool} {a : _root_.Go.Act} {w : World} (i : Nat) (o : Oper) (F : FuncId) (args : Array Value) (hi : l[i]? = some o) (hr : Region.ready md l.toArray listed = [i])
    (hw : Region.wanted o (yielded l.toArray a.tmps) = true) (hv : (execOp a.eval o).run P w = .ok (.enter F args) w)
    (h : Calls P F args w fun e w' => ∃ v, e = .returned v ∧ plan.Rest P md l Q f (listed.setIfInBounds i true) (a.put o.dst v) w') : wpAnyH P md l.toArray (NoPanic Q) (fun _ => True) (f + 1) listed a w := by
  refine wpAnyH_all hr (by simp) fun j hj => ?_
  obtain rfl : j = i := by simpa using hj
  have hi' : l.toArray[j]? = some o := by simpa using hi
  unfold wpOp
  simp only [hi', hw, if_true, Oper.wp, hv, Oper.upon]
  refine .inl (h.mono ?_)
  rintro e w' ⟨v, rfl, hR⟩
  exact ⟨trivial, plan.weaken (fun _ _ => trivial) _ _ _ _ hR⟩
end
theorem exec_ltI {o : Oper} {a : _root_.Go.Act} {w : World} {x y : Operand} {n m : Int} (ho : o.op = .binOp .lss 3 x y 3) (hx : a.eval x = .int .i64 n) (hy : a.eval y = .int .i64 m) (h : ¬ n < m) : (execOp a.eval o).run Tryz.prog w = .ok (.value (.bool false)) w := by
  unfold execOp
  rw [ho]
  simp only [hx, hy]
  go_simp
theorem one_row1 (w : World) : Reads .u32 (w.alloc (.cells #[.int .u32 1] 43)) (some ⟨w.heap.size, 0, none⟩) 1 [1] := by
  have := one_row w 1
  rwa [show ((1 : Nat) : Int) = 1 from rfl] at this
theorem load1 : loadB [1] = true := by decide
/-- what is seen of a journal that needs no mending -/
theorem looks {w0 w : World} {R : Nat → Prop} {j d b : Nat} {g : Geo} {F : Fl} {J : Jv} (h : Solo w0 R j d b g F J w) (inv : Inv F g J) (hi : J.torn = false ∨ g.life ≤ J.p.seq) :
    (∀ w', Below w.heap.size w w' → Calls Tryz.prog 23 #[.pointer (some ⟨j, 0, none⟩)] w' fun o w2 => o = .returned (.bool J.torn) ∧ Below w.heap.size w w2) ∧
    (∀ w', Below w.heap.size w w' → Calls Tryz.prog 17 #[.pointer (some ⟨j, 0, none⟩)] w' fun o w2 => o = .returned (.int .i64 (J.p.seq : Int)) ∧ Below w.heap.size w w2) ∧
    (∀ w', Below w.heap.size w w' → Calls Tryz.prog 19 #[.pointer (some ⟨j, 0, none⟩)] w' fun o w2 => ∃ x k, o = .returned (.slice x J.p.whole.length k) ∧ Reads .u32 w2 x J.p.whole.length J.p.whole ∧ Below w'.heap.size w' w2) ∧
    (∀ w', Below w.heap.size w w' → Calls Tryz.prog 24 #[.pointer (some ⟨b, 0, none⟩)] w' fun o w2 => o = .returned (.int .i64 F.count) ∧ Below w.heap.size w w2) ∧
    (∀ q w', q = w'.heap.size → Below w.heap.size w w' → Calls Tryz.prog 22 #[.pointer (some ⟨j, 0, none⟩), .slice (some ⟨q, 0, none⟩) 1 1] (w'.alloc (.cells #[.int .u32 1] 43)) fun o w2 => o = .returned (.int .i64 0) ∧ Below w.heap.size w w2) := by
  have SE := solo_sees h inv.fits inv.sound
  refine ⟨fun w' hb => (SE.torn w' hb).mono fun o w2 ⟨h1, m, h2⟩ => ⟨h1, by rw [h2]; exact below_drewN hb m⟩, fun w' hb => (SE.seq w' hb).mono fun o w2 ⟨h1, m, h2⟩ => ⟨h1, by rw [h2]; exact below_drewN hb m⟩, fun w' hb => SE.whole w' hb, fun w' hb => (solo_writes (h.later hb)).mono fun o w2 ⟨h1, m, h2⟩ => ⟨h1, by rw [h2]; exact below_drewN hb m⟩, fun q w' hq hb => ?_⟩
  have hb2 : Below w.heap.size w (w'.alloc (.cells #[.int .u32 1] 43)) := hb.alloc hb.size _
  exact (solo_idle (h.later hb2) inv.fits inv.sound hi (some ⟨q, 0, none⟩) 1 1 [1] (hq ▸ one_row1 w') load1 one_le).mono fun o w2 ⟨h1, h2⟩ => ⟨h1, hb2.trans (h2.mono hb2.size)⟩
theorem same_twice {W : List Nat} (hn : W.length ≤ 56) (x y : Option Addr) (cx cy : Nat) (w' : World) (h : Reads .u32 w' x W.length W) (k : Reads .u32 w' y W.length W) : Calls Tryz.prog 18 #[.slice x W.length cx, .slice y W.length cy] w' fun o w2 => o = .returned (.bool true) ∧ Below w'.heap.size w' w2 := by
  have := sameW x y _ _ cx cy _ _ w' h k (by omega) (by omega)
  rw [decide_eq_true rfl] at this
  exact this.mono fun o w2 ⟨h1, m, h2⟩ => ⟨h1, by rw [h2]; exact below_drewN (Below.refl _ _) m⟩
set_option maxHeartbeats 12800000 in
set_option maxRecDepth 20000 in
theorem walk_main (g : Geo) (a0 : Option Addr) (cap : Nat) (l : List JAct) (c : Crash) (w : World) (ac : JActs w a0 l) (fp : ∀ p ∈ l, p.Good w) (hc : c.Good w) (hsm : drive.Small g) (hbig : bigL l = false) (hba : bigA c.a = false) (hml : c.mLen ≤ 100) : Calls Tryz.prog 4 #[.agg #[.int .i64 g.sector, .int .i64 g.slot, .int .i64 g.data, .int .i64 g.quota, .int .i64 g.tries, .int .i64 g.life], .slice a0 l.length cap, c.val] w (Yes w) := by
  obtain ⟨hl1, hl2⟩ := not_big hbig
  obtain ⟨w0, w1, hw0, hw1, hs0, hbw, HB, HS, hb1, hC⟩ := boxes g c w
  have hgd := hc.below hbw
  have hac := ac.below hbw
  have hfp : ∀ p ∈ l, p.Good w0 := fun p hp => (fp p hp).below hbw
  have hab : c.a.lLen ≤ 100 ∧ c.a.vLen ≤ 100 := by unfold bigA at hba; simpa using hba
  have hgr := fun w' (hb : Below w0.heap.size w0 w') => great_any a0 cap l w' (hac.below hb) (by unfold maxLen; omega)
  rw [hbig] at hgr
  have hgc : ∀ (q : Nat) (w1 : World), q = w1.heap.size → Calls Tryz.prog 7 #[.slice (some ⟨q, 0, none⟩) 1 1] (w1.alloc (.cells #[.int .i64 c.a.k, .int .i64 c.a.n, .slice c.a.l c.a.lLen c.a.lCap, .slice c.a.v c.a.vLen c.a.vCap] 40)) (Quiet (.bool false) (w1.alloc (.cells #[.int .i64 c.a.k, .int .i64 c.a.n, .slice c.a.l c.a.lLen c.a.lCap, .slice c.a.v c.a.vLen c.a.vCap] 40))) := fun q w1 hq => by
    have := great_any (some ⟨w1.heap.size, 0, none⟩) 1 [c.a] _ (journalNone.acts_one c.a w1) (by unfold maxLen; simp)
    rw [hq]
    rwa [journalNone.big_one, hba] at this
  have cs := drive.small_this g true (hid ⟨fun _ => hsm, fun _ => rfl⟩) w1
  have cb := fun (q : Nat) (w' : World) (hq : q = w'.heap.size) => begin_this g hsm.1 (some ⟨q, 0, none⟩) 1 1 [5] (w'.alloc (.cells #[.int .u32 5] 43)) (hq ▸ one_row5 w') five_lt one_le load5
  rw [show [5].length + 3 = 4 from rfl] at cb
  have ca := fun w' hb => awake_at w0 w' hb
  have hk0 := HS.out w1 hb1
  have HC := hid hC
  have HCC : Hid (∀ w', Below w1.heap.size w1 w' → w'.cell? ⟨w.heap.size + 1, 0, none⟩ = some (.int .i64 c.a.k) ∧ w'.cell? ⟨w.heap.size + 1, 1, none⟩ = some (.int .i64 c.a.n) ∧ w'.cell? ⟨w.heap.size + 1, 2, none⟩ = some (.slice c.a.l c.a.lLen c.a.lCap) ∧ w'.cell? ⟨w.heap.size + 1, 3, none⟩ = some (.slice c.a.v c.a.vLen c.a.vCap) ∧ w'.cell? ⟨w.heap.size + 1, 4, none⟩ = some (.int .i64 c.N) ∧ w'.cell? ⟨w.heap.size + 1, 5, none⟩ = some (.slice c.m c.mLen c.mCap)) := hid fun w' hb => by
    have hB := HC.out.later hb
    exact ⟨hB.cell 0, hB.cell 1, hB.cell 2, hB.cell 3, hB.cell 4, hB.cell 5⟩
  have hlow : ∀ {x : World}, Below w1.heap.size w1 x → Below w0.heap.size w0 x := fun h => hb1.trans (h.mono hb1.size)
  have HAC := hid hac
  have HFP := hid hfp
  have HGD := hid hgd
  have HAB := hid hab
  have HL1 := hid hl1
  have HBIG := hid hbig
  have HS0 := hid hs0
  have i100 : ¬ ((100 : Int) < c.mLen) := by omega
  have HRUN : Hid (∀ (Q : Nat → Prop) (w3 : World) (b d j r e k : Nat) (F : Fl) (J : Jv), Duo2 w0 Q j d b r e k g F J F J w3 → Inv F g J → F.dark = false → F.count ≤ 100 → Calls Tryz.prog 10 #[.agg #[.pointer (some ⟨b, 0, none⟩), .pointer (some ⟨d, 0, none⟩), .pointer (some ⟨j, 0, none⟩), .pointer (some ⟨r, 0, none⟩)], .slice a0 l.length cap] w3 fun o w' => ∃ j2 r2 F2 J2, o = .returned (.tuple #[.agg #[.pointer (some ⟨b, 0, none⟩), .pointer (some ⟨d, 0, none⟩), .pointer (some ⟨j2, 0, none⟩), .pointer (some ⟨r2, 0, none⟩)], .bool true]) ∧ Duo2 w0 Q j2 d b r2 e k g F2 J2 F2 J2 w' ∧ Inv F2 g J2 ∧ F2.count ≤ 100000 ∧ Stays Q w3 w') := hid fun Q w3 b d j r e k F J D inv hd hct =>
    (run_this D inv hd (by omega) a0 cap l HAC.out HFP.out HBIG.out).mono fun o w' ⟨j2, r2, F2, J2, h1, h2, h3, _, h4, h5⟩ => ⟨j2, r2, F2, J2, h1, h2, h3, by have := HL1.out; omega, h5⟩
  clear hac hfp hgd hab ac fp hc hba hml hl1 hl2 hbig hbw hC hsm hs0
  generalize l.length = N at *
  unfold Crash.val
  go_enter Tryz.func4, Tryz.ntmps4
  go_wp2_with fail
  rw [hw0.out, hw1.out]
  go_wp2_with (first
    | (go_at_call 6; (with_reducible refine cs.mono ?_); rintro e w2 ⟨rfl, hb2⟩; obtain ⟨q0, q1, q2, q3, q4, q5⟩ := HCC.out w2 hb2; have hqs : w.heap.size + 1 < w2.heap.size := (by have := HC.out.lt; have := hb2.size; omega))
    | (go_at_call 7; (first | ((with_reducible refine (hgr _ (hlow hb2)).mono ?_); clear hgr; rintro e w3 ⟨rfl, m3, rfl⟩) | ((with_reducible refine (hgc _ _ (by simp)).mono ?_); clear hgc; rintro e w4 ⟨rfl, m4, rfl⟩; have hbq : Below w1.heap.size w1 ((w2.drewN m3).alloc (.cells #[.int .i64 c.a.k, .int .i64 c.a.n, .slice c.a.l c.a.lLen c.a.lCap, .slice c.a.v c.a.vLen c.a.vCap] 40)) := (below_drewN hb2 m3).alloc (below_drewN hb2 m3).size _; clear q0 q1 q2 q3 q4 q5; generalize (w2.drewN m3).alloc (.cells #[.int .i64 c.a.k, .int .i64 c.a.n, .slice c.a.l c.a.lLen c.a.lCap, .slice c.a.v c.a.vLen c.a.vCap] 40) = wq at *; obtain ⟨q0, q1, q2, q3, q4, q5⟩ := HCC.out wq hbq; have hb4 := below_drewN hbq m4; have k4 := HS.out _ (hlow hb4))))
    | (go_at_call 9; ((with_reducible refine (cb _ _ (by simp)).mono ?_); rintro o w5 ⟨b, d, j, r, e, k, F, rfl, D2, inv, hd, hct, hf, hb5⟩; have HD2 := hid D2; have HINV := hid inv; have HDK := hid hd; have HCT := hid hct; have HB5 := hid hb5; clear D2 inv hd hct hf hb5)))
  obtain ⟨w6, hw6⟩ : ∃ z, Hid (w5.alloc (.cells #[.pointer (some ⟨b, 0, none⟩), .pointer (some ⟨d, 0, none⟩), .pointer (some ⟨j, 0, none⟩), .pointer (some ⟨r, 0, none⟩)] 34) = z) := ⟨_, rfl⟩
  have hb45 : Below w0.heap.size w0 ((wq.drewN m4).alloc (.cells #[.int .u32 5] 43)) := (hlow hb4).alloc (hlow hb4).size _
  have hb14 : Below w1.heap.size w1 ((wq.drewN m4).alloc (.cells #[.int .u32 5] 43)) := hb4.alloc hb4.size _
  have hb56 : Below w5.heap.size w5 w6 := by rw [← hw6.out]; exact (Below.refl _ _).alloc (Nat.le_refl _) _
  have P6 : Block w6 w5.heap.size 34 [.pointer (some ⟨b, 0, none⟩), .pointer (some ⟨d, 0, none⟩), .pointer (some ⟨j, 0, none⟩), .pointer (some ⟨r, 0, none⟩)] := by rw [← hw6.out]; exact Block.new w5 34 [.pointer (some ⟨b, 0, none⟩), .pointer (some ⟨d, 0, none⟩), .pointer (some ⟨j, 0, none⟩), .pointer (some ⟨r, 0, none⟩)]
  have A5 : Block w5 (w.heap.size + 1) 42 [.int .i64 c.a.k, .int .i64 c.a.n, .slice c.a.l c.a.lLen c.a.lCap, .slice c.a.v c.a.vLen c.a.vCap, .int .i64 c.N, .slice c.m c.mLen c.mCap] := (HC.out.later hb14).later HB5.out
  have A6 := A5.later hb56
  obtain ⟨pb, hpb⟩ : ∃ z, w5.heap.size = z := ⟨_, rfl⟩
  obtain ⟨ab, hab2⟩ : ∃ z, w.heap.size + 1 = z := ⟨_, rfl⟩
  have hpa : ab < pb := by have := A5.lt; omega
  have D6 := (Duo2.base HD2.out hb45).more (Q' := AndTwo (fun _ => False) ab pb) hb56 (fun x hx => by
    rcases hx with hx | hx | hx
    · exact hx.elim
    · refine .inl ?_
      rw [hx, ← hab2]
      exact Nat.lt_of_lt_of_le HC.out.lt hb14.size
    · refine .inr ⟨by omega, ?_⟩
      rw [hx, ← hpb]
      exact P6.lt)
  rw [hpb] at P6
  rw [hab2] at A6 HS0
  have cr := HRUN.out _ _ b d j r e k F _ D6 HINV.out HDK.out HCT.out
  have p6 := pair_cells P6
  have HP6 := hid P6
  have HA6 := hid A6
  clear cb cs A5 A6 P6 D6 hb45 hb14 hb56 HRUN HCC q0 q1 q2 q3 q4 q5 hb4 hb2 hbq k4 hk0 hqs
  rw [hpb, hw6.out, hab2]
  go_wp2_with (go_at_call 10; ((with_reducible refine cr.mono ?_); rintro o w7 ⟨j2, r2, F2, J2, rfl, D7, inv7, hc7, s7⟩; have P7 := s7.blk HP6.out (.inr (.inr rfl)); have A7 := s7.blk HA6.out (.inr (.inl rfl)); obtain ⟨c0, c1, c2, c3⟩ := pair_cells P7; obtain ⟨f0, f1, f2, f3⟩ := pair_free P7; have HP7 := hid P7; have HA7 := hid A7; have HD7 := hid D7; have HI7 := hid inv7; have HC7 := hid hc7; clear P7 A7 D7 inv7 hc7 s7))
  obtain ⟨w8, hw8⟩ : ∃ z, Hid ((((w7.setCell ⟨pb, 0, none⟩ (.pointer (some ⟨b, 0, none⟩))).setCell ⟨pb, 1, none⟩ (.pointer (some ⟨d, 0, none⟩))).setCell ⟨pb, 2, none⟩ (.pointer (some ⟨j2, 0, none⟩))).setCell ⟨pb, 3, none⟩ (.pointer (some ⟨r2, 0, none⟩)) = z) := ⟨_, rfl⟩
  obtain ⟨P8, O8⟩ := put_pair (j2 := j2) (r2 := r2) HP7.out
  rw [hw8.out] at P8 O8
  have hw0pb : w0.heap.size ≤ pb := by have := HS0.out; omega
  have hpa2 : ab ≠ pb := by omega
  have A8 := HA7.out.only O8 hpa2
  have D8 := HD7.out.set O8 (fun y hy => by
    have hy : y = pb := hy
    exact ⟨.inr (.inr hy), by omega⟩)
  have co := opened_this D8 HI7.out
  have HP8 := hid P8
  have HA8 := hid A8
  clear P8 O8 A8 D8 cr c0 c1 c2 c3 f0 f1 f2 f3
  rw [hw8.out]
  go_wp2_with (go_at_call 11; ((with_reducible refine co.mono ?_); clear co; rintro o w9 ⟨j4, r4, rfl, D9, s9⟩; have P9 := s9.blk HP8.out (.inr (.inr rfl)); have A9 := s9.blk HA8.out (.inr (.inl rfl)); obtain ⟨c0, c1, c2, c3⟩ := pair_cells P9; obtain ⟨f0, f1, f2, f3⟩ := pair_free P9; obtain ⟨a0', a1', a2', a3', a4', a5'⟩ := crash_cells A9; have fa := A9.frozen 0; have la := A9.lt; have lp := P9.lt; obtain ⟨wa, wc, ca1, cc, DB⟩ := duo2_b D9; obtain ⟨r0, r1, r2', r3, r4', r5, r6⟩ := ref_cells DB.cells; have lr := DB.cells.lt; have n1 := DB.ne (x := pb) (.inr (.inr rfl)); have n2 := DB.ne (x := ab) (.inr (.inl rfl)); have n3 := Ne.symm n1; have n4 := Ne.symm n2; have n5 := hpa2; have n6 := Ne.symm hpa2; have HP9 := hid P9; have HA9 := hid A9; have HDB := hid DB; clear P9 A9 D9 DB s9))
  generalize wrap64 (1 + wrap64 ((IntKind.u64.wrap c.a.k).tmod 3)) = kk
  obtain ⟨bb, hbb⟩ : ∃ z, w9.heap.size = z := ⟨_, rfl⟩
  obtain ⟨w10, hw10⟩ : ∃ z, Hid ((((((w9.setCell ⟨pb, 0, none⟩ (.pointer (some ⟨b, 0, none⟩))).setCell ⟨pb, 1, none⟩ (.pointer (some ⟨d, 0, none⟩))).setCell ⟨pb, 2, none⟩ (.pointer (some ⟨j4, 0, none⟩))).setCell ⟨pb, 3, none⟩ (.pointer (some ⟨r4, 0, none⟩))).setCell ⟨ab, 0, none⟩ (.int .i64 kk)).alloc (.cells #[.pointer (some ⟨e, 0, none⟩), .int .i64 (J2.sector : Int), .int .i64 (J2.p.tail : Int), .bool J2.torn, .int .i64 (J2.p.seq : Int), .slice wa J2.p.whole.length wc, .slice ca1 J2.p.changes.length cc] 48) = z) := ⟨_, rfl⟩
  have inv9 := HI7.out.power
  have hdk9 : F2.power.dark = false := rfl
  have hfu9 : F2.power.fuse = none := rfl
  have hct9 : F2.power.count ≤ 100000 := HC7.out
  generalize F2.power = Fp at *
  have hfacts : Block w10 pb 34 [.pointer (some ⟨b, 0, none⟩), .pointer (some ⟨d, 0, none⟩), .pointer (some ⟨j4, 0, none⟩), .pointer (some ⟨r4, 0, none⟩)] ∧ Block w10 ab 42 [.int .i64 kk, .int .i64 c.a.n, .slice c.a.l c.a.lLen c.a.lCap, .slice c.a.v c.a.vLen c.a.vCap, .int .i64 c.N, .slice c.m c.mLen c.mCap] ∧ Block w10 bb 48 [.pointer (some ⟨e, 0, none⟩), .int .i64 (J2.sector : Int), .int .i64 (J2.p.tail : Int), .bool J2.torn, .int .i64 (J2.p.seq : Int), .slice wa J2.p.whole.length wc, .slice ca1 J2.p.changes.length cc] ∧ DuoB w0 (AndTwo (AndTwo (fun _ => False) ab pb) bb bb) j4 d b r4 e k g Fp J2 Fp J2 (.slice wa J2.p.whole.length wc) (.slice ca1 J2.p.changes.length cc) w10 := by
    obtain ⟨PA, OA⟩ := put_pair (j2 := j4) (r2 := r4) HP9.out
    have DA := HDB.out.set OA (fun y hy => by
      have hy : y = pb := hy
      exact ⟨.inr (.inr hy), by omega⟩)
    have AA := HA9.out.only OA n5
    have sA : ((((w9.setCell ⟨pb, 0, none⟩ (.pointer (some ⟨b, 0, none⟩))).setCell ⟨pb, 1, none⟩ (.pointer (some ⟨d, 0, none⟩))).setCell ⟨pb, 2, none⟩ (.pointer (some ⟨j4, 0, none⟩))).setCell ⟨pb, 3, none⟩ (.pointer (some ⟨r4, 0, none⟩))).heap.size = bb := by simp [hbb]
    rw [← hw10.out]
    generalize (((w9.setCell ⟨pb, 0, none⟩ (.pointer (some ⟨b, 0, none⟩))).setCell ⟨pb, 1, none⟩ (.pointer (some ⟨d, 0, none⟩))).setCell ⟨pb, 2, none⟩ (.pointer (some ⟨j4, 0, none⟩))).setCell ⟨pb, 3, none⟩ (.pointer (some ⟨r4, 0, none⟩)) = wA at *
    have OB : Only (fun x => x = ab) wA (wA.setCell ⟨ab, 0, none⟩ (.int .i64 kk)) := (Only.refl (fun x => x = ab) wA).setCell (g := ab) (.inl rfl) 0 _
    have AB := AA.setCell 0 (.int .i64 kk)
    have PB := PA.only OB n6
    have DBB := DA.set OB (fun y hy => by
      have hy : y = ab := hy
      exact ⟨.inr (.inl hy), by have := HS0.out; omega⟩)
    have sB : (wA.setCell ⟨ab, 0, none⟩ (.int .i64 kk)).heap.size = bb := by simp [sA]
    generalize wA.setCell ⟨ab, 0, none⟩ (.int .i64 kk) = wB at *
    have hbB : Below wB.heap.size wB (wB.alloc (.cells #[.pointer (some ⟨e, 0, none⟩), .int .i64 (J2.sector : Int), .int .i64 (J2.p.tail : Int), .bool J2.torn, .int .i64 (J2.p.seq : Int), .slice wa J2.p.whole.length wc, .slice ca1 J2.p.changes.length cc] 48)) := (Below.refl _ _).alloc (Nat.le_refl _) _
    have BB := Block.new wB 48 [.pointer (some ⟨e, 0, none⟩), .int .i64 (J2.sector : Int), .int .i64 (J2.p.tail : Int), .bool J2.torn, .int .i64 (J2.p.seq : Int), .slice wa J2.p.whole.length wc, .slice ca1 J2.p.changes.length cc]
    rw [sB] at BB
    refine ⟨PB.alloc _, AB.alloc _, BB, DBB.more hbB fun x hx => ?_⟩
    rcases hx with hx | hx | hx
    · exact .inl hx
    · exact .inr ⟨by omega, by rw [hx]; exact BB.lt⟩
    · exact .inr ⟨by omega, by rw [hx]; exact BB.lt⟩
  obtain ⟨P10, A10, B10, D10⟩ := hfacts
  have hgd := HGD.out
  have hgw := hgd.a.below D10.below
  have ct := duo_told_b D10 inv9.fits (by omega) inv9.sound inv9.seq kk c.a.n c.a.l c.a.v c.a.lLen c.a.lCap c.a.vLen c.a.vCap c.a.lW c.a.vW hgw.rl hgw.ml hgw.rv hgw.mv
  obtain ⟨J5, inv5, hcase⟩ := crash_vals inv9 hdk9 hfu9 kk (load := c.a.lW) (whole := c.a.vW) (masks := c.mW) (n := c.N) hgd.bN.2 (by have := hgd.rm.1; have := hgd.cm; have := hgd.dm; unfold maxLen at this; omega) hgd.mm hgw.ml hgw.mv
  have hst3 := act_step (J := J2) (inv9.arm (n := c.N) (M := c.mW) hgd.bN.2 (by have := hgd.rm.1; have := hgd.cm; have := hgd.dm; unfold maxLen at this; omega) hgd.mm).fits kk (load := c.a.lW) (whole := c.a.vW) hgw.ml hgw.mv
  have hct3 : (actV (Fp.arm c.N c.mW) g J2 kk c.a.lW c.a.vW).2.1.count ≤ 200000 := by
    have h1 := hst3.c2
    have h2 : (Fp.arm c.N c.mW).count = Fp.count := rfl
    omega
  obtain ⟨D, hD⟩ : ∃ z, (actV Fp g J2 kk c.a.lW c.a.vW).2.2 = z := ⟨_, rfl⟩
  rw [hD] at ct hcase
  have HK10 : Hid (Block w10 pb 34 [.pointer (some ⟨b, 0, none⟩), .pointer (some ⟨d, 0, none⟩), .pointer (some ⟨j4, 0, none⟩), .pointer (some ⟨r4, 0, none⟩)] ∧ Block w10 ab 42 [.int .i64 kk, .int .i64 c.a.n, .slice c.a.l c.a.lLen c.a.lCap, .slice c.a.v c.a.vLen c.a.vCap, .int .i64 c.N, .slice c.m c.mLen c.mCap] ∧ Block w10 bb 48 [.pointer (some ⟨e, 0, none⟩), .int .i64 (J2.sector : Int), .int .i64 (J2.p.tail : Int), .bool J2.torn, .int .i64 (J2.p.seq : Int), .slice wa J2.p.whole.length wc, .slice ca1 J2.p.changes.length cc]) := hid ⟨P10, A10, B10⟩
  have HI9 := hid inv9
  have HI5 := hid inv5
  have HCASE := hid hcase
  have HCT3 := hid hct3
  have HCT9 := hid hct9
  have p10 := pair_cells P10
  have a10 := crash_cells A10
  have b10 := ref_cells B10
  clear HP9 HA9 HDB HC7 HD7 c0 c1 c2 c3 f0 f1 f2 f3 a0' a1' a2' a3' a4' a5' fa la lp r0 r1 r2' r3 r4' r5 r6 lr n1 n2 n3 n4 n5 n6 P10 A10 B10 D10 hgw inv9 inv5 hcase hst3 hct3 hct9 hgd HP7 HA7 HP8 HA8 hD HP6 HA6 HD2 HINV HDK HCT HB5
  rw [hbb, hw10.out]
  go_wp2_with (go_at_call 12; ((with_reducible refine ct.mono ?_); clear ct; rintro o w11 ⟨⟨z0, rfl⟩, R, wa2, wc2, ca2, cc2, S11, hQR, s11, rw1, hRr, B11, rw2⟩; have HK11 := hid (Kp.mk (hQR pb (.inl (.inr (.inr rfl)))) (hQR ab (.inl (.inr (.inl rfl)))) (hQR bb (.inr (.inl rfl))) hRr (s11.blk HK10.out.1 (.inl (.inr (.inr rfl)))) (s11.blk HK10.out.2.1 (.inl (.inr (.inl rfl)))) (s11.blk HK10.out.2.2 (.inr (.inl rfl))) B11 rw1 rw2); have p11 := pair_cells HK11.out.p; have a11 := crash_cells HK11.out.a; have HS11 := hid S11; clear S11 hQR s11 rw1 hRr B11 rw2))
  have hgd := HGD.out
  have hlm : c.mLen ≤ 140737488355328 := by have := hgd.cm; have := hgd.dm; unfold maxLen at this; omega
  have car := solo_arm HS11.out HI9.out.fits.ok c.N hgd.bN.2 c.m c.mLen c.mCap c.mW (hgd.rm.below HS11.out.below) hgd.cm hlm hgd.dm hgd.sepm
  have HDO : Hid (∀ w', Solo w0 R j4 d b g (Fp.arm c.N c.mW) J2 w' → Calls Tryz.prog 14 #[.pointer (some ⟨j4, 0, none⟩), .agg #[.int .i64 kk, .int .i64 c.a.n, .slice c.a.l c.a.lLen c.a.lCap, .slice c.a.v c.a.vLen c.a.vCap]] w' fun o w2 => o = .returned (.int .i64 (actV (Fp.arm c.N c.mW) g J2 kk c.a.lW c.a.vW).1) ∧ Solo w0 R j4 d b g (actV (Fp.arm c.N c.mW) g J2 kk c.a.lW c.a.vW).2.1 (actV (Fp.arm c.N c.mW) g J2 kk c.a.lW c.a.vW).2.2 w2 ∧ Stays R w' w2) := hid fun w' h => by
    have hgw := hgd.a.below h.below
    have hl := HAB.out
    exact solo_do h (HI9.out.arm (n := c.N) (M := c.mW) hgd.bN.2 (by have := hgd.rm.1; omega) hgd.mm).fits (by have := HCT9.out; show Fp.count < _; omega) HI9.out.sound HI9.out.seq kk c.a.n c.a.l c.a.v c.a.lLen c.a.lCap c.a.vLen c.a.vCap c.a.lW c.a.vW hgw.rl hgw.ml hgw.rv hgw.mv (by omega) (by omega)
  clear hgd hlm
  go_wp2_with (first
    | (go_at_call 13; ((with_reducible refine car.mono ?_); clear car; rintro o w12 ⟨rfl, S12, s12⟩; have K12 := HK11.out.stays s12; have p12 := pair_cells K12.p; have a12 := crash_cells K12.a; have cdo := HDO.out _ S12; have HK12 := hid K12; clear K12 S12 s12))
    | (go_at_call 14; ((with_reducible refine cdo.mono ?_); clear cdo HDO; rintro o w13 ⟨rfl, S13, s13⟩; have K13 := HK12.out.stays s13; have p13 := pair_cells K13.p; have a13 := crash_cells K13.a; generalize actV (Fp.arm c.N c.mW) g J2 kk c.a.lW c.a.vW = RR at *; have cpo := solo_power S13; have HK13 := hid K13; clear K13 S13 s13))
    | (go_at_call 15; ((with_reducible refine cpo.mono ?_); clear cpo; rintro o w14 ⟨rfl, S14, s14⟩; have K14 := HK13.out.stays s14; have p14 := pair_cells K14.p; have cop := solo_open S14 HI5.out.fits rfl HI5.out.op; have HK14 := hid K14; clear K14 S14 s14))
    | (go_at_call 16; ((with_reducible refine cop.mono ?_); clear cop; rintro o w15 ⟨j5, rfl, S15, hb15⟩; have HK15 := hid (HK14.out.later hb15); have HS15 := hid S15; clear S15 hb15)))
  have hW1 := rows_reads HK15.out.was
  have hW2 := rows_reads HK15.out.now
  have HB15 : Hid (∀ w', Below w15.heap.size w15 w' → w'.cell? ⟨bb, 4, none⟩ = some (.int .i64 (J2.p.seq : Int)) ∧ w'.cell? ⟨bb, 5, none⟩ = some (.slice wa J2.p.whole.length wc) ∧ w'.cell? ⟨bb, 6, none⟩ = some (.slice ca1 J2.p.changes.length cc)) := hid fun w' hb => by
    have hB := HK15.out.f.later hb
    exact ⟨hB.cell 4, hB.cell 5, hB.cell 6⟩
  have HR15 : Hid (∀ w', Below w15.heap.size w15 w' → w'.cell? ⟨pb, 3, none⟩ = some (.pointer (some ⟨r4, 0, none⟩)) ∧ w'.cell? ⟨r4, 4, none⟩ = some (.int .i64 (D.p.seq : Int)) ∧ w'.cell? ⟨r4, 5, none⟩ = some (.slice wa2 D.p.whole.length wc2) ∧ w'.cell? ⟨r4, 6, none⟩ = some (.slice ca2 D.p.changes.length cc2)) := hid fun w' hb => by
    have hB := HK15.out.q.later hb
    exact ⟨(HK15.out.p.later hb).cell 3, hB.cell 4, hB.cell 5, hB.cell 6⟩
  have hbd : Below w15.heap.size w15 w15.drew := below_drewN (Below.refl _ _) 1
  have kd := HB15.out _ hbd
  have hsnd := HI5.out.sound
  obtain ⟨mv0, invM, dkM, tnM⟩ := mend_vals HI5.out rfl rfl
  have hW5 := mended HI5.out
  have h56 : J5.p.whole.length ≤ 56 := by
    have := of_decide_eq_true hW5.1
    omega
  have HMEND : Hid (∀ w' x k, Below w15.heap.size w15 w' → Reads .u32 w' x J5.p.whole.length J5.p.whole → Calls Tryz.prog 22 #[.pointer (some ⟨j5, 0, none⟩), .slice x J5.p.whole.length k] w' fun o w2 => o = .returned (.int .i64 0) ∧ Solo w0 R j5 d b g (mendV RR.2.1.power g J5 J5.p.whole).2.1 (mendV RR.2.1.power g J5 J5.p.whole).2.2 w2 ∧ Stays R w' w2) := hid fun w' x k hb hr => by
    have := solo_mend (HS15.out.later hb) HI5.out.fits (by have := HCT3.out; show RR.2.1.count < _; omega) hsnd x J5.p.whole.length k J5.p.whole hr hW5.2.1 (by omega)
    rwa [mv0] at this
  have cw5 : ∀ w', Below w15.heap.size w15 w' → Calls Tryz.prog 19 #[.pointer (some ⟨j5, 0, none⟩)] w' fun o w2 => ∃ x k, o = .returned (.slice x J5.p.whole.length k) ∧ Reads .u32 w2 x J5.p.whole.length J5.p.whole ∧ Below w15.heap.size w15 w2 := fun w' hb => ((solo_sees HS15.out HI5.out.fits hsnd).whole w' hb).mono fun o w2 ⟨x, k, h1, h2, h3⟩ => ⟨x, k, h1, h2, hb.trans (h3.mono hb.size)⟩
  have hl15 : ∀ {x : World}, Below w15.heap.size w15 x → Below w0.heap.size w0 x := fun h => HS15.out.below.trans (h.mono HS15.out.below.size)
  generalize (mendV RR.2.1.power g J5 J5.p.whole).2.1 = F5 at *
  generalize (mendV RR.2.1.power g J5 J5.p.whole).2.2 = J6 at *
  have h66 : J6.p.whole.length ≤ 56 := by
    have := of_decide_eq_true (mended invM).1
    omega
  have HIM := hid invM
  have HDM := hid dkM
  have HTM := hid tnM
  have H66 := hid h66
  have hseq := fun w' (hb : Below w15.heap.size w15 w') => (solo_sees HS15.out HI5.out.fits hsnd).seq w' hb
  generalize J5.p.whole.length = n5 at *
  clear hW5 mv0 invM dkM tnM h56 h66
  rcases HCASE.out with ⟨e1, e2, e3⟩ | ⟨e1, e2 | e2⟩
  · obtain ⟨csq, cwh, cs1, cch, cs2⟩ := cmp_calls HS15.out HI5.out.fits rfl HI5.out.sound e1 hW1.1 hW1.2 wc cc
    rw [e1] at hseq
    clear hW1 hW2 p10 a10 b10 p11 a11 p12 a12 p13 a13 p14
    have hne : ((J2.p.seq : Int) == (D.p.seq : Int)) = false := by simp; omega
    rw [e3] at *
    clear e1 e2 e3
    generalize (J2.p.seq : Int) = sq1 at *
    generalize (D.p.seq : Int) = sq2 at *
    generalize J2.p.whole.length = nw1 at *
    generalize J2.p.changes.length = nc1 at *
    generalize D.p.whole.length = nw2 at *
    generalize D.p.changes.length = nc2 at *
    go_region_held3 (fun w' => (w'.cell? ⟨bb, 4, none⟩ = some (.int .i64 sq1) ∧ w'.cell? ⟨bb, 5, none⟩ = some (.slice wa nw1 wc) ∧ w'.cell? ⟨bb, 6, none⟩ = some (.slice ca1 nc1 cc))) (first | assumption | go_keep) (first
      | (go_at_call 17; (with_reducible refine (csq _ hbd).mono ?_); rintro o v1 ⟨rfl, hv1⟩; have kv1 := HB15.out v1 hv1)
      | (go_at_call 19; (with_reducible refine (cwh _ hv1).mono ?_); rintro o v2 ⟨vx2, vy2, rfl, vhx2, hv2⟩; have kv2 := HB15.out v2 hv2)
      | (go_at_call 18; (with_reducible refine (cs1 _ _ _ vhx2 hv2).mono ?_); rintro o v3 ⟨rfl, hv3⟩; have kv3 := HB15.out v3 hv3)
      | (go_at_call 21; (with_reducible refine (cch _ hv3).mono ?_); rintro o v4 ⟨vx4, rfl, vhx4, hv4⟩; have kv4 := HB15.out v4 hv4)
      | (go_at_call 20; (with_reducible refine (cs2 _ _ vhx4 hv4).mono ?_); rintro o v5 ⟨rfl, hv5⟩; have kv5 := HB15.out v5 hv5))
    have hsq := fun m => hseq (v5.drewN m) (below_drewN hv5 m)
    obtain ⟨f1, f2, _, _⟩ := HR15.out v5 hv5
    go_wp2
    go_quiet (first | (go_at_call 17; (with_reducible exact quietAt (hsq _))))
    have hu1 := below_drewN hv5 nq
    go_wp2_with (go_at_call 19; (with_reducible refine (cw5 _ hu1).mono ?_); rintro o y1 ⟨x5, k5, rfl, hx5, hy1⟩)
    have hyd0 : Below w15.heap.size w15 y1.drew := below_drewN hy1 1
    have hyy : Below y1.heap.size y1 y1.drew := below_drewN (Below.refl _ _) 1
    have hx5d := hx5.below hyy
    obtain ⟨W0, hW0⟩ : ∃ z, Hid (y1.drew = z) := ⟨_, rfl⟩
    have hyd := hyd0
    rw [hW0.out] at hyd hx5d
    clear cw5 hx5
    cases htn : J6.torn with
    | false =>
      refine plan.regionT (by kernel_rfl) ?_
      rw [hW0.out]
      refine plan.free 0 _ (.pointer (some ⟨j5, 0, none⟩)) rfl (by kernel_rfl) (by kernel_rfl) (by kernel_rfl) (by kernel_rfl) (fun w' => (by kernel_rfl)) ?_
      refine plan.free 1 _ (.slice x5 n5 k5) rfl (by kernel_rfl) (by kernel_rfl) (by kernel_rfl) (by kernel_rfl) (fun w' => (by kernel_rfl)) ?_
      refine callT 2 _ 22 #[.pointer (some ⟨j5, 0, none⟩), .slice x5 n5 k5] rfl (by kernel_rfl) (by kernel_rfl) (by kernel_rfl) ((HMEND.out W0 x5 k5 hyd hx5d).mono ?_)
      rintro e W1 ⟨rfl, Sm, sm⟩
      have SEm := solo_sees Sm HIM.out.fits HIM.out.sound
      have ctn := SEm.torn
      rw [htn] at ctn
      have csqm := SEm.seq
      have hb := Below.refl W1.heap.size W1
      refine ⟨_, rfl, ?_⟩
      refine plan.Rest.first 3 _ (.bool false) rfl (by kernel_rfl) (by kernel_rfl) (by kernel_rfl) (by kernel_rfl) (fun w' hb' => (by kernel_rfl)) ?_
      refine plan.Rest.first 4 _ (.bool false) rfl (by kernel_rfl) (by kernel_rfl) (by kernel_rfl) (by kernel_rfl) (fun w' hb' => (by kernel_rfl)) ?_
      refine plan.Rest.first 5 _ (.pointer (some ⟨j5, 0, none⟩)) rfl (by kernel_rfl) (by kernel_rfl) (by kernel_rfl) (by kernel_rfl) (fun w' hb' => (by kernel_rfl)) ?_
      refine plan.Rest.call 6 _ 23 #[.pointer (some ⟨j5, 0, none⟩)] rfl (by kernel_rfl) (by kernel_rfl) (by kernel_rfl) ((ctn W1 hb).mono ?_)
      rintro e W2 ⟨rfl, m9, hm9⟩
      have hn : Below W1.heap.size W1 W2 := by rw [hm9]; exact below_drewN (Below.refl _ _) _
      clear hm9
      have hb := hb.trans (hn.mono hb.size)
      refine ⟨_, rfl, hn, ?_⟩
      refine plan.Rest.first 7 _ (.bool false) rfl (by kernel_rfl) (by kernel_rfl) (by kernel_rfl) (by kernel_rfl) (fun w' hb' => (by kernel_rfl)) ?_
      refine plan.Rest.skip 8 _ rfl (by kernel_rfl) (by kernel_rfl) (by kernel_rfl) (by kernel_rfl) ?_
      refine plan.Rest.skip 9 _ rfl (by kernel_rfl) (by kernel_rfl) (by kernel_rfl) (by kernel_rfl) ?_
      refine plan.Rest.skip 10 _ rfl (by kernel_rfl) (by kernel_rfl) (by kernel_rfl) (by kernel_rfl) ?_
      refine plan.Rest.skip 11 _ rfl (by kernel_rfl) (by kernel_rfl) (by kernel_rfl) (by kernel_rfl) ?_
      refine plan.Rest.skip 12 _ rfl (by kernel_rfl) (by kernel_rfl) (by kernel_rfl) (by kernel_rfl) ?_
      refine plan.Rest.first 13 _ (.bool false) rfl (by kernel_rfl) (by kernel_rfl) (by kernel_rfl) (by kernel_rfl) (fun w' hb' => (by kernel_rfl)) ?_
      refine plan.Rest.first 14 _ (.bool false) rfl (by kernel_rfl) (by kernel_rfl) (by kernel_rfl) (by kernel_rfl) (fun w' hb' => (by kernel_rfl)) ?_
      refine plan.Rest.done (by kernel_rfl) ?_
      walk_nrm
      obtain ⟨_, _, _, cwr, _⟩ := looks Sm HIM.out HTM.out
      have HKM := hid ((HK15.out.later hyd).stays sm)
      have HSM := hid Sm
      clear Sm sm SEm ctn csqm
      have pm := pair_cells (HKM.out.later hb).p
      have cop := solo_open (HSM.out.later hb) HIM.out.fits HDM.out HIM.out.op
      go_wp2_with (first
        | (go_at_call 24; (first
            | ((with_reducible refine (cwr _ hb).mono ?_); clear cwr; rintro o n1 ⟨rfl, hn1⟩; have pn := pair_cells (HKM.out.later hn1).p; have cop := solo_open (HSM.out.later hn1) HIM.out.fits HDM.out HIM.out.op)
            | ((with_reducible refine (dwr _ ho4).mono ?_); rintro o o5 ⟨rfl, ho5⟩)))
        | (go_at_call 16; (with_reducible refine cop.mono ?_); clear cop; rintro o o1 ⟨j6, rfl, Sk, hbo⟩; have ho1 := hn1.trans (hbo.mono hn1.size); obtain ⟨dtn, dsq, dwh, dwr, did⟩ := looks Sk HIM.out HTM.out; obtain ⟨etn, esq, ewh, _, _⟩ := looks (HSM.out.later ho1) HIM.out HTM.out; have HPO : Hid (∀ w', Below o1.heap.size o1 w' → w'.cell? ⟨pb, 0, none⟩ = some (.pointer (some ⟨b, 0, none⟩))) := (hid fun w' hb => (((HKM.out.later ho1).later hb).p.cell 0)); have HSK := hid Sk; have ho0 := Below.refl o1.heap.size o1; clear Sk)
        | (go_at_call 23; (first
            | ((with_reducible refine (dtn _ ho0).mono ?_); rintro o o2 ⟨rfl, ho2⟩)
            | ((with_reducible refine (etn _ ho2).mono ?_); rintro o o3 ⟨rfl, ho3⟩)))
        | (go_at_call 22; (with_reducible refine (did _ _ (by simp) ho3).mono ?_); rintro o o4 ⟨rfl, ho4⟩; have po := HPO.out o4 ho4)
        | (go_at_call 17; (first
            | ((with_reducible refine (dsq _ ho5).mono ?_); rintro o o6 ⟨rfl, ho6⟩)
            | ((with_reducible refine (esq _ ho6).mono ?_); rintro o o7 ⟨rfl, ho7⟩)))
        | (go_at_call 19; (first
            | ((with_reducible refine (dwh _ ho7).mono ?_); rintro o o8 ⟨x8, k8, rfl, hx8, hb8⟩; have ho8 := ho7.trans (hb8.mono ho7.size))
            | ((with_reducible refine (ewh _ ho8).mono ?_); rintro o o9 ⟨x9, k9, rfl, hx9, hb9⟩; have ho9 := ho8.trans (hb9.mono ho8.size); have csm := same_twice H66.out x8 x9 k8 k9 o9 (hx8.below hb9) hx9)))
        | (go_at_call 18; (with_reducible refine csm.mono ?_); rintro o o10 ⟨rfl, hb10⟩; have ho10 := ho9.trans (hb10.mono ho9.size); have hz10 := HSK.out.below.trans (ho10.mono HSK.out.below.size))
        | (go_at_call 8; (with_reducible refine (ca _ hz10).mono ?_); rintro o o11 ⟨rfl, hb11⟩))
      go_ret
      exact ⟨rfl, HB.out _ hb11⟩
    | true =>
      have hlt : ¬ (J6.p.seq : Int) < g.life := by
        rcases HTM.out with h | h
        · rw [htn] at h; cases h
        · omega
      have hlt2 : decide ((J6.p.seq : Int) < g.life) = false := decide_eq_false hlt
      refine plan.regionT (by kernel_rfl) ?_
      rw [hW0.out]
      refine plan.free 0 _ (.pointer (some ⟨j5, 0, none⟩)) rfl (by kernel_rfl) (by kernel_rfl) (by kernel_rfl) (by kernel_rfl) (fun w' => (by kernel_rfl)) ?_
      refine plan.free 1 _ (.slice x5 n5 k5) rfl (by kernel_rfl) (by kernel_rfl) (by kernel_rfl) (by kernel_rfl) (fun w' => (by kernel_rfl)) ?_
      refine callT 2 _ 22 #[.pointer (some ⟨j5, 0, none⟩), .slice x5 n5 k5] rfl (by kernel_rfl) (by kernel_rfl) (by kernel_rfl) ((HMEND.out W0 x5 k5 hyd hx5d).mono ?_)
      rintro e W1 ⟨rfl, Sm, sm⟩
      have SEm := solo_sees Sm HIM.out.fits HIM.out.sound
      have ctn := SEm.torn
      rw [htn] at ctn
      have csqm := SEm.seq
      have hb := Below.refl W1.heap.size W1
      refine ⟨_, rfl, ?_⟩
      refine plan.Rest.first 3 _ (.bool false) rfl (by kernel_rfl) (by kernel_rfl) (by kernel_rfl) (by kernel_rfl) (fun w' hb' => (by kernel_rfl)) ?_
      refine plan.Rest.first 4 _ (.bool false) rfl (by kernel_rfl) (by kernel_rfl) (by kernel_rfl) (by kernel_rfl) (fun w' hb' => (by kernel_rfl)) ?_
      refine plan.Rest.first 5 _ (.pointer (some ⟨j5, 0, none⟩)) rfl (by kernel_rfl) (by kernel_rfl) (by kernel_rfl) (by kernel_rfl) (fun w' hb' => (by kernel_rfl)) ?_
      refine plan.Rest.call 6 _ 23 #[.pointer (some ⟨j5, 0, none⟩)] rfl (by kernel_rfl) (by kernel_rfl) (by kernel_rfl) ((ctn W1 hb).mono ?_)
      rintro e W2 ⟨rfl, m9, hm9⟩
      have hn : Below W1.heap.size W1 W2 := by rw [hm9]; exact below_drewN (Below.refl _ _) _
      clear hm9
      have hb := hb.trans (hn.mono hb.size)
      refine ⟨_, rfl, hn, ?_⟩
      refine plan.Rest.first 7 _ (.bool true) rfl (by kernel_rfl) (by kernel_rfl) (by kernel_rfl) (by kernel_rfl) (fun w' hb' => (by kernel_rfl)) ?_
      refine plan.Rest.first 8 _ (.pointer (some ⟨j5, 0, none⟩)) rfl (by kernel_rfl) (by kernel_rfl) (by kernel_rfl) (by kernel_rfl) (fun w' hb' => (by kernel_rfl)) ?_
      refine plan.Rest.first 10 _ (.pointer (some ⟨w.heap.size, 5, none⟩)) rfl (by kernel_rfl) (by kernel_rfl) (by kernel_rfl) (by kernel_rfl) (fun w' hb' => (by kernel_rfl)) ?_
      refine plan.Rest.first 11 _ (.int .i64 g.life) rfl (by kernel_rfl) (by kernel_rfl) (by kernel_rfl) (by kernel_rfl) (fun w' hb' => exec_loadN (ad := ⟨w.heap.size, 5, none⟩) rfl (by kernel_rfl) (HS.out w' (Sm.below.trans ((hb.trans (hb'.mono hb.size)).mono Sm.below.size))).2.2.2.2.2) ?_
      refine plan.Rest.call 9 _ 17 #[.pointer (some ⟨j5, 0, none⟩)] rfl (by kernel_rfl) (by kernel_rfl) (by kernel_rfl) ((csqm W2 hb).mono ?_)
      rintro e W3 ⟨rfl, m9, hm9⟩
      have hn : Below W2.heap.size W2 W3 := by rw [hm9]; exact below_drewN (Below.refl _ _) _
      clear hm9
      have hb := hb.trans (hn.mono hb.size)
      refine ⟨_, rfl, hn, ?_⟩
      refine plan.Rest.first 12 _ (.bool false) rfl (by kernel_rfl) (by kernel_rfl) (by kernel_rfl) (by kernel_rfl) (fun w' hb' => exec_ltI (n := (J6.p.seq : Int)) (m := g.life) rfl (by kernel_rfl) (by kernel_rfl) hlt) ?_
      refine plan.Rest.first 13 _ (.bool false) rfl (by kernel_rfl) (by kernel_rfl) (by kernel_rfl) (by kernel_rfl) (fun w' hb' => (by kernel_rfl)) ?_
      refine plan.Rest.first 14 _ (.bool false) rfl (by kernel_rfl) (by kernel_rfl) (by kernel_rfl) (by kernel_rfl) (fun w' hb' => (by kernel_rfl)) ?_
      refine plan.Rest.done (by kernel_rfl) ?_
      walk_nrm
      obtain ⟨_, _, _, cwr, _⟩ := looks Sm HIM.out HTM.out
      have HKM := hid ((HK15.out.later hyd).stays sm)
      have HSM := hid Sm
      clear Sm sm SEm ctn csqm
      have pm := pair_cells (HKM.out.later hb).p
      have cop := solo_open (HSM.out.later hb) HIM.out.fits HDM.out HIM.out.op
      go_wp2_with (first
        | (go_at_call 24; (first
            | ((with_reducible refine (cwr _ hb).mono ?_); clear cwr; rintro o n1 ⟨rfl, hn1⟩; have pn := pair_cells (HKM.out.later hn1).p; have cop := solo_open (HSM.out.later hn1) HIM.out.fits HDM.out HIM.out.op)
            | ((with_reducible refine (dwr _ ho4).mono ?_); rintro o o5 ⟨rfl, ho5⟩)))
        | (go_at_call 16; (with_reducible refine cop.mono ?_); clear cop; rintro o o1 ⟨j6, rfl, Sk, hbo⟩; have ho1 := hn1.trans (hbo.mono hn1.size); obtain ⟨dtn, dsq, dwh, dwr, did⟩ := looks Sk HIM.out HTM.out; obtain ⟨etn, esq, ewh, _, _⟩ := looks (HSM.out.later ho1) HIM.out HTM.out; have HPO : Hid (∀ w', Below o1.heap.size o1 w' → w'.cell? ⟨pb, 0, none⟩ = some (.pointer (some ⟨b, 0, none⟩))) := (hid fun w' hb => (((HKM.out.later ho1).later hb).p.cell 0)); have HSK := hid Sk; have ho0 := Below.refl o1.heap.size o1; clear Sk)
        | (go_at_call 23; (first
            | ((with_reducible refine (dtn _ ho0).mono ?_); rintro o o2 ⟨rfl, ho2⟩)
            | ((with_reducible refine (etn _ ho2).mono ?_); rintro o o3 ⟨rfl, ho3⟩)))
        | (go_at_call 22; (with_reducible refine (did _ _ (by simp) ho3).mono ?_); rintro o o4 ⟨rfl, ho4⟩; have po := HPO.out o4 ho4)
        | (go_at_call 17; (first
            | ((with_reducible refine (dsq _ ho5).mono ?_); rintro o o6 ⟨rfl, ho6⟩)
            | ((with_reducible refine (esq _ ho6).mono ?_); rintro o o7 ⟨rfl, ho7⟩)))
        | (go_at_call 19; (first
            | ((with_reducible refine (dwh _ ho7).mono ?_); rintro o o8 ⟨x8, k8, rfl, hx8, hb8⟩; have ho8 := ho7.trans (hb8.mono ho7.size))
            | ((with_reducible refine (ewh _ ho8).mono ?_); rintro o o9 ⟨x9, k9, rfl, hx9, hb9⟩; have ho9 := ho8.trans (hb9.mono ho8.size); have csm := same_twice H66.out x8 x9 k8 k9 o9 (hx8.below hb9) hx9)))
        | (go_at_call 18; (with_reducible refine csm.mono ?_); rintro o o10 ⟨rfl, hb10⟩; have ho10 := ho9.trans (hb10.mono ho9.size); have hz10 := HSK.out.below.trans (ho10.mono HSK.out.below.size))
        | (go_at_call 8; (with_reducible refine (ca _ hz10).mono ?_); rintro o o11 ⟨rfl, hb11⟩))
      go_ret
      exact ⟨rfl, HB.out _ hb11⟩
  · obtain ⟨csq2, cwh2, cs12, cch2, cs22⟩ := cmp_calls HS15.out HI5.out.fits rfl HI5.out.sound e1 hW2.1 hW2.2 wc2 cc2
    obtain ⟨csq, cwh, cs1, cch, cs2⟩ := cmp_calls HS15.out HI5.out.fits rfl HI5.out.sound e2 hW1.1 hW1.2 wc cc
    clear hW1 hW2 p10 a10 b10 p11 a11 p12 a12 p13 a13 p14
    clear e1 e2
    generalize (J2.p.seq : Int) = sq1 at *
    generalize (D.p.seq : Int) = sq2 at *
    generalize J2.p.whole.length = nw1 at *
    generalize J2.p.changes.length = nc1 at *
    generalize D.p.whole.length = nw2 at *
    generalize D.p.changes.length = nc2 at *
    go_region_held3 (fun w' => (w'.cell? ⟨bb, 4, none⟩ = some (.int .i64 sq1) ∧ w'.cell? ⟨bb, 5, none⟩ = some (.slice wa nw1 wc) ∧ w'.cell? ⟨bb, 6, none⟩ = some (.slice ca1 nc1 cc))) (first | assumption | go_keep) (first
      | (go_at_call 17; (with_reducible refine (csq _ hbd).mono ?_); rintro o v1 ⟨rfl, hv1⟩; have kv1 := HB15.out v1 hv1)
      | (go_at_call 19; (with_reducible refine (cwh _ hv1).mono ?_); rintro o v2 ⟨vx2, vy2, rfl, vhx2, hv2⟩; have kv2 := HB15.out v2 hv2)
      | (go_at_call 18; (with_reducible refine (cs1 _ _ _ vhx2 hv2).mono ?_); rintro o v3 ⟨rfl, hv3⟩; have kv3 := HB15.out v3 hv3)
      | (go_at_call 21; (with_reducible refine (cch _ hv3).mono ?_); rintro o v4 ⟨vx4, rfl, vhx4, hv4⟩; have kv4 := HB15.out v4 hv4)
      | (go_at_call 20; (with_reducible refine (cs2 _ _ vhx4 hv4).mono ?_); rintro o v5 ⟨rfl, hv5⟩; have kv5 := HB15.out v5 hv5))
    have hbe : Below w15.heap.size w15 v5.drew := below_drewN hv5 1
    have ke := HR15.out _ hbe
    go_wp2
    go_region_held3 (fun w' => (w'.cell? ⟨pb, 3, none⟩ = some (.pointer (some ⟨r4, 0, none⟩)) ∧ w'.cell? ⟨r4, 4, none⟩ = some (.int .i64 sq2) ∧ w'.cell? ⟨r4, 5, none⟩ = some (.slice wa2 nw2 wc2) ∧ w'.cell? ⟨r4, 6, none⟩ = some (.slice ca2 nc2 cc2))) (first | assumption | go_keep) (first
      | (go_at_call 17; (with_reducible refine (csq2 _ hbe).mono ?_); rintro o u1 ⟨rfl, hu1⟩; have ku1 := HR15.out u1 hu1)
      | (go_at_call 19; (with_reducible refine (cwh2 _ hu1).mono ?_); rintro o u2 ⟨ux2, uy2, rfl, uhx2, hu2⟩; have ku2 := HR15.out u2 hu2)
      | (go_at_call 18; (with_reducible refine (cs12 _ _ _ uhx2 hu2).mono ?_); rintro o u3 ⟨rfl, hu3⟩; have ku3 := HR15.out u3 hu3)
      | (go_at_call 21; (with_reducible refine (cch2 _ hu3).mono ?_); rintro o u4 ⟨ux4, rfl, uhx4, hu4⟩; have ku4 := HR15.out u4 hu4)
      | (go_at_call 20; (with_reducible refine (cs22 _ _ uhx4 hu4).mono ?_); rintro o u5 ⟨rfl, hu5⟩; have ku5 := HR15.out u5 hu5))
    by_cases hz : RR.1 = 10
    · rw [hz]
      go_wp2_with (go_at_call 19; (with_reducible refine (cw5 _ hu5).mono ?_); rintro o y1 ⟨x5, k5, rfl, hx5, hy1⟩)
      have hyd0 : Below w15.heap.size w15 y1.drew := below_drewN hy1 1
      have hyy : Below y1.heap.size y1 y1.drew := below_drewN (Below.refl _ _) 1
      have hx5d := hx5.below hyy
      obtain ⟨W0, hW0⟩ : ∃ z, Hid (y1.drew = z) := ⟨_, rfl⟩
      have hyd := hyd0
      rw [hW0.out] at hyd hx5d
      clear cw5 hx5
      cases htn : J6.torn with
      | false =>
        refine plan.regionT (by kernel_rfl) ?_
        rw [hW0.out]
        refine plan.free 0 _ (.pointer (some ⟨j5, 0, none⟩)) rfl (by kernel_rfl) (by kernel_rfl) (by kernel_rfl) (by kernel_rfl) (fun w' => (by kernel_rfl)) ?_
        refine plan.free 1 _ (.slice x5 n5 k5) rfl (by kernel_rfl) (by kernel_rfl) (by kernel_rfl) (by kernel_rfl) (fun w' => (by kernel_rfl)) ?_
        refine callT 2 _ 22 #[.pointer (some ⟨j5, 0, none⟩), .slice x5 n5 k5] rfl (by kernel_rfl) (by kernel_rfl) (by kernel_rfl) ((HMEND.out W0 x5 k5 hyd hx5d).mono ?_)
        rintro e W1 ⟨rfl, Sm, sm⟩
        have SEm := solo_sees Sm HIM.out.fits HIM.out.sound
        have ctn := SEm.torn
        rw [htn] at ctn
        have csqm := SEm.seq
        have hb := Below.refl W1.heap.size W1
        refine ⟨_, rfl, ?_⟩
        refine plan.Rest.first 3 _ (.bool false) rfl (by kernel_rfl) (by kernel_rfl) (by kernel_rfl) (by kernel_rfl) (fun w' hb' => (by kernel_rfl)) ?_
        refine plan.Rest.first 4 _ (.bool false) rfl (by kernel_rfl) (by kernel_rfl) (by kernel_rfl) (by kernel_rfl) (fun w' hb' => (by kernel_rfl)) ?_
        refine plan.Rest.first 5 _ (.pointer (some ⟨j5, 0, none⟩)) rfl (by kernel_rfl) (by kernel_rfl) (by kernel_rfl) (by kernel_rfl) (fun w' hb' => (by kernel_rfl)) ?_
        refine plan.Rest.call 6 _ 23 #[.pointer (some ⟨j5, 0, none⟩)] rfl (by kernel_rfl) (by kernel_rfl) (by kernel_rfl) ((ctn W1 hb).mono ?_)
        rintro e W2 ⟨rfl, m9, hm9⟩
        have hn : Below W1.heap.size W1 W2 := by rw [hm9]; exact below_drewN (Below.refl _ _) _
        clear hm9
        have hb := hb.trans (hn.mono hb.size)
        refine ⟨_, rfl, hn, ?_⟩
        refine plan.Rest.first 7 _ (.bool false) rfl (by kernel_rfl) (by kernel_rfl) (by kernel_rfl) (by kernel_rfl) (fun w' hb' => (by kernel_rfl)) ?_
        refine plan.Rest.skip 8 _ rfl (by kernel_rfl) (by kernel_rfl) (by kernel_rfl) (by kernel_rfl) ?_
        refine plan.Rest.skip 9 _ rfl (by kernel_rfl) (by kernel_rfl) (by kernel_rfl) (by kernel_rfl) ?_
        refine plan.Rest.skip 10 _ rfl (by kernel_rfl) (by kernel_rfl) (by kernel_rfl) (by kernel_rfl) ?_
        refine plan.Rest.skip 11 _ rfl (by kernel_rfl) (by kernel_rfl) (by kernel_rfl) (by kernel_rfl) ?_
        refine plan.Rest.skip 12 _ rfl (by kernel_rfl) (by kernel_rfl) (by kernel_rfl) (by kernel_rfl) ?_
        refine plan.Rest.first 13 _ (.bool false) rfl (by kernel_rfl) (by kernel_rfl) (by kernel_rfl) (by kernel_rfl) (fun w' hb' => (by kernel_rfl)) ?_
        refine plan.Rest.first 14 _ (.bool false) rfl (by kernel_rfl) (by kernel_rfl) (by kernel_rfl) (by kernel_rfl) (fun w' hb' => (by kernel_rfl)) ?_
        refine plan.Rest.done (by kernel_rfl) ?_
        walk_nrm
        obtain ⟨_, _, _, cwr, _⟩ := looks Sm HIM.out HTM.out
        have HKM := hid ((HK15.out.later hyd).stays sm)
        have HSM := hid Sm
        clear Sm sm SEm ctn csqm
        have pm := pair_cells (HKM.out.later hb).p
        have cop := solo_open (HSM.out.later hb) HIM.out.fits HDM.out HIM.out.op
        go_wp2_with (first
          | (go_at_call 24; (first
              | ((with_reducible refine (cwr _ hb).mono ?_); clear cwr; rintro o n1 ⟨rfl, hn1⟩; have pn := pair_cells (HKM.out.later hn1).p; have cop := solo_open (HSM.out.later hn1) HIM.out.fits HDM.out HIM.out.op)
              | ((with_reducible refine (dwr _ ho4).mono ?_); rintro o o5 ⟨rfl, ho5⟩)))
          | (go_at_call 16; (with_reducible refine cop.mono ?_); clear cop; rintro o o1 ⟨j6, rfl, Sk, hbo⟩; have ho1 := hn1.trans (hbo.mono hn1.size); obtain ⟨dtn, dsq, dwh, dwr, did⟩ := looks Sk HIM.out HTM.out; obtain ⟨etn, esq, ewh, _, _⟩ := looks (HSM.out.later ho1) HIM.out HTM.out; have HPO : Hid (∀ w', Below o1.heap.size o1 w' → w'.cell? ⟨pb, 0, none⟩ = some (.pointer (some ⟨b, 0, none⟩))) := (hid fun w' hb => (((HKM.out.later ho1).later hb).p.cell 0)); have HSK := hid Sk; have ho0 := Below.refl o1.heap.size o1; clear Sk)
          | (go_at_call 23; (first
              | ((with_reducible refine (dtn _ ho0).mono ?_); rintro o o2 ⟨rfl, ho2⟩)
              | ((with_reducible refine (etn _ ho2).mono ?_); rintro o o3 ⟨rfl, ho3⟩)))
          | (go_at_call 22; (with_reducible refine (did _ _ (by simp) ho3).mono ?_); rintro o o4 ⟨rfl, ho4⟩; have po := HPO.out o4 ho4)
          | (go_at_call 17; (first
              | ((with_reducible refine (dsq _ ho5).mono ?_); rintro o o6 ⟨rfl, ho6⟩)
              | ((with_reducible refine (esq _ ho6).mono ?_); rintro o o7 ⟨rfl, ho7⟩)))
          | (go_at_call 19; (first
              | ((with_reducible refine (dwh _ ho7).mono ?_); rintro o o8 ⟨x8, k8, rfl, hx8, hb8⟩; have ho8 := ho7.trans (hb8.mono ho7.size))
              | ((with_reducible refine (ewh _ ho8).mono ?_); rintro o o9 ⟨x9, k9, rfl, hx9, hb9⟩; have ho9 := ho8.trans (hb9.mono ho8.size); have csm := same_twice H66.out x8 x9 k8 k9 o9 (hx8.below hb9) hx9)))
          | (go_at_call 18; (with_reducible refine csm.mono ?_); rintro o o10 ⟨rfl, hb10⟩; have ho10 := ho9.trans (hb10.mono ho9.size); have hz10 := HSK.out.below.trans (ho10.mono HSK.out.below.size))
          | (go_at_call 8; (with_reducible refine (ca _ hz10).mono ?_); rintro o o11 ⟨rfl, hb11⟩))
        go_ret
        exact ⟨rfl, HB.out _ hb11⟩
      | true =>
        have hlt : ¬ (J6.p.seq : Int) < g.life := by
          rcases HTM.out with h | h
          · rw [htn] at h; cases h
          · omega
        have hlt2 : decide ((J6.p.seq : Int) < g.life) = false := decide_eq_false hlt
        refine plan.regionT (by kernel_rfl) ?_
        rw [hW0.out]
        refine plan.free 0 _ (.pointer (some ⟨j5, 0, none⟩)) rfl (by kernel_rfl) (by kernel_rfl) (by kernel_rfl) (by kernel_rfl) (fun w' => (by kernel_rfl)) ?_
        refine plan.free 1 _ (.slice x5 n5 k5) rfl (by kernel_rfl) (by kernel_rfl) (by kernel_rfl) (by kernel_rfl) (fun w' => (by kernel_rfl)) ?_
        refine callT 2 _ 22 #[.pointer (some ⟨j5, 0, none⟩), .slice x5 n5 k5] rfl (by kernel_rfl) (by kernel_rfl) (by kernel_rfl) ((HMEND.out W0 x5 k5 hyd hx5d).mono ?_)
        rintro e W1 ⟨rfl, Sm, sm⟩
        have SEm := solo_sees Sm HIM.out.fits HIM.out.sound
        have ctn := SEm.torn
        rw [htn] at ctn
        have csqm := SEm.seq
        have hb := Below.refl W1.heap.size W1
        refine ⟨_, rfl, ?_⟩
        refine plan.Rest.first 3 _ (.bool false) rfl (by kernel_rfl) (by kernel_rfl) (by kernel_rfl) (by kernel_rfl) (fun w' hb' => (by kernel_rfl)) ?_
        refine plan.Rest.first 4 _ (.bool false) rfl (by kernel_rfl) (by kernel_rfl) (by kernel_rfl) (by kernel_rfl) (fun w' hb' => (by kernel_rfl)) ?_
        refine plan.Rest.first 5 _ (.pointer (some ⟨j5, 0, none⟩)) rfl (by kernel_rfl) (by kernel_rfl) (by kernel_rfl) (by kernel_rfl) (fun w' hb' => (by kernel_rfl)) ?_
        refine plan.Rest.call 6 _ 23 #[.pointer (some ⟨j5, 0, none⟩)] rfl (by kernel_rfl) (by kernel_rfl) (by kernel_rfl) ((ctn W1 hb).mono ?_)
        rintro e W2 ⟨rfl, m9, hm9⟩
        have hn : Below W1.heap.size W1 W2 := by rw [hm9]; exact below_drewN (Below.refl _ _) _
        clear hm9
        have hb := hb.trans (hn.mono hb.size)
        refine ⟨_, rfl, hn, ?_⟩
        refine plan.Rest.first 7 _ (.bool true) rfl (by kernel_rfl) (by kernel_rfl) (by kernel_rfl) (by kernel_rfl) (fun w' hb' => (by kernel_rfl)) ?_
        refine plan.Rest.first 8 _ (.pointer (some ⟨j5, 0, none⟩)) rfl (by kernel_rfl) (by kernel_rfl) (by kernel_rfl) (by kernel_rfl) (fun w' hb' => (by kernel_rfl)) ?_
        refine plan.Rest.first 10 _ (.pointer (some ⟨w.heap.size, 5, none⟩)) rfl (by kernel_rfl) (by kernel_rfl) (by kernel_rfl) (by kernel_rfl) (fun w' hb' => (by kernel_rfl)) ?_
        refine plan.Rest.first 11 _ (.int .i64 g.life) rfl (by kernel_rfl) (by kernel_rfl) (by kernel_rfl) (by kernel_rfl) (fun w' hb' => exec_loadN (ad := ⟨w.heap.size, 5, none⟩) rfl (by kernel_rfl) (HS.out w' (Sm.below.trans ((hb.trans (hb'.mono hb.size)).mono Sm.below.size))).2.2.2.2.2) ?_
        refine plan.Rest.call 9 _ 17 #[.pointer (some ⟨j5, 0, none⟩)] rfl (by kernel_rfl) (by kernel_rfl) (by kernel_rfl) ((csqm W2 hb).mono ?_)
        rintro e W3 ⟨rfl, m9, hm9⟩
        have hn : Below W2.heap.size W2 W3 := by rw [hm9]; exact below_drewN (Below.refl _ _) _
        clear hm9
        have hb := hb.trans (hn.mono hb.size)
        refine ⟨_, rfl, hn, ?_⟩
        refine plan.Rest.first 12 _ (.bool false) rfl (by kernel_rfl) (by kernel_rfl) (by kernel_rfl) (by kernel_rfl) (fun w' hb' => exec_ltI (n := (J6.p.seq : Int)) (m := g.life) rfl (by kernel_rfl) (by kernel_rfl) hlt) ?_
        refine plan.Rest.first 13 _ (.bool false) rfl (by kernel_rfl) (by kernel_rfl) (by kernel_rfl) (by kernel_rfl) (fun w' hb' => (by kernel_rfl)) ?_
        refine plan.Rest.first 14 _ (.bool false) rfl (by kernel_rfl) (by kernel_rfl) (by kernel_rfl) (by kernel_rfl) (fun w' hb' => (by kernel_rfl)) ?_
        refine plan.Rest.done (by kernel_rfl) ?_
        walk_nrm
        obtain ⟨_, _, _, cwr, _⟩ := looks Sm HIM.out HTM.out
        have HKM := hid ((HK15.out.later hyd).stays sm)
        have HSM := hid Sm
        clear Sm sm SEm ctn csqm
        have pm := pair_cells (HKM.out.later hb).p
        have cop := solo_open (HSM.out.later hb) HIM.out.fits HDM.out HIM.out.op
        go_wp2_with (first
          | (go_at_call 24; (first
              | ((with_reducible refine (cwr _ hb).mono ?_); clear cwr; rintro o n1 ⟨rfl, hn1⟩; have pn := pair_cells (HKM.out.later hn1).p; have cop := solo_open (HSM.out.later hn1) HIM.out.fits HDM.out HIM.out.op)
              | ((with_reducible refine (dwr _ ho4).mono ?_); rintro o o5 ⟨rfl, ho5⟩)))
          | (go_at_call 16; (with_reducible refine cop.mono ?_); clear cop; rintro o o1 ⟨j6, rfl, Sk, hbo⟩; have ho1 := hn1.trans (hbo.mono hn1.size); obtain ⟨dtn, dsq, dwh, dwr, did⟩ := looks Sk HIM.out HTM.out; obtain ⟨etn, esq, ewh, _, _⟩ := looks (HSM.out.later ho1) HIM.out HTM.out; have HPO : Hid (∀ w', Below o1.heap.size o1 w' → w'.cell? ⟨pb, 0, none⟩ = some (.pointer (some ⟨b, 0, none⟩))) := (hid fun w' hb => (((HKM.out.later ho1).later hb).p.cell 0)); have HSK := hid Sk; have ho0 := Below.refl o1.heap.size o1; clear Sk)
          | (go_at_call 23; (first
              | ((with_reducible refine (dtn _ ho0).mono ?_); rintro o o2 ⟨rfl, ho2⟩)
              | ((with_reducible refine (etn _ ho2).mono ?_); rintro o o3 ⟨rfl, ho3⟩)))
          | (go_at_call 22; (with_reducible refine (did _ _ (by simp) ho3).mono ?_); rintro o o4 ⟨rfl, ho4⟩; have po := HPO.out o4 ho4)
          | (go_at_call 17; (first
              | ((with_reducible refine (dsq _ ho5).mono ?_); rintro o o6 ⟨rfl, ho6⟩)
              | ((with_reducible refine (esq _ ho6).mono ?_); rintro o o7 ⟨rfl, ho7⟩)))
          | (go_at_call 19; (first
              | ((with_reducible refine (dwh _ ho7).mono ?_); rintro o o8 ⟨x8, k8, rfl, hx8, hb8⟩; have ho8 := ho7.trans (hb8.mono ho7.size))
              | ((with_reducible refine (ewh _ ho8).mono ?_); rintro o o9 ⟨x9, k9, rfl, hx9, hb9⟩; have ho9 := ho8.trans (hb9.mono ho8.size); have csm := same_twice H66.out x8 x9 k8 k9 o9 (hx8.below hb9) hx9)))
          | (go_at_call 18; (with_reducible refine csm.mono ?_); rintro o o10 ⟨rfl, hb10⟩; have ho10 := ho9.trans (hb10.mono ho9.size); have hz10 := HSK.out.below.trans (ho10.mono HSK.out.below.size))
          | (go_at_call 8; (with_reducible refine (ca _ hz10).mono ?_); rintro o o11 ⟨rfl, hb11⟩))
        go_ret
        exact ⟨rfl, HB.out _ hb11⟩
    · have hz2 : (RR.1 != 10) = true := by simpa using hz
      go_wp2_with (go_at_call 19; (with_reducible refine (cw5 _ hu5).mono ?_); rintro o y1 ⟨x5, k5, rfl, hx5, hy1⟩)
      have hyd0 : Below w15.heap.size w15 y1.drew := below_drewN hy1 1
      have hyy : Below y1.heap.size y1 y1.drew := below_drewN (Below.refl _ _) 1
      have hx5d := hx5.below hyy
      obtain ⟨W0, hW0⟩ : ∃ z, Hid (y1.drew = z) := ⟨_, rfl⟩
      have hyd := hyd0
      rw [hW0.out] at hyd hx5d
      clear cw5 hx5
      cases htn : J6.torn with
      | false =>
        refine plan.regionT (by kernel_rfl) ?_
        rw [hW0.out]
        refine plan.free 0 _ (.pointer (some ⟨j5, 0, none⟩)) rfl (by kernel_rfl) (by kernel_rfl) (by kernel_rfl) (by kernel_rfl) (fun w' => (by kernel_rfl)) ?_
        refine plan.free 1 _ (.slice x5 n5 k5) rfl (by kernel_rfl) (by kernel_rfl) (by kernel_rfl) (by kernel_rfl) (fun w' => (by kernel_rfl)) ?_
        refine callT 2 _ 22 #[.pointer (some ⟨j5, 0, none⟩), .slice x5 n5 k5] rfl (by kernel_rfl) (by kernel_rfl) (by kernel_rfl) ((HMEND.out W0 x5 k5 hyd hx5d).mono ?_)
        rintro e W1 ⟨rfl, Sm, sm⟩
        have SEm := solo_sees Sm HIM.out.fits HIM.out.sound
        have ctn := SEm.torn
        rw [htn] at ctn
        have csqm := SEm.seq
        have hb := Below.refl W1.heap.size W1
        refine ⟨_, rfl, ?_⟩
        refine plan.Rest.first 3 _ (.bool false) rfl (by kernel_rfl) (by kernel_rfl) (by kernel_rfl) (by kernel_rfl) (fun w' hb' => (by kernel_rfl)) ?_
        refine plan.Rest.first 4 _ (.bool false) rfl (by kernel_rfl) (by kernel_rfl) (by kernel_rfl) (by kernel_rfl) (fun w' hb' => (by kernel_rfl)) ?_
        refine plan.Rest.first 5 _ (.pointer (some ⟨j5, 0, none⟩)) rfl (by kernel_rfl) (by kernel_rfl) (by kernel_rfl) (by kernel_rfl) (fun w' hb' => (by kernel_rfl)) ?_
        refine plan.Rest.call 6 _ 23 #[.pointer (some ⟨j5, 0, none⟩)] rfl (by kernel_rfl) (by kernel_rfl) (by kernel_rfl) ((ctn W1 hb).mono ?_)
        rintro e W2 ⟨rfl, m9, hm9⟩
        have hn : Below W1.heap.size W1 W2 := by rw [hm9]; exact below_drewN (Below.refl _ _) _
        clear hm9
        have hb := hb.trans (hn.mono hb.size)
        refine ⟨_, rfl, hn, ?_⟩
        refine plan.Rest.first 7 _ (.bool false) rfl (by kernel_rfl) (by kernel_rfl) (by kernel_rfl) (by kernel_rfl) (fun w' hb' => (by kernel_rfl)) ?_
        refine plan.Rest.skip 8 _ rfl (by kernel_rfl) (by kernel_rfl) (by kernel_rfl) (by kernel_rfl) ?_
        refine plan.Rest.skip 9 _ rfl (by kernel_rfl) (by kernel_rfl) (by kernel_rfl) (by kernel_rfl) ?_
        refine plan.Rest.skip 10 _ rfl (by kernel_rfl) (by kernel_rfl) (by kernel_rfl) (by kernel_rfl) ?_
        refine plan.Rest.skip 11 _ rfl (by kernel_rfl) (by kernel_rfl) (by kernel_rfl) (by kernel_rfl) ?_
        refine plan.Rest.skip 12 _ rfl (by kernel_rfl) (by kernel_rfl) (by kernel_rfl) (by kernel_rfl) ?_
        refine plan.Rest.first 13 _ (.bool false) rfl (by kernel_rfl) (by kernel_rfl) (by kernel_rfl) (by kernel_rfl) (fun w' hb' => (by kernel_rfl)) ?_
        refine plan.Rest.first 14 _ (.bool false) rfl (by kernel_rfl) (by kernel_rfl) (by kernel_rfl) (by kernel_rfl) (fun w' hb' => (by kernel_rfl)) ?_
        refine plan.Rest.done (by kernel_rfl) ?_
        walk_nrm
        obtain ⟨_, _, _, cwr, _⟩ := looks Sm HIM.out HTM.out
        have HKM := hid ((HK15.out.later hyd).stays sm)
        have HSM := hid Sm
        clear Sm sm SEm ctn csqm
        have pm := pair_cells (HKM.out.later hb).p
        have cop := solo_open (HSM.out.later hb) HIM.out.fits HDM.out HIM.out.op
        go_wp2_with (first
          | (go_at_call 24; (first
              | ((with_reducible refine (cwr _ hb).mono ?_); clear cwr; rintro o n1 ⟨rfl, hn1⟩; have pn := pair_cells (HKM.out.later hn1).p; have cop := solo_open (HSM.out.later hn1) HIM.out.fits HDM.out HIM.out.op)
              | ((with_reducible refine (dwr _ ho4).mono ?_); rintro o o5 ⟨rfl, ho5⟩)))
          | (go_at_call 16; (with_reducible refine cop.mono ?_); clear cop; rintro o o1 ⟨j6, rfl, Sk, hbo⟩; have ho1 := hn1.trans (hbo.mono hn1.size); obtain ⟨dtn, dsq, dwh, dwr, did⟩ := looks Sk HIM.out HTM.out; obtain ⟨etn, esq, ewh, _, _⟩ := looks (HSM.out.later ho1) HIM.out HTM.out; have HPO : Hid (∀ w', Below o1.heap.size o1 w' → w'.cell? ⟨pb, 0, none⟩ = some (.pointer (some ⟨b, 0, none⟩))) := (hid fun w' hb => (((HKM.out.later ho1).later hb).p.cell 0)); have HSK := hid Sk; have ho0 := Below.refl o1.heap.size o1; clear Sk)
          | (go_at_call 23; (first
              | ((with_reducible refine (dtn _ ho0).mono ?_); rintro o o2 ⟨rfl, ho2⟩)
              | ((with_reducible refine (etn _ ho2).mono ?_); rintro o o3 ⟨rfl, ho3⟩)))
          | (go_at_call 22; (with_reducible refine (did _ _ (by simp) ho3).mono ?_); rintro o o4 ⟨rfl, ho4⟩; have po := HPO.out o4 ho4)
          | (go_at_call 17; (first
              | ((with_reducible refine (dsq _ ho5).mono ?_); rintro o o6 ⟨rfl, ho6⟩)
              | ((with_reducible refine (esq _ ho6).mono ?_); rintro o o7 ⟨rfl, ho7⟩)))
          | (go_at_call 19; (first
              | ((with_reducible refine (dwh _ ho7).mono ?_); rintro o o8 ⟨x8, k8, rfl, hx8, hb8⟩; have ho8 := ho7.trans (hb8.mono ho7.size))
              | ((with_reducible refine (ewh _ ho8).mono ?_); rintro o o9 ⟨x9, k9, rfl, hx9, hb9⟩; have ho9 := ho8.trans (hb9.mono ho8.size); have csm := same_twice H66.out x8 x9 k8 k9 o9 (hx8.below hb9) hx9)))
          | (go_at_call 18; (with_reducible refine csm.mono ?_); rintro o o10 ⟨rfl, hb10⟩; have ho10 := ho9.trans (hb10.mono ho9.size); have hz10 := HSK.out.below.trans (ho10.mono HSK.out.below.size))
          | (go_at_call 8; (with_reducible refine (ca _ hz10).mono ?_); rintro o o11 ⟨rfl, hb11⟩))
        go_ret
        exact ⟨rfl, HB.out _ hb11⟩
      | true =>
        have hlt : ¬ (J6.p.seq : Int) < g.life := by
          rcases HTM.out with h | h
          · rw [htn] at h; cases h
          · omega
        have hlt2 : decide ((J6.p.seq : Int) < g.life) = false := decide_eq_false hlt
        refine plan.regionT (by kernel_rfl) ?_
        rw [hW0.out]
        refine plan.free 0 _ (.pointer (some ⟨j5, 0, none⟩)) rfl (by kernel_rfl) (by kernel_rfl) (by kernel_rfl) (by kernel_rfl) (fun w' => (by kernel_rfl)) ?_
        refine plan.free 1 _ (.slice x5 n5 k5) rfl (by kernel_rfl) (by kernel_rfl) (by kernel_rfl) (by kernel_rfl) (fun w' => (by kernel_rfl)) ?_
        refine callT 2 _ 22 #[.pointer (some ⟨j5, 0, none⟩), .slice x5 n5 k5] rfl (by kernel_rfl) (by kernel_rfl) (by kernel_rfl) ((HMEND.out W0 x5 k5 hyd hx5d).mono ?_)
        rintro e W1 ⟨rfl, Sm, sm⟩
        have SEm := solo_sees Sm HIM.out.fits HIM.out.sound
        have ctn := SEm.torn
        rw [htn] at ctn
        have csqm := SEm.seq
        have hb := Below.refl W1.heap.size W1
        refine ⟨_, rfl, ?_⟩
        refine plan.Rest.first 3 _ (.bool false) rfl (by kernel_rfl) (by kernel_rfl) (by kernel_rfl) (by kernel_rfl) (fun w' hb' => (by kernel_rfl)) ?_
        refine plan.Rest.first 4 _ (.bool false) rfl (by kernel_rfl) (by kernel_rfl) (by kernel_rfl) (by kernel_rfl) (fun w' hb' => (by kernel_rfl)) ?_
        refine plan.Rest.first 5 _ (.pointer (some ⟨j5, 0, none⟩)) rfl (by kernel_rfl) (by kernel_rfl) (by kernel_rfl) (by kernel_rfl) (fun w' hb' => (by kernel_rfl)) ?_
        refine plan.Rest.call 6 _ 23 #[.pointer (some ⟨j5, 0, none⟩)] rfl (by kernel_rfl) (by kernel_rfl) (by kernel_rfl) ((ctn W1 hb).mono ?_)
        rintro e W2 ⟨rfl, m9, hm9⟩
        have hn : Below W1.heap.size W1 W2 := by rw [hm9]; exact below_drewN (Below.refl _ _) _
        clear hm9
        have hb := hb.trans (hn.mono hb.size)
        refine ⟨_, rfl, hn, ?_⟩
        refine plan.Rest.first 7 _ (.bool true) rfl (by kernel_rfl) (by kernel_rfl) (by kernel_rfl) (by kernel_rfl) (fun w' hb' => (by kernel_rfl)) ?_
        refine plan.Rest.first 8 _ (.pointer (some ⟨j5, 0, none⟩)) rfl (by kernel_rfl) (by kernel_rfl) (by kernel_rfl) (by kernel_rfl) (fun w' hb' => (by kernel_rfl)) ?_
        refine plan.Rest.first 10 _ (.pointer (some ⟨w.heap.size, 5, none⟩)) rfl (by kernel_rfl) (by kernel_rfl) (by kernel_rfl) (by kernel_rfl) (fun w' hb' => (by kernel_rfl)) ?_
        refine plan.Rest.first 11 _ (.int .i64 g.life) rfl (by kernel_rfl) (by kernel_rfl) (by kernel_rfl) (by kernel_rfl) (fun w' hb' => exec_loadN (ad := ⟨w.heap.size, 5, none⟩) rfl (by kernel_rfl) (HS.out w' (Sm.below.trans ((hb.trans (hb'.mono hb.size)).mono Sm.below.size))).2.2.2.2.2) ?_
        refine plan.Rest.call 9 _ 17 #[.pointer (some ⟨j5, 0, none⟩)] rfl (by kernel_rfl) (by kernel_rfl) (by kernel_rfl) ((csqm W2 hb).mono ?_)
        rintro e W3 ⟨rfl, m9, hm9⟩
        have hn : Below W2.heap.size W2 W3 := by rw [hm9]; exact below_drewN (Below.refl _ _) _
        clear hm9
        have hb := hb.trans (hn.mono hb.size)
        refine ⟨_, rfl, hn, ?_⟩
        refine plan.Rest.first 12 _ (.bool false) rfl (by kernel_rfl) (by kernel_rfl) (by kernel_rfl) (by kernel_rfl) (fun w' hb' => exec_ltI (n := (J6.p.seq : Int)) (m := g.life) rfl (by kernel_rfl) (by kernel_rfl) hlt) ?_
        refine plan.Rest.first 13 _ (.bool false) rfl (by kernel_rfl) (by kernel_rfl) (by kernel_rfl) (by kernel_rfl) (fun w' hb' => (by kernel_rfl)) ?_
        refine plan.Rest.first 14 _ (.bool false) rfl (by kernel_rfl) (by kernel_rfl) (by kernel_rfl) (by kernel_rfl) (fun w' hb' => (by kernel_rfl)) ?_
        refine plan.Rest.done (by kernel_rfl) ?_
        walk_nrm
        obtain ⟨_, _, _, cwr, _⟩ := looks Sm HIM.out HTM.out
        have HKM := hid ((HK15.out.later hyd).stays sm)
        have HSM := hid Sm
        clear Sm sm SEm ctn csqm
        have pm := pair_cells (HKM.out.later hb).p
        have cop := solo_open (HSM.out.later hb) HIM.out.fits HDM.out HIM.out.op
        go_wp2_with (first
          | (go_at_call 24; (first
              | ((with_reducible refine (cwr _ hb).mono ?_); clear cwr; rintro o n1 ⟨rfl, hn1⟩; have pn := pair_cells (HKM.out.later hn1).p; have cop := solo_open (HSM.out.later hn1) HIM.out.fits HDM.out HIM.out.op)
              | ((with_reducible refine (dwr _ ho4).mono ?_); rintro o o5 ⟨rfl, ho5⟩)))
          | (go_at_call 16; (with_reducible refine cop.mono ?_); clear cop; rintro o o1 ⟨j6, rfl, Sk, hbo⟩; have ho1 := hn1.trans (hbo.mono hn1.size); obtain ⟨dtn, dsq, dwh, dwr, did⟩ := looks Sk HIM.out HTM.out; obtain ⟨etn, esq, ewh, _, _⟩ := looks (HSM.out.later ho1) HIM.out HTM.out; have HPO : Hid (∀ w', Below o1.heap.size o1 w' → w'.cell? ⟨pb, 0, none⟩ = some (.pointer (some ⟨b, 0, none⟩))) := (hid fun w' hb => (((HKM.out.later ho1).later hb).p.cell 0)); have HSK := hid Sk; have ho0 := Below.refl o1.heap.size o1; clear Sk)
          | (go_at_call 23; (first
              | ((with_reducible refine (dtn _ ho0).mono ?_); rintro o o2 ⟨rfl, ho2⟩)
              | ((with_reducible refine (etn _ ho2).mono ?_); rintro o o3 ⟨rfl, ho3⟩)))
          | (go_at_call 22; (with_reducible refine (did _ _ (by simp) ho3).mono ?_); rintro o o4 ⟨rfl, ho4⟩; have po := HPO.out o4 ho4)
          | (go_at_call 17; (first
              | ((with_reducible refine (dsq _ ho5).mono ?_); rintro o o6 ⟨rfl, ho6⟩)
              | ((with_reducible refine (esq _ ho6).mono ?_); rintro o o7 ⟨rfl, ho7⟩)))
          | (go_at_call 19; (first
              | ((with_reducible refine (dwh _ ho7).mono ?_); rintro o o8 ⟨x8, k8, rfl, hx8, hb8⟩; have ho8 := ho7.trans (hb8.mono ho7.size))
              | ((with_reducible refine (ewh _ ho8).mono ?_); rintro o o9 ⟨x9, k9, rfl, hx9, hb9⟩; have ho9 := ho8.trans (hb9.mono ho8.size); have csm := same_twice H66.out x8 x9 k8 k9 o9 (hx8.below hb9) hx9)))
          | (go_at_call 18; (with_reducible refine csm.mono ?_); rintro o o10 ⟨rfl, hb10⟩; have ho10 := ho9.trans (hb10.mono ho9.size); have hz10 := HSK.out.below.trans (ho10.mono HSK.out.below.size))
          | (go_at_call 8; (with_reducible refine (ca _ hz10).mono ?_); rintro o o11 ⟨rfl, hb11⟩))
        go_ret
        exact ⟨rfl, HB.out _ hb11⟩
  · obtain ⟨csq2, cwh2, cs12, cch2, cs22⟩ := cmp_calls HS15.out HI5.out.fits rfl HI5.out.sound e1 hW2.1 hW2.2 wc2 cc2
    rw [e1] at hseq
    clear hW1 hW2 p10 a10 b10 p11 a11 p12 a12 p13 a13 p14
    have hne : ((D.p.seq : Int) == (J2.p.seq : Int)) = false := by rw [e1] at e2; simp; omega
    clear e1 e2
    generalize (J2.p.seq : Int) = sq1 at *
    generalize (D.p.seq : Int) = sq2 at *
    generalize J2.p.whole.length = nw1 at *
    generalize J2.p.changes.length = nc1 at *
    generalize D.p.whole.length = nw2 at *
    generalize D.p.changes.length = nc2 at *
    have hsq := fun m => hseq (w15.drewN m) (below_drewN (Below.refl _ _) m)
    obtain ⟨f1, f2, f3⟩ := HB15.out w15 (Below.refl _ _)
    go_quiet (first | (go_at_call 17; (with_reducible exact quietAt (hsq _))))
    have hv1 : Below w15.heap.size w15 (w15.drewN nq) := below_drewN (Below.refl _ _) nq
    obtain ⟨v1, hvw⟩ : ∃ z, Hid (w15.drewN nq = z) := ⟨_, rfl⟩
    rw [hvw.out] at hv1
    rw [hvw.out]
    have hbe : Below w15.heap.size w15 v1.drew := below_drewN hv1 1
    have ke := HR15.out _ hbe
    go_wp2
    go_region_held3 (fun w' => (w'.cell? ⟨pb, 3, none⟩ = some (.pointer (some ⟨r4, 0, none⟩)) ∧ w'.cell? ⟨r4, 4, none⟩ = some (.int .i64 sq2) ∧ w'.cell? ⟨r4, 5, none⟩ = some (.slice wa2 nw2 wc2) ∧ w'.cell? ⟨r4, 6, none⟩ = some (.slice ca2 nc2 cc2))) (first | assumption | go_keep) (first
      | (go_at_call 17; (with_reducible refine (csq2 _ hbe).mono ?_); rintro o u1 ⟨rfl, hu1⟩; have ku1 := HR15.out u1 hu1)
      | (go_at_call 19; (with_reducible refine (cwh2 _ hu1).mono ?_); rintro o u2 ⟨ux2, uy2, rfl, uhx2, hu2⟩; have ku2 := HR15.out u2 hu2)
      | (go_at_call 18; (with_reducible refine (cs12 _ _ _ uhx2 hu2).mono ?_); rintro o u3 ⟨rfl, hu3⟩; have ku3 := HR15.out u3 hu3)
      | (go_at_call 21; (with_reducible refine (cch2 _ hu3).mono ?_); rintro o u4 ⟨ux4, rfl, uhx4, hu4⟩; have ku4 := HR15.out u4 hu4)
      | (go_at_call 20; (with_reducible refine (cs22 _ _ uhx4 hu4).mono ?_); rintro o u5 ⟨rfl, hu5⟩; have ku5 := HR15.out u5 hu5))
    by_cases hz : RR.1 = 10
    · rw [hz]
      go_wp2_with (go_at_call 19; (with_reducible refine (cw5 _ hu5).mono ?_); rintro o y1 ⟨x5, k5, rfl, hx5, hy1⟩)
      have hyd0 : Below w15.heap.size w15 y1.drew := below_drewN hy1 1
      have hyy : Below y1.heap.size y1 y1.drew := below_drewN (Below.refl _ _) 1
      have hx5d := hx5.below hyy
      obtain ⟨W0, hW0⟩ : ∃ z, Hid (y1.drew = z) := ⟨_, rfl⟩
      have hyd := hyd0
      rw [hW0.out] at hyd hx5d
      clear cw5 hx5
      cases htn : J6.torn with
      | false =>
        refine plan.regionT (by kernel_rfl) ?_
        rw [hW0.out]
        refine plan.free 0 _ (.pointer (some ⟨j5, 0, none⟩)) rfl (by kernel_rfl) (by kernel_rfl) (by kernel_rfl) (by kernel_rfl) (fun w' => (by kernel_rfl)) ?_
        refine plan.free 1 _ (.slice x5 n5 k5) rfl (by kernel_rfl) (by kernel_rfl) (by kernel_rfl) (by kernel_rfl) (fun w' => (by kernel_rfl)) ?_
        refine callT 2 _ 22 #[.pointer (some ⟨j5, 0, none⟩), .slice x5 n5 k5] rfl (by kernel_rfl) (by kernel_rfl) (by kernel_rfl) ((HMEND.out W0 x5 k5 hyd hx5d).mono ?_)
        rintro e W1 ⟨rfl, Sm, sm⟩
        have SEm := solo_sees Sm HIM.out.fits HIM.out.sound
        have ctn := SEm.torn
        rw [htn] at ctn
        have csqm := SEm.seq
        have hb := Below.refl W1.heap.size W1
        refine ⟨_, rfl, ?_⟩
        refine plan.Rest.first 3 _ (.bool false) rfl (by kernel_rfl) (by kernel_rfl) (by kernel_rfl) (by kernel_rfl) (fun w' hb' => (by kernel_rfl)) ?_
        refine plan.Rest.first 4 _ (.bool false) rfl (by kernel_rfl) (by kernel_rfl) (by kernel_rfl) (by kernel_rfl) (fun w' hb' => (by kernel_rfl)) ?_
        refine plan.Rest.first 5 _ (.pointer (some ⟨j5, 0, none⟩)) rfl (by kernel_rfl) (by kernel_rfl) (by kernel_rfl) (by kernel_rfl) (fun w' hb' => (by kernel_rfl)) ?_
        refine plan.Rest.call 6 _ 23 #[.pointer (some ⟨j5, 0, none⟩)] rfl (by kernel_rfl) (by kernel_rfl) (by kernel_rfl) ((ctn W1 hb).mono ?_)
        rintro e W2 ⟨rfl, m9, hm9⟩
        have hn : Below W1.heap.size W1 W2 := by rw [hm9]; exact below_drewN (Below.refl _ _) _
        clear hm9
        have hb := hb.trans (hn.mono hb.size)
        refine ⟨_, rfl, hn, ?_⟩
        refine plan.Rest.first 7 _ (.bool false) rfl (by kernel_rfl) (by kernel_rfl) (by kernel_rfl) (by kernel_rfl) (fun w' hb' => (by kernel_rfl)) ?_
        refine plan.Rest.skip 8 _ rfl (by kernel_rfl) (by kernel_rfl) (by kernel_rfl) (by kernel_rfl) ?_
        refine plan.Rest.skip 9 _ rfl (by kernel_rfl) (by kernel_rfl) (by kernel_rfl) (by kernel_rfl) ?_
        refine plan.Rest.skip 10 _ rfl (by kernel_rfl) (by kernel_rfl) (by kernel_rfl) (by kernel_rfl) ?_
        refine plan.Rest.skip 11 _ rfl (by kernel_rfl) (by kernel_rfl) (by kernel_rfl) (by kernel_rfl) ?_
        refine plan.Rest.skip 12 _ rfl (by kernel_rfl) (by kernel_rfl) (by kernel_rfl) (by kernel_rfl) ?_
        refine plan.Rest.first 13 _ (.bool false) rfl (by kernel_rfl) (by kernel_rfl) (by kernel_rfl) (by kernel_rfl) (fun w' hb' => (by kernel_rfl)) ?_
        refine plan.Rest.first 14 _ (.bool false) rfl (by kernel_rfl) (by kernel_rfl) (by kernel_rfl) (by kernel_rfl) (fun w' hb' => (by kernel_rfl)) ?_
        refine plan.Rest.done (by kernel_rfl) ?_
        walk_nrm
        obtain ⟨_, _, _, cwr, _⟩ := looks Sm HIM.out HTM.out
        have HKM := hid ((HK15.out.later hyd).stays sm)
        have HSM := hid Sm
        clear Sm sm SEm ctn csqm
        have pm := pair_cells (HKM.out.later hb).p
        have cop := solo_open (HSM.out.later hb) HIM.out.fits HDM.out HIM.out.op
        go_wp2_with (first
          | (go_at_call 24; (first
              | ((with_reducible refine (cwr _ hb).mono ?_); clear cwr; rintro o n1 ⟨rfl, hn1⟩; have pn := pair_cells (HKM.out.later hn1).p; have cop := solo_open (HSM.out.later hn1) HIM.out.fits HDM.out HIM.out.op)
              | ((with_reducible refine (dwr _ ho4).mono ?_); rintro o o5 ⟨rfl, ho5⟩)))
          | (go_at_call 16; (with_reducible refine cop.mono ?_); clear cop; rintro o o1 ⟨j6, rfl, Sk, hbo⟩; have ho1 := hn1.trans (hbo.mono hn1.size); obtain ⟨dtn, dsq, dwh, dwr, did⟩ := looks Sk HIM.out HTM.out; obtain ⟨etn, esq, ewh, _, _⟩ := looks (HSM.out.later ho1) HIM.out HTM.out; have HPO : Hid (∀ w', Below o1.heap.size o1 w' → w'.cell? ⟨pb, 0, none⟩ = some (.pointer (some ⟨b, 0, none⟩))) := (hid fun w' hb => (((HKM.out.later ho1).later hb).p.cell 0)); have HSK := hid Sk; have ho0 := Below.refl o1.heap.size o1; clear Sk)
          | (go_at_call 23; (first
              | ((with_reducible refine (dtn _ ho0).mono ?_); rintro o o2 ⟨rfl, ho2⟩)
              | ((with_reducible refine (etn _ ho2).mono ?_); rintro o o3 ⟨rfl, ho3⟩)))
          | (go_at_call 22; (with_reducible refine (did _ _ (by simp) ho3).mono ?_); rintro o o4 ⟨rfl, ho4⟩; have po := HPO.out o4 ho4)
          | (go_at_call 17; (first
              | ((with_reducible refine (dsq _ ho5).mono ?_); rintro o o6 ⟨rfl, ho6⟩)
              | ((with_reducible refine (esq _ ho6).mono ?_); rintro o o7 ⟨rfl, ho7⟩)))
          | (go_at_call 19; (first
              | ((with_reducible refine (dwh _ ho7).mono ?_); rintro o o8 ⟨x8, k8, rfl, hx8, hb8⟩; have ho8 := ho7.trans (hb8.mono ho7.size))
              | ((with_reducible refine (ewh _ ho8).mono ?_); rintro o o9 ⟨x9, k9, rfl, hx9, hb9⟩; have ho9 := ho8.trans (hb9.mono ho8.size); have csm := same_twice H66.out x8 x9 k8 k9 o9 (hx8.below hb9) hx9)))
          | (go_at_call 18; (with_reducible refine csm.mono ?_); rintro o o10 ⟨rfl, hb10⟩; have ho10 := ho9.trans (hb10.mono ho9.size); have hz10 := HSK.out.below.trans (ho10.mono HSK.out.below.size))
          | (go_at_call 8; (with_reducible refine (ca _ hz10).mono ?_); rintro o o11 ⟨rfl, hb11⟩))
        go_ret
        exact ⟨rfl, HB.out _ hb11⟩
      | true =>
        have hlt : ¬ (J6.p.seq : Int) < g.life := by
          rcases HTM.out with h | h
          · rw [htn] at h; cases h
          · omega
        have hlt2 : decide ((J6.p.seq : Int) < g.life) = false := decide_eq_false hlt
        refine plan.regionT (by kernel_rfl) ?_
        rw [hW0.out]
        refine plan.free 0 _ (.pointer (some ⟨j5, 0, none⟩)) rfl (by kernel_rfl) (by kernel_rfl) (by kernel_rfl) (by kernel_rfl) (fun w' => (by kernel_rfl)) ?_
        refine plan.free 1 _ (.slice x5 n5 k5) rfl (by kernel_rfl) (by kernel_rfl) (by kernel_rfl) (by kernel_rfl) (fun w' => (by kernel_rfl)) ?_
        refine callT 2 _ 22 #[.pointer (some ⟨j5, 0, none⟩), .slice x5 n5 k5] rfl (by kernel_rfl) (by kernel_rfl) (by kernel_rfl) ((HMEND.out W0 x5 k5 hyd hx5d).mono ?_)
        rintro e W1 ⟨rfl, Sm, sm⟩
        have SEm := solo_sees Sm HIM.out.fits HIM.out.sound
        have ctn := SEm.torn
        rw [htn] at ctn
        have csqm := SEm.seq
        have hb := Below.refl W1.heap.size W1
        refine ⟨_, rfl, ?_⟩
        refine plan.Rest.first 3 _ (.bool false) rfl (by kernel_rfl) (by kernel_rfl) (by kernel_rfl) (by kernel_rfl) (fun w' hb' => (by kernel_rfl)) ?_
        refine plan.Rest.first 4 _ (.bool false) rfl (by kernel_rfl) (by kernel_rfl) (by kernel_rfl) (by kernel_rfl) (fun w' hb' => (by kernel_rfl)) ?_
        refine plan.Rest.first 5 _ (.pointer (some ⟨j5, 0, none⟩)) rfl (by kernel_rfl) (by kernel_rfl) (by kernel_rfl) (by kernel_rfl) (fun w' hb' => (by kernel_rfl)) ?_
        refine plan.Rest.call 6 _ 23 #[.pointer (some ⟨j5, 0, none⟩)] rfl (by kernel_rfl) (by kernel_rfl) (by kernel_rfl) ((ctn W1 hb).mono ?_)
        rintro e W2 ⟨rfl, m9, hm9⟩
        have hn : Below W1.heap.size W1 W2 := by rw [hm9]; exact below_drewN (Below.refl _ _) _
        clear hm9
        have hb := hb.trans (hn.mono hb.size)
        refine ⟨_, rfl, hn, ?_⟩
        refine plan.Rest.first 7 _ (.bool true) rfl (by kernel_rfl) (by kernel_rfl) (by kernel_rfl) (by kernel_rfl) (fun w' hb' => (by kernel_rfl)) ?_
        refine plan.Rest.first 8 _ (.pointer (some ⟨j5, 0, none⟩)) rfl (by kernel_rfl) (by kernel_rfl) (by kernel_rfl) (by kernel_rfl) (fun w' hb' => (by kernel_rfl)) ?_
        refine plan.Rest.first 10 _ (.pointer (some ⟨w.heap.size, 5, none⟩)) rfl (by kernel_rfl) (by kernel_rfl) (by kernel_rfl) (by kernel_rfl) (fun w' hb' => (by kernel_rfl)) ?_
        refine plan.Rest.first 11 _ (.int .i64 g.life) rfl (by kernel_rfl) (by kernel_rfl) (by kernel_rfl) (by kernel_rfl) (fun w' hb' => exec_loadN (ad := ⟨w.heap.size, 5, none⟩) rfl (by kernel_rfl) (HS.out w' (Sm.below.trans ((hb.trans (hb'.mono hb.size)).mono Sm.below.size))).2.2.2.2.2) ?_
        refine plan.Rest.call 9 _ 17 #[.pointer (some ⟨j5, 0, none⟩)] rfl (by kernel_rfl) (by kernel_rfl) (by kernel_rfl) ((csqm W2 hb).mono ?_)
        rintro e W3 ⟨rfl, m9, hm9⟩
        have hn : Below W2.heap.size W2 W3 := by rw [hm9]; exact below_drewN (Below.refl _ _) _
        clear hm9
        have hb := hb.trans (hn.mono hb.size)
        refine ⟨_, rfl, hn, ?_⟩
        refine plan.Rest.first 12 _ (.bool false) rfl (by kernel_rfl) (by kernel_rfl) (by kernel_rfl) (by kernel_rfl) (fun w' hb' => exec_ltI (n := (J6.p.seq : Int)) (m := g.life) rfl (by kernel_rfl) (by kernel_rfl) hlt) ?_
        refine plan.Rest.first 13 _ (.bool false) rfl (by kernel_rfl) (by kernel_rfl) (by kernel_rfl) (by kernel_rfl) (fun w' hb' => (by kernel_rfl)) ?_
        refine plan.Rest.first 14 _ (.bool false) rfl (by kernel_rfl) (by kernel_rfl) (by kernel_rfl) (by kernel_rfl) (fun w' hb' => (by kernel_rfl)) ?_
        refine plan.Rest.done (by kernel_rfl) ?_
        walk_nrm
        obtain ⟨_, _, _, cwr, _⟩ := looks Sm HIM.out HTM.out
        have HKM := hid ((HK15.out.later hyd).stays sm)
        have HSM := hid Sm
        clear Sm sm SEm ctn csqm
        have pm := pair_cells (HKM.out.later hb).p
        have cop := solo_open (HSM.out.later hb) HIM.out.fits HDM.out HIM.out.op
        go_wp2_with (first
          | (go_at_call 24; (first
              | ((with_reducible refine (cwr _ hb).mono ?_); clear cwr; rintro o n1 ⟨rfl, hn1⟩; have pn := pair_cells (HKM.out.later hn1).p; have cop := solo_open (HSM.out.later hn1) HIM.out.fits HDM.out HIM.out.op)
              | ((with_reducible refine (dwr _ ho4).mono ?_); rintro o o5 ⟨rfl, ho5⟩)))
          | (go_at_call 16; (with_reducible refine cop.mono ?_); clear cop; rintro o o1 ⟨j6, rfl, Sk, hbo⟩; have ho1 := hn1.trans (hbo.mono hn1.size); obtain ⟨dtn, dsq, dwh, dwr, did⟩ := looks Sk HIM.out HTM.out; obtain ⟨etn, esq, ewh, _, _⟩ := looks (HSM.out.later ho1) HIM.out HTM.out; have HPO : Hid (∀ w', Below o1.heap.size o1 w' → w'.cell? ⟨pb, 0, none⟩ = some (.pointer (some ⟨b, 0, none⟩))) := (hid fun w' hb => (((HKM.out.later ho1).later hb).p.cell 0)); have HSK := hid Sk; have ho0 := Below.refl o1.heap.size o1; clear Sk)
          | (go_at_call 23; (first
              | ((with_reducible refine (dtn _ ho0).mono ?_); rintro o o2 ⟨rfl, ho2⟩)
              | ((with_reducible refine (etn _ ho2).mono ?_); rintro o o3 ⟨rfl, ho3⟩)))
          | (go_at_call 22; (with_reducible refine (did _ _ (by simp) ho3).mono ?_); rintro o o4 ⟨rfl, ho4⟩; have po := HPO.out o4 ho4)
          | (go_at_call 17; (first
              | ((with_reducible refine (dsq _ ho5).mono ?_); rintro o o6 ⟨rfl, ho6⟩)
              | ((with_reducible refine (esq _ ho6).mono ?_); rintro o o7 ⟨rfl, ho7⟩)))
          | (go_at_call 19; (first
              | ((with_reducible refine (dwh _ ho7).mono ?_); rintro o o8 ⟨x8, k8, rfl, hx8, hb8⟩; have ho8 := ho7.trans (hb8.mono ho7.size))
              | ((with_reducible refine (ewh _ ho8).mono ?_); rintro o o9 ⟨x9, k9, rfl, hx9, hb9⟩; have ho9 := ho8.trans (hb9.mono ho8.size); have csm := same_twice H66.out x8 x9 k8 k9 o9 (hx8.below hb9) hx9)))
          | (go_at_call 18; (with_reducible refine csm.mono ?_); rintro o o10 ⟨rfl, hb10⟩; have ho10 := ho9.trans (hb10.mono ho9.size); have hz10 := HSK.out.below.trans (ho10.mono HSK.out.below.size))
          | (go_at_call 8; (with_reducible refine (ca _ hz10).mono ?_); rintro o o11 ⟨rfl, hb11⟩))
        go_ret
        exact ⟨rfl, HB.out _ hb11⟩
    · have hz2 : (RR.1 != 10) = true := by simpa using hz
      go_wp2_with (go_at_call 19; (with_reducible refine (cw5 _ hu5).mono ?_); rintro o y1 ⟨x5, k5, rfl, hx5, hy1⟩)
      have hyd0 : Below w15.heap.size w15 y1.drew := below_drewN hy1 1
      have hyy : Below y1.heap.size y1 y1.drew := below_drewN (Below.refl _ _) 1
      have hx5d := hx5.below hyy
      obtain ⟨W0, hW0⟩ : ∃ z, Hid (y1.drew = z) := ⟨_, rfl⟩
      have hyd := hyd0
      rw [hW0.out] at hyd hx5d
      clear cw5 hx5
      cases htn : J6.torn with
      | false =>
        refine plan.regionT (by kernel_rfl) ?_
        rw [hW0.out]
        refine plan.free 0 _ (.pointer (some ⟨j5, 0, none⟩)) rfl (by kernel_rfl) (by kernel_rfl) (by kernel_rfl) (by kernel_rfl) (fun w' => (by kernel_rfl)) ?_
        refine plan.free 1 _ (.slice x5 n5 k5) rfl (by kernel_rfl) (by kernel_rfl) (by kernel_rfl) (by kernel_rfl) (fun w' => (by kernel_rfl)) ?_
        refine callT 2 _ 22 #[.pointer (some ⟨j5, 0, none⟩), .slice x5 n5 k5] rfl (by kernel_rfl) (by kernel_rfl) (by kernel_rfl) ((HMEND.out W0 x5 k5 hyd hx5d).mono ?_)
        rintro e W1 ⟨rfl, Sm, sm⟩
        have SEm := solo_sees Sm HIM.out.fits HIM.out.sound
        have ctn := SEm.torn
        rw [htn] at ctn
        have csqm := SEm.seq
        have hb := Below.refl W1.heap.size W1
        refine ⟨_, rfl, ?_⟩
        refine plan.Rest.first 3 _ (.bool false) rfl (by kernel_rfl) (by kernel_rfl) (by kernel_rfl) (by kernel_rfl) (fun w' hb' => (by kernel_rfl)) ?_
        refine plan.Rest.first 4 _ (.bool false) rfl (by kernel_rfl) (by kernel_rfl) (by kernel_rfl) (by kernel_rfl) (fun w' hb' => (by kernel_rfl)) ?_
        refine plan.Rest.first 5 _ (.pointer (some ⟨j5, 0, none⟩)) rfl (by kernel_rfl) (by kernel_rfl) (by kernel_rfl) (by kernel_rfl) (fun w' hb' => (by kernel_rfl)) ?_
        refine plan.Rest.call 6 _ 23 #[.pointer (some ⟨j5, 0, none⟩)] rfl (by kernel_rfl) (by kernel_rfl) (by kernel_rfl) ((ctn W1 hb).mono ?_)
        rintro e W2 ⟨rfl, m9, hm9⟩
        have hn : Below W1.heap.size W1 W2 := by rw [hm9]; exact below_drewN (Below.refl _ _) _
        clear hm9
        have hb := hb.trans (hn.mono hb.size)
        refine ⟨_, rfl, hn, ?_⟩
        refine plan.Rest.first 7 _ (.bool false) rfl (by kernel_rfl) (by kernel_rfl) (by kernel_rfl) (by kernel_rfl) (fun w' hb' => (by kernel_rfl)) ?_
        refine plan.Rest.skip 8 _ rfl (by kernel_rfl) (by kernel_rfl) (by kernel_rfl) (by kernel_rfl) ?_
        refine plan.Rest.skip 9 _ rfl (by kernel_rfl) (by kernel_rfl) (by kernel_rfl) (by kernel_rfl) ?_
        refine plan.Rest.skip 10 _ rfl (by kernel_rfl) (by kernel_rfl) (by kernel_rfl) (by kernel_rfl) ?_
        refine plan.Rest.skip 11 _ rfl (by kernel_rfl) (by kernel_rfl) (by kernel_rfl) (by kernel_rfl) ?_
        refine plan.Rest.skip 12 _ rfl (by kernel_rfl) (by kernel_rfl) (by kernel_rfl) (by kernel_rfl) ?_
        refine plan.Rest.first 13 _ (.bool false) rfl (by kernel_rfl) (by kernel_rfl) (by kernel_rfl) (by kernel_rfl) (fun w' hb' => (by kernel_rfl)) ?_
        refine plan.Rest.first 14 _ (.bool false) rfl (by kernel_rfl) (by kernel_rfl) (by kernel_rfl) (by kernel_rfl) (fun w' hb' => (by kernel_rfl)) ?_
        refine plan.Rest.done (by kernel_rfl) ?_
        walk_nrm
        obtain ⟨_, _, _, cwr, _⟩ := looks Sm HIM.out HTM.out
        have HKM := hid ((HK15.out.later hyd).stays sm)
        have HSM := hid Sm
        clear Sm sm SEm ctn csqm
        have pm := pair_cells (HKM.out.later hb).p
        have cop := solo_open (HSM.out.later hb) HIM.out.fits HDM.out HIM.out.op
        go_wp2_with (first
          | (go_at_call 24; (first
              | ((with_reducible refine (cwr _ hb).mono ?_); clear cwr; rintro o n1 ⟨rfl, hn1⟩; have pn := pair_cells (HKM.out.later hn1).p; have cop := solo_open (HSM.out.later hn1) HIM.out.fits HDM.out HIM.out.op)
              | ((with_reducible refine (dwr _ ho4).mono ?_); rintro o o5 ⟨rfl, ho5⟩)))
          | (go_at_call 16; (with_reducible refine cop.mono ?_); clear cop; rintro o o1 ⟨j6, rfl, Sk, hbo⟩; have ho1 := hn1.trans (hbo.mono hn1.size); obtain ⟨dtn, dsq, dwh, dwr, did⟩ := looks Sk HIM.out HTM.out; obtain ⟨etn, esq, ewh, _, _⟩ := looks (HSM.out.later ho1) HIM.out HTM.out; have HPO : Hid (∀ w', Below o1.heap.size o1 w' → w'.cell? ⟨pb, 0, none⟩ = some (.pointer (some ⟨b, 0, none⟩))) := (hid fun w' hb => (((HKM.out.later ho1).later hb).p.cell 0)); have HSK := hid Sk; have ho0 := Below.refl o1.heap.size o1; clear Sk)
          | (go_at_call 23; (first
              | ((with_reducible refine (dtn _ ho0).mono ?_); rintro o o2 ⟨rfl, ho2⟩)
              | ((with_reducible refine (etn _ ho2).mono ?_); rintro o o3 ⟨rfl, ho3⟩)))
          | (go_at_call 22; (with_reducible refine (did _ _ (by simp) ho3).mono ?_); rintro o o4 ⟨rfl, ho4⟩; have po := HPO.out o4 ho4)
          | (go_at_call 17; (first
              | ((with_reducible refine (dsq _ ho5).mono ?_); rintro o o6 ⟨rfl, ho6⟩)
              | ((with_reducible refine (esq _ ho6).mono ?_); rintro o o7 ⟨rfl, ho7⟩)))
          | (go_at_call 19; (first
              | ((with_reducible refine (dwh _ ho7).mono ?_); rintro o o8 ⟨x8, k8, rfl, hx8, hb8⟩; have ho8 := ho7.trans (hb8.mono ho7.size))
              | ((with_reducible refine (ewh _ ho8).mono ?_); rintro o o9 ⟨x9, k9, rfl, hx9, hb9⟩; have ho9 := ho8.trans (hb9.mono ho8.size); have csm := same_twice H66.out x8 x9 k8 k9 o9 (hx8.below hb9) hx9)))
          | (go_at_call 18; (with_reducible refine csm.mono ?_); rintro o o10 ⟨rfl, hb10⟩; have ho10 := ho9.trans (hb10.mono ho9.size); have hz10 := HSK.out.below.trans (ho10.mono HSK.out.below.size))
          | (go_at_call 8; (with_reducible refine (ca _ hz10).mono ?_); rintro o o11 ⟨rfl, hb11⟩))
        go_ret
        exact ⟨rfl, HB.out _ hb11⟩
      | true =>
        have hlt : ¬ (J6.p.seq : Int) < g.life := by
          rcases HTM.out with h | h
          · rw [htn] at h; cases h
          · omega
        have hlt2 : decide ((J6.p.seq : Int) < g.life) = false := decide_eq_false hlt
        refine plan.regionT (by kernel_rfl) ?_
        rw [hW0.out]
        refine plan.free 0 _ (.pointer (some ⟨j5, 0, none⟩)) rfl (by kernel_rfl) (by kernel_rfl) (by kernel_rfl) (by kernel_rfl) (fun w' => (by kernel_rfl)) ?_
        refine plan.free 1 _ (.slice x5 n5 k5) rfl (by kernel_rfl) (by kernel_rfl) (by kernel_rfl) (by kernel_rfl) (fun w' => (by kernel_rfl)) ?_
        refine callT 2 _ 22 #[.pointer (some ⟨j5, 0, none⟩), .slice x5 n5 k5] rfl (by kernel_rfl) (by kernel_rfl) (by kernel_rfl) ((HMEND.out W0 x5 k5 hyd hx5d).mono ?_)
        rintro e W1 ⟨rfl, Sm, sm⟩
        have SEm := solo_sees Sm HIM.out.fits HIM.out.sound
        have ctn := SEm.torn
        rw [htn] at ctn
        have csqm := SEm.seq
        have hb := Below.refl W1.heap.size W1
        refine ⟨_, rfl, ?_⟩
        refine plan.Rest.first 3 _ (.bool false) rfl (by kernel_rfl) (by kernel_rfl) (by kernel_rfl) (by kernel_rfl) (fun w' hb' => (by kernel_rfl)) ?_
        refine plan.Rest.first 4 _ (.bool false) rfl (by kernel_rfl) (by kernel_rfl) (by kernel_rfl) (by kernel_rfl) (fun w' hb' => (by kernel_rfl)) ?_
        refine plan.Rest.first 5 _ (.pointer (some ⟨j5, 0, none⟩)) rfl (by kernel_rfl) (by kernel_rfl) (by kernel_rfl) (by kernel_rfl) (fun w' hb' => (by kernel_rfl)) ?_
        refine plan.Rest.call 6 _ 23 #[.pointer (some ⟨j5, 0, none⟩)] rfl (by kernel_rfl) (by kernel_rfl) (by kernel_rfl) ((ctn W1 hb).mono ?_)
        rintro e W2 ⟨rfl, m9, hm9⟩
        have hn : Below W1.heap.size W1 W2 := by rw [hm9]; exact below_drewN (Below.refl _ _) _
        clear hm9
        have hb := hb.trans (hn.mono hb.size)
        refine ⟨_, rfl, hn, ?_⟩
        refine plan.Rest.first 7 _ (.bool true) rfl (by kernel_rfl) (by kernel_rfl) (by kernel_rfl) (by kernel_rfl) (fun w' hb' => (by kernel_rfl)) ?_
        refine plan.Rest.first 8 _ (.pointer (some ⟨j5, 0, none⟩)) rfl (by kernel_rfl) (by kernel_rfl) (by kernel_rfl) (by kernel_rfl) (fun w' hb' => (by kernel_rfl)) ?_
        refine plan.Rest.first 10 _ (.pointer (some ⟨w.heap.size, 5, none⟩)) rfl (by kernel_rfl) (by kernel_rfl) (by kernel_rfl) (by kernel_rfl) (fun w' hb' => (by kernel_rfl)) ?_
        refine plan.Rest.first 11 _ (.int .i64 g.life) rfl (by kernel_rfl) (by kernel_rfl) (by kernel_rfl) (by kernel_rfl) (fun w' hb' => exec_loadN (ad := ⟨w.heap.size, 5, none⟩) rfl (by kernel_rfl) (HS.out w' (Sm.below.trans ((hb.trans (hb'.mono hb.size)).mono Sm.below.size))).2.2.2.2.2) ?_
        refine plan.Rest.call 9 _ 17 #[.pointer (some ⟨j5, 0, none⟩)] rfl (by kernel_rfl) (by kernel_rfl) (by kernel_rfl) ((csqm W2 hb).mono ?_)
        rintro e W3 ⟨rfl, m9, hm9⟩
        have hn : Below W2.heap.size W2 W3 := by rw [hm9]; exact below_drewN (Below.refl _ _) _
        clear hm9
        have hb := hb.trans (hn.mono hb.size)
        refine ⟨_, rfl, hn, ?_⟩
        refine plan.Rest.first 12 _ (.bool false) rfl (by kernel_rfl) (by kernel_rfl) (by kernel_rfl) (by kernel_rfl) (fun w' hb' => exec_ltI (n := (J6.p.seq : Int)) (m := g.life) rfl (by kernel_rfl) (by kernel_rfl) hlt) ?_
        refine plan.Rest.first 13 _ (.bool false) rfl (by kernel_rfl) (by kernel_rfl) (by kernel_rfl) (by kernel_rfl) (fun w' hb' => (by kernel_rfl)) ?_
        refine plan.Rest.first 14 _ (.bool false) rfl (by kernel_rfl) (by kernel_rfl) (by kernel_rfl) (by kernel_rfl) (fun w' hb' => (by kernel_rfl)) ?_
        refine plan.Rest.done (by kernel_rfl) ?_
        walk_nrm
        obtain ⟨_, _, _, cwr, _⟩ := looks Sm HIM.out HTM.out
        have HKM := hid ((HK15.out.later hyd).stays sm)
        have HSM := hid Sm
        clear Sm sm SEm ctn csqm
        have pm := pair_cells (HKM.out.later hb).p
        have cop := solo_open (HSM.out.later hb) HIM.out.fits HDM.out HIM.out.op
        go_wp2_with (first
          | (go_at_call 24; (first
              | ((with_reducible refine (cwr _ hb).mono ?_); clear cwr; rintro o n1 ⟨rfl, hn1⟩; have pn := pair_cells (HKM.out.later hn1).p; have cop := solo_open (HSM.out.later hn1) HIM.out.fits HDM.out HIM.out.op)
              | ((with_reducible refine (dwr _ ho4).mono ?_); rintro o o5 ⟨rfl, ho5⟩)))
          | (go_at_call 16; (with_reducible refine cop.mono ?_); clear cop; rintro o o1 ⟨j6, rfl, Sk, hbo⟩; have ho1 := hn1.trans (hbo.mono hn1.size); obtain ⟨dtn, dsq, dwh, dwr, did⟩ := looks Sk HIM.out HTM.out; obtain ⟨etn, esq, ewh, _, _⟩ := looks (HSM.out.later ho1) HIM.out HTM.out; have HPO : Hid (∀ w', Below o1.heap.size o1 w' → w'.cell? ⟨pb, 0, none⟩ = some (.pointer (some ⟨b, 0, none⟩))) := (hid fun w' hb => (((HKM.out.later ho1).later hb).p.cell 0)); have HSK := hid Sk; have ho0 := Below.refl o1.heap.size o1; clear Sk)
          | (go_at_call 23; (first
              | ((with_reducible refine (dtn _ ho0).mono ?_); rintro o o2 ⟨rfl, ho2⟩)
              | ((with_reducible refine (etn _ ho2).mono ?_); rintro o o3 ⟨rfl, ho3⟩)))
          | (go_at_call 22; (with_reducible refine (did _ _ (by simp) ho3).mono ?_); rintro o o4 ⟨rfl, ho4⟩; have po := HPO.out o4 ho4)
          | (go_at_call 17; (first
              | ((with_reducible refine (dsq _ ho5).mono ?_); rintro o o6 ⟨rfl, ho6⟩)
              | ((with_reducible refine (esq _ ho6).mono ?_); rintro o o7 ⟨rfl, ho7⟩)))
          | (go_at_call 19; (first
              | ((with_reducible refine (dwh _ ho7).mono ?_); rintro o o8 ⟨x8, k8, rfl, hx8, hb8⟩; have ho8 := ho7.trans (hb8.mono ho7.size))
              | ((with_reducible refine (ewh _ ho8).mono ?_); rintro o o9 ⟨x9, k9, rfl, hx9, hb9⟩; have ho9 := ho8.trans (hb9.mono ho8.size); have csm := same_twice H66.out x8 x9 k8 k9 o9 (hx8.below hb9) hx9)))
          | (go_at_call 18; (with_reducible refine csm.mono ?_); rintro o o10 ⟨rfl, hb10⟩; have ho10 := ho9.trans (hb10.mono ho9.size); have hz10 := HSK.out.below.trans (ho10.mono HSK.out.below.size))
          | (go_at_call 8; (with_reducible refine (ca _ hz10).mono ?_); rintro o o11 ⟨rfl, hb11⟩))
        go_ret
        exact ⟨rfl, HB.out _ hb11⟩
end Go.Proofs.YtphifanacehppaaGreat.journalKeeps
