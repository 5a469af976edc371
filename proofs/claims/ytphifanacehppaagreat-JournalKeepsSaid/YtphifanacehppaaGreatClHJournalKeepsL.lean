/- Lemmas of the claim HJournalKeeps. Each says its own conditions. -/
import Derived.Test.YtphifanacehppaaGreatClHJournalKeepsF
import Derived.Test.YtphifanacehppaaGreatClHJournalKeepsJ
import Derived.Test.YtphifanacehppaaGreatClHJournalKeepsA
import Derived.Test.YtphifanacehppaaGreatClHJournalKeepsK
/- Contract of the reference's scan of layer 11, over a flash with power. No condition. -/
namespace Go.Proofs.YtphifanacehppaaGreat.journal
open Go Go.RowKit Go.Proofs.YtphifanacehppaaGreat.flash Go.Proofs.YtphifanacehppaaGreat.geom
set_option linter.unusedVariables false

theorem only_setCells {S : Nat → Prop} {a b : World} {g : Nat} (h : Only S a b) (hg : S g) (o : Nat) (vs : List Value) : Only S a (b.setCells g o vs) :=
  h.next (T := fun x => x = g) ⟨(rest_setCells g vs o b).1, (rest_setCells g vs o b).2.1, (rest_setCells g vs o b).2.2, by rw [size_setCells]; exact Nat.le_refl _, fun k _ hk => heap_setCells g vs o b k hk⟩ fun x hx _ => hx ▸ hg
/-- at the head of the loop: the frames so far are in the variable at q -/
def ScanAt (d s q : Nat) (r : Nat) (p : Part) (x : Option Addr) (N : Nat) (W : List Nat) (w wr : World) : Prop :=
  ∃ X wv cv, Block wr q 48 [.pointer (some ⟨d, 0, none⟩), .int .i64 (s : Int), .int .i64 (p.tail : Int), .bool false, .int .i64 (p.seq : Int), wv, cv] ∧
    Block wr r 48 [.pointer none, .int .i64 0, .int .i64 0, .bool false, .int .i64 0, .slice none 0 0, .slice none 0 0] ∧ LoadAt X wr wv p.whole ∧ LoadsAt X wr cv p.changes ∧
    (∀ y, X y → w.heap.size ≤ y ∧ y < wr.heap.size ∧ y ≠ q ∧ y ≠ r) ∧ Reads .u32 wr x N W ∧ Below w.heap.size w wr
theorem scan_added {d s N gg : Nat} {X : Nat → Prop} {x : Option Addr} {W : List Nat} {w wr w3 w5 : World} {ob : Obj} {R : Part}
    (hr : Block wr w.heap.size 48 [.pointer none, .int .i64 0, .int .i64 0, .bool false, .int .i64 0, .slice none 0 0, .slice none 0 0]) (hX : ∀ y, X y → w.heap.size ≤ y ∧ y < wr.heap.size ∧ y ≠ w.heap.size + 1 ∧ y ≠ w.heap.size) (hrd : Reads .u32 wr x N W) (hxb : ∀ y, x = some y → w.heap.size + 1 < y.block) (hbr : Below w.heap.size w wr) (hwr : w.heap.size + 1 < wr.heap.size)
    (hb : Below wr.heap.size wr (w3.alloc ob)) (hg : wr.heap.size ≤ gg) (k : Added X (w.heap.size + 1) gg (.pointer (some ⟨d, 0, none⟩)) (.int .i64 (s : Int)) (.bool false) R (w3.alloc ob) w5) : ScanAt d s (w.heap.size + 1) w.heap.size R x N W w w5 := by
  obtain ⟨wv, cv, k1, k2, k3, k4⟩ := k
  have hs := hb.size
  have hO : Only (fun y => y = w.heap.size + 1) wr w5 := (Only.of hb).next k4 fun y hy _ => hy
  refine ⟨_, wv, cv, k1, hr.only hO (by omega), k2, k3, fun y hy => ⟨?_, hy.2, ?_, ?_⟩, reads_only hrd hO ?_, hbr.trans (hO.below hbr.size fun y hy => by omega)⟩
  · rcases hy.1 with h | h | h
    · exact (hX y h).1
    · omega
    · omega
  · rcases hy.1 with h | h | h
    · exact (hX y h).2.2.1
    · omega
    · omega
  · rcases hy.1 with h | h | h
    · exact (hX y h).2.2.2
    · omega
    · omega
  · rcases hrd.2 with h | ⟨b, off, h, _⟩
    · exact .inl h
    · exact .inr ⟨_, h, by have := hxb _ h; show b ≠ _; have h2 : w.heap.size + 1 < b := this; omega⟩
/-- what scan gives -/
def Scanned (d s : Nat) (R : Part) (tn : Bool) (w : World) (o : Ending) (w' : World) : Prop :=
  ∃ X wv cv, o = .returned (.agg #[.pointer (some ⟨d, 0, none⟩), .int .i64 (s : Int), .int .i64 (R.tail : Int), .bool tn, .int .i64 (R.seq : Int), wv, cv]) ∧ LoadAt X w' wv R.whole ∧ LoadsAt X w' cv R.changes ∧
    (∀ y, X y → w.heap.size ≤ y ∧ y < w'.heap.size) ∧ Below w.heap.size w w'
set_option maxRecDepth 20000 in
set_option maxHeartbeats 3200000 in
theorem scan_this {S : Nat → Prop} {d b : Nat} {g : Geo} {F : Fl} {w : World} (h : drive.RDriveAt S d b g F w) (fits : Fits F g) (hd : F.dark = false) (s : Nat) (hs : s ≤ 1) :
    Calls Tryz.prog 62 #[.pointer (some ⟨d, 0, none⟩), .int .i64 (s : Int)] w (Scanned d s (said F g s) (tornV F g s (said F g s).tail) w) := by
  obtain ⟨b1, b2, b3, b4, b5⟩ := fits.bounds
  obtain ⟨N, hN⟩ := Int.eq_ofNat_of_zero_le (show 0 ≤ g.sector by omega)
  have hNt : g.sector.toNat = N := by omega
  have hk : ∀ w', Below w.heap.size w w' → w'.cell? ⟨d, 1, none⟩ = some (.int .i64 (N : Int)) := fun w' hb => by
    have := (h.later hb).cells.2.1
    rwa [hN] at this
  have cr : ∀ w', Below w.heap.size w w' → Calls Tryz.prog 82 #[.pointer (some ⟨d, 0, none⟩), .int .i64 (s : Int), .int .i64 0, .int .i64 (N : Int)] w' fun e w2 => ∃ x c, e = .returned (.tuple #[.slice x N c, .int .i64 0]) ∧ Reads .u32 w2 x N (sec F g s) ∧ Below w'.heap.size w' w2 ∧ N ≤ c ∧ ∀ y, x = some y → w'.heap.size ≤ y.block ∧ y.block < w2.heap.size := fun w' hb => by
    have hz := bad_in fits hd (s := s) (a := 0) (n := N) hs (by omega)
    refine (drive.refRead_full (h.later hb) fits.ok fits.ft (s : Int) 0 N hz).mono ?_
    rintro e w2 ⟨x, c, he, hr, hb2, hc, hx⟩
    exact ⟨x, c, he, by unfold sec; rw [hNt]; exact hr, hb2, hc, hx⟩
  have cb : ∀ a : Nat, ∀ w', Below w.heap.size w w' → a ≤ N → Calls Tryz.prog 79 #[.pointer (some ⟨d, 0, none⟩), .int .i64 (s : Int), .int .i64 (a : Int)] w' fun e w2 => e = .returned (.tuple #[.bool (!tornV F g s a), .int .i64 0]) ∧ Below w'.heap.size w' w2 := fun a w' hb ha => by
    have hz := bad_in fits hd (s := s) (a := a) (n := N - a) hs (by omega)
    have := drive.refBlank_this (h.later hb) fits.ok fits.ft (s : Int) (a : Int) (by omega)
    unfold drive.blankAt at this
    rw [show g.sector - (a : Int) = ((N - a : Nat) : Int) by omega, if_neg (fun k => k hz)] at this
    refine this.mono ?_
    rintro e w2 ⟨he, hb2⟩
    refine ⟨?_, hb2⟩
    rw [he]
    unfold tornV
    rw [show g.sector - (a : Int) = ((N - a : Nat) : Int) by omega, Bool.not_not]
  obtain ⟨R, hR⟩ : ∃ R, Hid (said F g s = R) := ⟨_, rfl⟩
  rw [hR.out]
  have hR2 := hR.out
  unfold said at hR2
  rw [hNt] at hR2
  have hRT := said_tail F g s
  rw [hR.out, hNt] at hRT
  have hWl := sec_length F g s
  rw [hNt] at hWl
  have HWX := hid (sec_lt fits.ok g s)
  generalize sec F g s = W at *
  obtain ⟨tn, htn⟩ : ∃ tn, Hid (tornV F g s R.tail = tn) := ⟨_, rfl⟩
  rw [htn.out]
  have cbR : ∀ w', Below w.heap.size w w' → Calls Tryz.prog 79 #[.pointer (some ⟨d, 0, none⟩), .int .i64 (s : Int), .int .i64 (R.tail : Int)] w' fun e w2 => e = .returned (.tuple #[.bool (!tn), .int .i64 0]) ∧ Below w'.heap.size w' w2 := fun w' hb => by
    have := cb R.tail w' hb hRT
    rwa [htn.out] at this
  have HR2 := hid hR2
  have HWL := hid hWl
  have HK := hid hk
  have i1 : N ≤ 1024 := by omega
  have hdl := h.lt
  have hk0 := hk w (Below.refl _ _)
  clear h fits hd b1 b2 b3 b4 b5 hN hNt cb hR hR2 htn hWl hk
  go_enter Tryz.func62, Tryz.ntmps62
  go_wp2_with (go_at_call 82; ((with_reducible refine (cr _ (((Below.refl _ _).alloc (Nat.le_refl _) _).alloc (by simp) _)).mono ?_); rintro e w2 ⟨x, c, rfl, hrd, hb2, hNc, hx⟩))
  have hbw2 : Below w.heap.size w w2 := (((Below.refl _ _).alloc (Nat.le_refl _) _).alloc (by simp) _).trans (hb2.mono (by simp; omega))
  have hst : ScanAt d s (w.heap.size + 1) w.heap.size Part.zero x N W w w2 := by
    have h1 := ((Block.new w 48 [.pointer none, .int .i64 0, .int .i64 0, .bool false, .int .i64 0, .slice none 0 0, .slice none 0 0]).alloc (.cells #[.pointer (some ⟨d, 0, none⟩), .int .i64 (s : Int), .int .i64 0, .bool false, .int .i64 0, .slice none 0 0, .slice none 0 0] 48)).later hb2
    have h2 := (Block.new (w.alloc (.cells #[.pointer none, .int .i64 0, .int .i64 0, .bool false, .int .i64 0, .slice none 0 0, .slice none 0 0] 48)) 48 [.pointer (some ⟨d, 0, none⟩), .int .i64 (s : Int), .int .i64 0, .bool false, .int .i64 0, .slice none 0 0, .slice none 0 0]).later hb2
    rw [show (w.alloc (.cells #[.pointer none, .int .i64 0, .int .i64 0, .bool false, .int .i64 0, .slice none 0 0, .slice none 0 0] 48)).heap.size = w.heap.size + 1 by simp] at h2
    exact ⟨fun _ => False, _, _, h2, h1, .nil, .nil, fun y hy => hy.elim, hrd, hbw2⟩
  have HZ : Hid ((Tryz.prog.info? 48).map (·.size) = some 7) := hid (by kernel_rfl)
  have HXB : Hid (∀ y, x = some y → w.heap.size + 1 < y.block) := hid fun y hy => by have := (hx y hy).1; simp at this; omega
  have HST := hid hst
  have i2 : N ≤ c := hNc
  clear hst hrd hb2 hx hNc cr hk0 hbw2
  go_loopw [8] (fun i wr => ∃ k : Nat, k ≤ N ∧ i = .int .i64 (k : Int) ∧ ∃ p : Part, Hid (p.Sound ∧ p.tail ≤ N ∧ scan (N - k) p (W.drop p.tail) = R) ∧ Hid (ScanAt d s (w.heap.size + 1) w.heap.size p x N W w wr)) (fun i _ => N - (intOf i).toNat)
  case atStart => exact ⟨0, Nat.zero_le _, rfl, Part.zero, hid ⟨.zero, Nat.zero_le _, by rw [show W.drop Part.zero.tail = W from rfl, Nat.sub_zero]; exact HR2.out⟩, HST⟩
  case round =>
    obtain ⟨k, hk, rfl, p, hp, hsc⟩ := hrel
    obtain ⟨X, wv, cv, hq, hr, hw, hc, hX, hrd, hbr⟩ := hsc.out
    have HQ := hid hq
    have HRB := hid hr
    have HW := hid hw
    have HC := hid hc
    have HX := hid hX
    have HBR := hid hbr
    have HRD := hid hrd
    clear hq hr hw hc hX hrd hsc
    by_cases hlt : k < N
    · obtain ⟨hps, hpt, hpr⟩ := hp.out
      have i3 : (k : Int) < N := by omega
      have hcut := fun W' => cut_from W' x N c p.tail hpt
      have cf := frame.refRead_any (shift x p.tail c) (N - p.tail) (c - p.tail) (W.drop p.tail) wr (reads_shift HRD.out hpt i2) (fun y hy => HWX.out y (List.mem_of_mem_drop hy)) (by omega)
      have hdl2 : (W.drop p.tail).length = N - p.tail := by rw [List.length_drop, HRD.out.1]
      have k0 : wr.cell? ⟨w.heap.size + 1, 2, none⟩ = some (.int .i64 (p.tail : Int)) := HQ.out.cell 2
      have k4 : wr.cell? ⟨w.heap.size + 1, 4, none⟩ = some (.int .i64 (p.seq : Int)) := HQ.out.cell 4
      have hwr : w.heap.size + 1 < wr.heap.size := HQ.out.lt
      have HP := hid hpt
      have HPS := hid hps
      cases hread : frame.readN (W.drop p.tail) with
      | none =>
        rw [scan_none hread] at hpr
        rw [hread] at cf
        unfold frame.ReadsAs at cf
        subst hpr
        clear hread hp hps hpt
        have k2 : wr.cell? ⟨w.heap.size + 1, 2, none⟩ = some (.int .i64 (p.tail : Int)) := HQ.out.cell 2
        obtain ⟨wa, wc, rfl, _⟩ := HW.out.reads
        obtain ⟨ca, cc, rfl, _⟩ := HC.out.slice
        cases tn with
        | false =>
          have HZ2 : Hid ((Tryz.prog.info? 48).map (·.size) = some (#[.pointer (some ⟨d, 0, none⟩), .int .i64 (s : Int), .int .i64 (p.tail : Int), .bool false, .int .i64 (p.seq : Int), .slice wa p.whole.length wc, .slice ca p.changes.length cc] : Array Value).size) := hid HZ.out
          have HON : Hid (((#[.pointer (some ⟨d, 0, none⟩), .int .i64 (s : Int), .int .i64 (p.tail : Int), .bool false, .int .i64 (p.seq : Int), .slice wa p.whole.length wc, .slice ca p.changes.length cc] : Array Value).all (·.oneCell')) = true) := hid (by simp [Value.oneCell'])
          go_wp2_with (first
            | (go_at_call 83; ((with_reducible refine cf.mono ?_); rintro e w3 ⟨rfl, hb3⟩; have hq3 := HQ.out.later hb3; have m2 : w3.cell? ⟨w.heap.size + 1, 2, none⟩ = some (.int .i64 (p.tail : Int)) := hq3.cell 2; have m4 : w3.cell? ⟨w.heap.size + 1, 4, none⟩ = some (.int .i64 (p.seq : Int)) := hq3.cell 4; have hlt3 := hq3.lt; clear hq3; have hb3a := hb3.alloc hb3.size (.cells #[.int .i64 0, .int .i64 0, .slice none 0 0] 118)))
            | (go_at_call 79; ((with_reducible refine (cbR _ (HBR.out.trans (hb3a.mono HBR.out.size))).mono ?_); rintro e w4 ⟨rfl, hb4⟩; have hb4 := hb3a.trans (hb4.mono hb3a.size); have hq4 := HQ.out.later hb4; have hr4 := HRB.out.later hb4; have q0 : w4.cell? ⟨w.heap.size + 1, 0, none⟩ = some (.pointer (some ⟨d, 0, none⟩)) := hq4.cell 0; have q1 : w4.cell? ⟨w.heap.size + 1, 1, none⟩ = some (.int .i64 (s : Int)) := hq4.cell 1; have q2 : w4.cell? ⟨w.heap.size + 1, 2, none⟩ = some (.int .i64 (p.tail : Int)) := hq4.cell 2; have q3 : w4.cell? ⟨w.heap.size + 1, 3, none⟩ = some (.bool false) := hq4.cell 3; have q4 : w4.cell? ⟨w.heap.size + 1, 4, none⟩ = some (.int .i64 (p.seq : Int)) := hq4.cell 4; have q5 : w4.cell? ⟨w.heap.size + 1, 5, none⟩ = some (.slice wa p.whole.length wc) := hq4.cell 5; have q6 : w4.cell? ⟨w.heap.size + 1, 6, none⟩ = some (.slice ca p.changes.length cc) := hq4.cell 6; have f3 := hq4.frozen 3; have hr5 := hr4.apart (w.heap.size + 1) 3 (.bool false) (by omega); have HTH : Hid ((w4.setCell ⟨w.heap.size + 1, 3, none⟩ (.bool false)).there w.heap.size 0 (#[.pointer (some ⟨d, 0, none⟩), .int .i64 (s : Int), .int .i64 (p.tail : Int), .bool false, .int .i64 (p.seq : Int), .slice wa p.whole.length wc, .slice ca p.changes.length cc] : Array Value).size) := hid (hr5.there 0 7 (by simp)); have HR5 := hid hr5; have HB4 := hid hb4; clear hq4 hr4 hr5 hb4))
            | (with_reducible refine wpList_store_named rfl 48 (.tmp 4) (.tmp 82) rfl w.heap.size 0 #[.pointer (some ⟨d, 0, none⟩), .int .i64 (s : Int), .int .i64 (p.tail : Int), .bool false, .int .i64 (p.seq : Int), .slice wa p.whole.length wc, .slice ca p.changes.length cc] rfl rfl HTH.out HZ2.out HON.out ?_))
          intro w6 hw6
          have hB6 : Block w6 w.heap.size 48 [.pointer (some ⟨d, 0, none⟩), .int .i64 (s : Int), .int .i64 (p.tail : Int), .bool false, .int .i64 (p.seq : Int), .slice wa p.whole.length wc, .slice ca p.changes.length cc] := by
            have := HR5.out.setCells (vs := [.pointer (some ⟨d, 0, none⟩), .int .i64 (s : Int), .int .i64 (p.tail : Int), .bool false, .int .i64 (p.seq : Int), .slice wa p.whole.length wc, .slice ca p.changes.length cc]) (o := 0)
            rw [put_all _ _ (by simp)] at this
            rw [← hw6.out]
            exact this
          have hO : Only (fun y => y = w.heap.size + 1 ∨ y = w.heap.size) wr w6 := by
            rw [← hw6.out]
            have h1 := (Only.of (S := fun y => y = w.heap.size + 1 ∨ y = w.heap.size) HB4.out).setCell (g := w.heap.size + 1) (.inl (.inl rfl)) 3 (.bool false)
            exact only_setCells h1 (.inr rfl) 0 _
          have hX6 : ∀ y, X y → ¬ (y = w.heap.size + 1 ∨ y = w.heap.size) := fun y hy h => h.elim (HX.out y hy).2.2.1 (HX.out y hy).2.2.2
          go_wp2
          refine bodyPost_ret (results_cell (b := w.heap.size) (o := 0) rfl rfl hB6.whole Tryz.underlying48 rfl HZ.out) rfl ?_
          refine ⟨X, _, _, rfl, HW.out.stays (.only hO hX6), HC.out.stays (.only hO hX6), fun y hy => ⟨(HX.out y hy).1, Nat.lt_of_lt_of_le (HX.out y hy).2.1 hO.size⟩, HBR.out.trans (hO.below HBR.out.size fun y hy => by rcases hy with rfl | rfl <;> omega)⟩
        | true =>
          have HZ2 : Hid ((Tryz.prog.info? 48).map (·.size) = some (#[.pointer (some ⟨d, 0, none⟩), .int .i64 (s : Int), .int .i64 (p.tail : Int), .bool true, .int .i64 (p.seq : Int), .slice wa p.whole.length wc, .slice ca p.changes.length cc] : Array Value).size) := hid HZ.out
          have HON : Hid (((#[.pointer (some ⟨d, 0, none⟩), .int .i64 (s : Int), .int .i64 (p.tail : Int), .bool true, .int .i64 (p.seq : Int), .slice wa p.whole.length wc, .slice ca p.changes.length cc] : Array Value).all (·.oneCell')) = true) := hid (by simp [Value.oneCell'])
          go_wp2_with (first
            | (go_at_call 83; ((with_reducible refine cf.mono ?_); rintro e w3 ⟨rfl, hb3⟩; have hq3 := HQ.out.later hb3; have m2 : w3.cell? ⟨w.heap.size + 1, 2, none⟩ = some (.int .i64 (p.tail : Int)) := hq3.cell 2; have m4 : w3.cell? ⟨w.heap.size + 1, 4, none⟩ = some (.int .i64 (p.seq : Int)) := hq3.cell 4; have hlt3 := hq3.lt; clear hq3; have hb3a := hb3.alloc hb3.size (.cells #[.int .i64 0, .int .i64 0, .slice none 0 0] 118)))
            | (go_at_call 79; ((with_reducible refine (cbR _ (HBR.out.trans (hb3a.mono HBR.out.size))).mono ?_); rintro e w4 ⟨rfl, hb4⟩; have hb4 := hb3a.trans (hb4.mono hb3a.size); have hq4 := HQ.out.later hb4; have hr4 := HRB.out.later hb4; have q0 : w4.cell? ⟨w.heap.size + 1, 0, none⟩ = some (.pointer (some ⟨d, 0, none⟩)) := hq4.cell 0; have q1 : w4.cell? ⟨w.heap.size + 1, 1, none⟩ = some (.int .i64 (s : Int)) := hq4.cell 1; have q2 : w4.cell? ⟨w.heap.size + 1, 2, none⟩ = some (.int .i64 (p.tail : Int)) := hq4.cell 2; have q3 : w4.cell? ⟨w.heap.size + 1, 3, none⟩ = some (.bool false) := hq4.cell 3; have q4 : w4.cell? ⟨w.heap.size + 1, 4, none⟩ = some (.int .i64 (p.seq : Int)) := hq4.cell 4; have q5 : w4.cell? ⟨w.heap.size + 1, 5, none⟩ = some (.slice wa p.whole.length wc) := hq4.cell 5; have q6 : w4.cell? ⟨w.heap.size + 1, 6, none⟩ = some (.slice ca p.changes.length cc) := hq4.cell 6; have f3 := hq4.frozen 3; have hr5 := hr4.apart (w.heap.size + 1) 3 (.bool true) (by omega); have HTH : Hid ((w4.setCell ⟨w.heap.size + 1, 3, none⟩ (.bool true)).there w.heap.size 0 (#[.pointer (some ⟨d, 0, none⟩), .int .i64 (s : Int), .int .i64 (p.tail : Int), .bool true, .int .i64 (p.seq : Int), .slice wa p.whole.length wc, .slice ca p.changes.length cc] : Array Value).size) := hid (hr5.there 0 7 (by simp)); have HR5 := hid hr5; have HB4 := hid hb4; clear hq4 hr4 hr5 hb4))
            | (with_reducible refine wpList_store_named rfl 48 (.tmp 4) (.tmp 82) rfl w.heap.size 0 #[.pointer (some ⟨d, 0, none⟩), .int .i64 (s : Int), .int .i64 (p.tail : Int), .bool true, .int .i64 (p.seq : Int), .slice wa p.whole.length wc, .slice ca p.changes.length cc] rfl rfl HTH.out HZ2.out HON.out ?_))
          intro w6 hw6
          have hB6 : Block w6 w.heap.size 48 [.pointer (some ⟨d, 0, none⟩), .int .i64 (s : Int), .int .i64 (p.tail : Int), .bool true, .int .i64 (p.seq : Int), .slice wa p.whole.length wc, .slice ca p.changes.length cc] := by
            have := HR5.out.setCells (vs := [.pointer (some ⟨d, 0, none⟩), .int .i64 (s : Int), .int .i64 (p.tail : Int), .bool true, .int .i64 (p.seq : Int), .slice wa p.whole.length wc, .slice ca p.changes.length cc]) (o := 0)
            rw [put_all _ _ (by simp)] at this
            rw [← hw6.out]
            exact this
          have hO : Only (fun y => y = w.heap.size + 1 ∨ y = w.heap.size) wr w6 := by
            rw [← hw6.out]
            have h1 := (Only.of (S := fun y => y = w.heap.size + 1 ∨ y = w.heap.size) HB4.out).setCell (g := w.heap.size + 1) (.inl (.inl rfl)) 3 (.bool true)
            exact only_setCells h1 (.inr rfl) 0 _
          have hX6 : ∀ y, X y → ¬ (y = w.heap.size + 1 ∨ y = w.heap.size) := fun y hy h => h.elim (HX.out y hy).2.2.1 (HX.out y hy).2.2.2
          go_wp2
          refine bodyPost_ret (results_cell (b := w.heap.size) (o := 0) rfl rfl hB6.whole Tryz.underlying48 rfl HZ.out) rfl ?_
          refine ⟨X, _, _, rfl, HW.out.stays (.only hO hX6), HC.out.stays (.only hO hX6), fun y hy => ⟨(HX.out y hy).1, Nat.lt_of_lt_of_le (HX.out y hy).2.1 hO.size⟩, HBR.out.trans (hO.below HBR.out.size fun y hy => by rcases hy with rfl | rfl <;> omega)⟩
      | some f =>
        obtain ⟨k1, s1, L⟩ := f
        obtain ⟨r1, r2, r3⟩ := frame.readN_some hread
        rw [hdl2] at r3
        have hL := readN_load hread (fun y hy => HWX.out y (List.mem_of_mem_drop hy))
        rw [hread] at cf
        unfold frame.ReadsAs at cf
        have hs1 := (frame.okB_true.1 r1).2.2.1
        have hsq := hps.seq
        cases ht : p.takes k1 s1 with
        | false =>
          rw [scan_stop hread ht] at hpr
          subst hpr
          unfold Part.takes at ht
          by_cases hz : p.seq = 0
          · rw [if_pos hz] at ht
            have e1 : ((p.seq : Int) == 0) = true := by simp; omega
            have e2 : ((k1 : Int) != 1) = true := by simp at ht ⊢; omega
            clear hread ht hp hps hpt r1 r2 r3 hL hz
            have k2 : wr.cell? ⟨w.heap.size + 1, 2, none⟩ = some (.int .i64 (p.tail : Int)) := HQ.out.cell 2
            obtain ⟨wa, wc, rfl, _⟩ := HW.out.reads
            obtain ⟨ca, cc, rfl, _⟩ := HC.out.slice
            cases tn with
            | false =>
              have HZ2 : Hid ((Tryz.prog.info? 48).map (·.size) = some (#[.pointer (some ⟨d, 0, none⟩), .int .i64 (s : Int), .int .i64 (p.tail : Int), .bool false, .int .i64 (p.seq : Int), .slice wa p.whole.length wc, .slice ca p.changes.length cc] : Array Value).size) := hid HZ.out
              have HON : Hid (((#[.pointer (some ⟨d, 0, none⟩), .int .i64 (s : Int), .int .i64 (p.tail : Int), .bool false, .int .i64 (p.seq : Int), .slice wa p.whole.length wc, .slice ca p.changes.length cc] : Array Value).all (·.oneCell')) = true) := hid (by simp [Value.oneCell'])
              go_wp2_with (first
                | (go_at_call 83; ((with_reducible refine cf.mono ?_); rintro e w3 ⟨gg, c1, rfl, hgg, hrow, hb3⟩; have hq3 := HQ.out.later hb3; have m2 : w3.cell? ⟨w.heap.size + 1, 2, none⟩ = some (.int .i64 (p.tail : Int)) := hq3.cell 2; have m4 : w3.cell? ⟨w.heap.size + 1, 4, none⟩ = some (.int .i64 (p.seq : Int)) := hq3.cell 4; have hlt3 := hq3.lt; clear hq3; have hb3a := hb3.alloc hb3.size (.cells #[.int .i64 (k1 : Int), .int .i64 (s1 : Int), .slice (some ⟨gg, 0, none⟩) L.length c1] 118)))
                | (go_at_call 79; ((with_reducible refine (cbR _ (HBR.out.trans (hb3a.mono HBR.out.size))).mono ?_); rintro e w4 ⟨rfl, hb4⟩; have hb4 := hb3a.trans (hb4.mono hb3a.size); have hq4 := HQ.out.later hb4; have hr4 := HRB.out.later hb4; have q0 : w4.cell? ⟨w.heap.size + 1, 0, none⟩ = some (.pointer (some ⟨d, 0, none⟩)) := hq4.cell 0; have q1 : w4.cell? ⟨w.heap.size + 1, 1, none⟩ = some (.int .i64 (s : Int)) := hq4.cell 1; have q2 : w4.cell? ⟨w.heap.size + 1, 2, none⟩ = some (.int .i64 (p.tail : Int)) := hq4.cell 2; have q3 : w4.cell? ⟨w.heap.size + 1, 3, none⟩ = some (.bool false) := hq4.cell 3; have q4 : w4.cell? ⟨w.heap.size + 1, 4, none⟩ = some (.int .i64 (p.seq : Int)) := hq4.cell 4; have q5 : w4.cell? ⟨w.heap.size + 1, 5, none⟩ = some (.slice wa p.whole.length wc) := hq4.cell 5; have q6 : w4.cell? ⟨w.heap.size + 1, 6, none⟩ = some (.slice ca p.changes.length cc) := hq4.cell 6; have f3 := hq4.frozen 3; have hr5 := hr4.apart (w.heap.size + 1) 3 (.bool false) (by omega); have HTH : Hid ((w4.setCell ⟨w.heap.size + 1, 3, none⟩ (.bool false)).there w.heap.size 0 (#[.pointer (some ⟨d, 0, none⟩), .int .i64 (s : Int), .int .i64 (p.tail : Int), .bool false, .int .i64 (p.seq : Int), .slice wa p.whole.length wc, .slice ca p.changes.length cc] : Array Value).size) := hid (hr5.there 0 7 (by simp)); have HR5 := hid hr5; have HB4 := hid hb4; clear hq4 hr4 hr5 hb4))
                | (with_reducible refine wpList_store_named rfl 48 (.tmp 4) (.tmp 82) rfl w.heap.size 0 #[.pointer (some ⟨d, 0, none⟩), .int .i64 (s : Int), .int .i64 (p.tail : Int), .bool false, .int .i64 (p.seq : Int), .slice wa p.whole.length wc, .slice ca p.changes.length cc] rfl rfl HTH.out HZ2.out HON.out ?_))
              intro w6 hw6
              have hB6 : Block w6 w.heap.size 48 [.pointer (some ⟨d, 0, none⟩), .int .i64 (s : Int), .int .i64 (p.tail : Int), .bool false, .int .i64 (p.seq : Int), .slice wa p.whole.length wc, .slice ca p.changes.length cc] := by
                have := HR5.out.setCells (vs := [.pointer (some ⟨d, 0, none⟩), .int .i64 (s : Int), .int .i64 (p.tail : Int), .bool false, .int .i64 (p.seq : Int), .slice wa p.whole.length wc, .slice ca p.changes.length cc]) (o := 0)
                rw [put_all _ _ (by simp)] at this
                rw [← hw6.out]
                exact this
              have hO : Only (fun y => y = w.heap.size + 1 ∨ y = w.heap.size) wr w6 := by
                rw [← hw6.out]
                have h1 := (Only.of (S := fun y => y = w.heap.size + 1 ∨ y = w.heap.size) HB4.out).setCell (g := w.heap.size + 1) (.inl (.inl rfl)) 3 (.bool false)
                exact only_setCells h1 (.inr rfl) 0 _
              have hX6 : ∀ y, X y → ¬ (y = w.heap.size + 1 ∨ y = w.heap.size) := fun y hy h => h.elim (HX.out y hy).2.2.1 (HX.out y hy).2.2.2
              go_wp2
              refine bodyPost_ret (results_cell (b := w.heap.size) (o := 0) rfl rfl hB6.whole Tryz.underlying48 rfl HZ.out) rfl ?_
              refine ⟨X, _, _, rfl, HW.out.stays (.only hO hX6), HC.out.stays (.only hO hX6), fun y hy => ⟨(HX.out y hy).1, Nat.lt_of_lt_of_le (HX.out y hy).2.1 hO.size⟩, HBR.out.trans (hO.below HBR.out.size fun y hy => by rcases hy with rfl | rfl <;> omega)⟩
            | true =>
              have HZ2 : Hid ((Tryz.prog.info? 48).map (·.size) = some (#[.pointer (some ⟨d, 0, none⟩), .int .i64 (s : Int), .int .i64 (p.tail : Int), .bool true, .int .i64 (p.seq : Int), .slice wa p.whole.length wc, .slice ca p.changes.length cc] : Array Value).size) := hid HZ.out
              have HON : Hid (((#[.pointer (some ⟨d, 0, none⟩), .int .i64 (s : Int), .int .i64 (p.tail : Int), .bool true, .int .i64 (p.seq : Int), .slice wa p.whole.length wc, .slice ca p.changes.length cc] : Array Value).all (·.oneCell')) = true) := hid (by simp [Value.oneCell'])
              go_wp2_with (first
                | (go_at_call 83; ((with_reducible refine cf.mono ?_); rintro e w3 ⟨gg, c1, rfl, hgg, hrow, hb3⟩; have hq3 := HQ.out.later hb3; have m2 : w3.cell? ⟨w.heap.size + 1, 2, none⟩ = some (.int .i64 (p.tail : Int)) := hq3.cell 2; have m4 : w3.cell? ⟨w.heap.size + 1, 4, none⟩ = some (.int .i64 (p.seq : Int)) := hq3.cell 4; have hlt3 := hq3.lt; clear hq3; have hb3a := hb3.alloc hb3.size (.cells #[.int .i64 (k1 : Int), .int .i64 (s1 : Int), .slice (some ⟨gg, 0, none⟩) L.length c1] 118)))
                | (go_at_call 79; ((with_reducible refine (cbR _ (HBR.out.trans (hb3a.mono HBR.out.size))).mono ?_); rintro e w4 ⟨rfl, hb4⟩; have hb4 := hb3a.trans (hb4.mono hb3a.size); have hq4 := HQ.out.later hb4; have hr4 := HRB.out.later hb4; have q0 : w4.cell? ⟨w.heap.size + 1, 0, none⟩ = some (.pointer (some ⟨d, 0, none⟩)) := hq4.cell 0; have q1 : w4.cell? ⟨w.heap.size + 1, 1, none⟩ = some (.int .i64 (s : Int)) := hq4.cell 1; have q2 : w4.cell? ⟨w.heap.size + 1, 2, none⟩ = some (.int .i64 (p.tail : Int)) := hq4.cell 2; have q3 : w4.cell? ⟨w.heap.size + 1, 3, none⟩ = some (.bool false) := hq4.cell 3; have q4 : w4.cell? ⟨w.heap.size + 1, 4, none⟩ = some (.int .i64 (p.seq : Int)) := hq4.cell 4; have q5 : w4.cell? ⟨w.heap.size + 1, 5, none⟩ = some (.slice wa p.whole.length wc) := hq4.cell 5; have q6 : w4.cell? ⟨w.heap.size + 1, 6, none⟩ = some (.slice ca p.changes.length cc) := hq4.cell 6; have f3 := hq4.frozen 3; have hr5 := hr4.apart (w.heap.size + 1) 3 (.bool true) (by omega); have HTH : Hid ((w4.setCell ⟨w.heap.size + 1, 3, none⟩ (.bool true)).there w.heap.size 0 (#[.pointer (some ⟨d, 0, none⟩), .int .i64 (s : Int), .int .i64 (p.tail : Int), .bool true, .int .i64 (p.seq : Int), .slice wa p.whole.length wc, .slice ca p.changes.length cc] : Array Value).size) := hid (hr5.there 0 7 (by simp)); have HR5 := hid hr5; have HB4 := hid hb4; clear hq4 hr4 hr5 hb4))
                | (with_reducible refine wpList_store_named rfl 48 (.tmp 4) (.tmp 82) rfl w.heap.size 0 #[.pointer (some ⟨d, 0, none⟩), .int .i64 (s : Int), .int .i64 (p.tail : Int), .bool true, .int .i64 (p.seq : Int), .slice wa p.whole.length wc, .slice ca p.changes.length cc] rfl rfl HTH.out HZ2.out HON.out ?_))
              intro w6 hw6
              have hB6 : Block w6 w.heap.size 48 [.pointer (some ⟨d, 0, none⟩), .int .i64 (s : Int), .int .i64 (p.tail : Int), .bool true, .int .i64 (p.seq : Int), .slice wa p.whole.length wc, .slice ca p.changes.length cc] := by
                have := HR5.out.setCells (vs := [.pointer (some ⟨d, 0, none⟩), .int .i64 (s : Int), .int .i64 (p.tail : Int), .bool true, .int .i64 (p.seq : Int), .slice wa p.whole.length wc, .slice ca p.changes.length cc]) (o := 0)
                rw [put_all _ _ (by simp)] at this
                rw [← hw6.out]
                exact this
              have hO : Only (fun y => y = w.heap.size + 1 ∨ y = w.heap.size) wr w6 := by
                rw [← hw6.out]
                have h1 := (Only.of (S := fun y => y = w.heap.size + 1 ∨ y = w.heap.size) HB4.out).setCell (g := w.heap.size + 1) (.inl (.inl rfl)) 3 (.bool true)
                exact only_setCells h1 (.inr rfl) 0 _
              have hX6 : ∀ y, X y → ¬ (y = w.heap.size + 1 ∨ y = w.heap.size) := fun y hy h => h.elim (HX.out y hy).2.2.1 (HX.out y hy).2.2.2
              go_wp2
              refine bodyPost_ret (results_cell (b := w.heap.size) (o := 0) rfl rfl hB6.whole Tryz.underlying48 rfl HZ.out) rfl ?_
              refine ⟨X, _, _, rfl, HW.out.stays (.only hO hX6), HC.out.stays (.only hO hX6), fun y hy => ⟨(HX.out y hy).1, Nat.lt_of_lt_of_le (HX.out y hy).2.1 hO.size⟩, HBR.out.trans (hO.below HBR.out.size fun y hy => by rcases hy with rfl | rfl <;> omega)⟩
          · rw [if_neg hz] at ht
            have e1 : ((p.seq : Int) == 0) = false := by simp; omega
            have e4 : ((p.seq : Int) != 0) = true := by simp; omega
            have e3 : ((s1 : Int) != (p.seq : Int) + 1) = true := by simp at ht ⊢; omega
            have i4 : (p.seq : Int) ≤ 1073741823 := by omega
            clear hread ht hp hps hpt r1 r2 r3 hL hz
            have k2 : wr.cell? ⟨w.heap.size + 1, 2, none⟩ = some (.int .i64 (p.tail : Int)) := HQ.out.cell 2
            obtain ⟨wa, wc, rfl, _⟩ := HW.out.reads
            obtain ⟨ca, cc, rfl, _⟩ := HC.out.slice
            cases tn with
            | false =>
              have HZ2 : Hid ((Tryz.prog.info? 48).map (·.size) = some (#[.pointer (some ⟨d, 0, none⟩), .int .i64 (s : Int), .int .i64 (p.tail : Int), .bool false, .int .i64 (p.seq : Int), .slice wa p.whole.length wc, .slice ca p.changes.length cc] : Array Value).size) := hid HZ.out
              have HON : Hid (((#[.pointer (some ⟨d, 0, none⟩), .int .i64 (s : Int), .int .i64 (p.tail : Int), .bool false, .int .i64 (p.seq : Int), .slice wa p.whole.length wc, .slice ca p.changes.length cc] : Array Value).all (·.oneCell')) = true) := hid (by simp [Value.oneCell'])
              go_wp2_with (first
                | (go_at_call 83; ((with_reducible refine cf.mono ?_); rintro e w3 ⟨gg, c1, rfl, hgg, hrow, hb3⟩; have hq3 := HQ.out.later hb3; have m2 : w3.cell? ⟨w.heap.size + 1, 2, none⟩ = some (.int .i64 (p.tail : Int)) := hq3.cell 2; have m4 : w3.cell? ⟨w.heap.size + 1, 4, none⟩ = some (.int .i64 (p.seq : Int)) := hq3.cell 4; have hlt3 := hq3.lt; clear hq3; have hb3a := hb3.alloc hb3.size (.cells #[.int .i64 (k1 : Int), .int .i64 (s1 : Int), .slice (some ⟨gg, 0, none⟩) L.length c1] 118)))
                | (go_at_call 79; ((with_reducible refine (cbR _ (HBR.out.trans (hb3a.mono HBR.out.size))).mono ?_); rintro e w4 ⟨rfl, hb4⟩; have hb4 := hb3a.trans (hb4.mono hb3a.size); have hq4 := HQ.out.later hb4; have hr4 := HRB.out.later hb4; have q0 : w4.cell? ⟨w.heap.size + 1, 0, none⟩ = some (.pointer (some ⟨d, 0, none⟩)) := hq4.cell 0; have q1 : w4.cell? ⟨w.heap.size + 1, 1, none⟩ = some (.int .i64 (s : Int)) := hq4.cell 1; have q2 : w4.cell? ⟨w.heap.size + 1, 2, none⟩ = some (.int .i64 (p.tail : Int)) := hq4.cell 2; have q3 : w4.cell? ⟨w.heap.size + 1, 3, none⟩ = some (.bool false) := hq4.cell 3; have q4 : w4.cell? ⟨w.heap.size + 1, 4, none⟩ = some (.int .i64 (p.seq : Int)) := hq4.cell 4; have q5 : w4.cell? ⟨w.heap.size + 1, 5, none⟩ = some (.slice wa p.whole.length wc) := hq4.cell 5; have q6 : w4.cell? ⟨w.heap.size + 1, 6, none⟩ = some (.slice ca p.changes.length cc) := hq4.cell 6; have f3 := hq4.frozen 3; have hr5 := hr4.apart (w.heap.size + 1) 3 (.bool false) (by omega); have HTH : Hid ((w4.setCell ⟨w.heap.size + 1, 3, none⟩ (.bool false)).there w.heap.size 0 (#[.pointer (some ⟨d, 0, none⟩), .int .i64 (s : Int), .int .i64 (p.tail : Int), .bool false, .int .i64 (p.seq : Int), .slice wa p.whole.length wc, .slice ca p.changes.length cc] : Array Value).size) := hid (hr5.there 0 7 (by simp)); have HR5 := hid hr5; have HB4 := hid hb4; clear hq4 hr4 hr5 hb4))
                | (with_reducible refine wpList_store_named rfl 48 (.tmp 4) (.tmp 82) rfl w.heap.size 0 #[.pointer (some ⟨d, 0, none⟩), .int .i64 (s : Int), .int .i64 (p.tail : Int), .bool false, .int .i64 (p.seq : Int), .slice wa p.whole.length wc, .slice ca p.changes.length cc] rfl rfl HTH.out HZ2.out HON.out ?_))
              intro w6 hw6
              have hB6 : Block w6 w.heap.size 48 [.pointer (some ⟨d, 0, none⟩), .int .i64 (s : Int), .int .i64 (p.tail : Int), .bool false, .int .i64 (p.seq : Int), .slice wa p.whole.length wc, .slice ca p.changes.length cc] := by
                have := HR5.out.setCells (vs := [.pointer (some ⟨d, 0, none⟩), .int .i64 (s : Int), .int .i64 (p.tail : Int), .bool false, .int .i64 (p.seq : Int), .slice wa p.whole.length wc, .slice ca p.changes.length cc]) (o := 0)
                rw [put_all _ _ (by simp)] at this
                rw [← hw6.out]
                exact this
              have hO : Only (fun y => y = w.heap.size + 1 ∨ y = w.heap.size) wr w6 := by
                rw [← hw6.out]
                have h1 := (Only.of (S := fun y => y = w.heap.size + 1 ∨ y = w.heap.size) HB4.out).setCell (g := w.heap.size + 1) (.inl (.inl rfl)) 3 (.bool false)
                exact only_setCells h1 (.inr rfl) 0 _
              have hX6 : ∀ y, X y → ¬ (y = w.heap.size + 1 ∨ y = w.heap.size) := fun y hy h => h.elim (HX.out y hy).2.2.1 (HX.out y hy).2.2.2
              go_wp2
              refine bodyPost_ret (results_cell (b := w.heap.size) (o := 0) rfl rfl hB6.whole Tryz.underlying48 rfl HZ.out) rfl ?_
              refine ⟨X, _, _, rfl, HW.out.stays (.only hO hX6), HC.out.stays (.only hO hX6), fun y hy => ⟨(HX.out y hy).1, Nat.lt_of_lt_of_le (HX.out y hy).2.1 hO.size⟩, HBR.out.trans (hO.below HBR.out.size fun y hy => by rcases hy with rfl | rfl <;> omega)⟩
            | true =>
              have HZ2 : Hid ((Tryz.prog.info? 48).map (·.size) = some (#[.pointer (some ⟨d, 0, none⟩), .int .i64 (s : Int), .int .i64 (p.tail : Int), .bool true, .int .i64 (p.seq : Int), .slice wa p.whole.length wc, .slice ca p.changes.length cc] : Array Value).size) := hid HZ.out
              have HON : Hid (((#[.pointer (some ⟨d, 0, none⟩), .int .i64 (s : Int), .int .i64 (p.tail : Int), .bool true, .int .i64 (p.seq : Int), .slice wa p.whole.length wc, .slice ca p.changes.length cc] : Array Value).all (·.oneCell')) = true) := hid (by simp [Value.oneCell'])
              go_wp2_with (first
                | (go_at_call 83; ((with_reducible refine cf.mono ?_); rintro e w3 ⟨gg, c1, rfl, hgg, hrow, hb3⟩; have hq3 := HQ.out.later hb3; have m2 : w3.cell? ⟨w.heap.size + 1, 2, none⟩ = some (.int .i64 (p.tail : Int)) := hq3.cell 2; have m4 : w3.cell? ⟨w.heap.size + 1, 4, none⟩ = some (.int .i64 (p.seq : Int)) := hq3.cell 4; have hlt3 := hq3.lt; clear hq3; have hb3a := hb3.alloc hb3.size (.cells #[.int .i64 (k1 : Int), .int .i64 (s1 : Int), .slice (some ⟨gg, 0, none⟩) L.length c1] 118)))
                | (go_at_call 79; ((with_reducible refine (cbR _ (HBR.out.trans (hb3a.mono HBR.out.size))).mono ?_); rintro e w4 ⟨rfl, hb4⟩; have hb4 := hb3a.trans (hb4.mono hb3a.size); have hq4 := HQ.out.later hb4; have hr4 := HRB.out.later hb4; have q0 : w4.cell? ⟨w.heap.size + 1, 0, none⟩ = some (.pointer (some ⟨d, 0, none⟩)) := hq4.cell 0; have q1 : w4.cell? ⟨w.heap.size + 1, 1, none⟩ = some (.int .i64 (s : Int)) := hq4.cell 1; have q2 : w4.cell? ⟨w.heap.size + 1, 2, none⟩ = some (.int .i64 (p.tail : Int)) := hq4.cell 2; have q3 : w4.cell? ⟨w.heap.size + 1, 3, none⟩ = some (.bool false) := hq4.cell 3; have q4 : w4.cell? ⟨w.heap.size + 1, 4, none⟩ = some (.int .i64 (p.seq : Int)) := hq4.cell 4; have q5 : w4.cell? ⟨w.heap.size + 1, 5, none⟩ = some (.slice wa p.whole.length wc) := hq4.cell 5; have q6 : w4.cell? ⟨w.heap.size + 1, 6, none⟩ = some (.slice ca p.changes.length cc) := hq4.cell 6; have f3 := hq4.frozen 3; have hr5 := hr4.apart (w.heap.size + 1) 3 (.bool true) (by omega); have HTH : Hid ((w4.setCell ⟨w.heap.size + 1, 3, none⟩ (.bool true)).there w.heap.size 0 (#[.pointer (some ⟨d, 0, none⟩), .int .i64 (s : Int), .int .i64 (p.tail : Int), .bool true, .int .i64 (p.seq : Int), .slice wa p.whole.length wc, .slice ca p.changes.length cc] : Array Value).size) := hid (hr5.there 0 7 (by simp)); have HR5 := hid hr5; have HB4 := hid hb4; clear hq4 hr4 hr5 hb4))
                | (with_reducible refine wpList_store_named rfl 48 (.tmp 4) (.tmp 82) rfl w.heap.size 0 #[.pointer (some ⟨d, 0, none⟩), .int .i64 (s : Int), .int .i64 (p.tail : Int), .bool true, .int .i64 (p.seq : Int), .slice wa p.whole.length wc, .slice ca p.changes.length cc] rfl rfl HTH.out HZ2.out HON.out ?_))
              intro w6 hw6
              have hB6 : Block w6 w.heap.size 48 [.pointer (some ⟨d, 0, none⟩), .int .i64 (s : Int), .int .i64 (p.tail : Int), .bool true, .int .i64 (p.seq : Int), .slice wa p.whole.length wc, .slice ca p.changes.length cc] := by
                have := HR5.out.setCells (vs := [.pointer (some ⟨d, 0, none⟩), .int .i64 (s : Int), .int .i64 (p.tail : Int), .bool true, .int .i64 (p.seq : Int), .slice wa p.whole.length wc, .slice ca p.changes.length cc]) (o := 0)
                rw [put_all _ _ (by simp)] at this
                rw [← hw6.out]
                exact this
              have hO : Only (fun y => y = w.heap.size + 1 ∨ y = w.heap.size) wr w6 := by
                rw [← hw6.out]
                have h1 := (Only.of (S := fun y => y = w.heap.size + 1 ∨ y = w.heap.size) HB4.out).setCell (g := w.heap.size + 1) (.inl (.inl rfl)) 3 (.bool true)
                exact only_setCells h1 (.inr rfl) 0 _
              have hX6 : ∀ y, X y → ¬ (y = w.heap.size + 1 ∨ y = w.heap.size) := fun y hy h => h.elim (HX.out y hy).2.2.1 (HX.out y hy).2.2.2
              go_wp2
              refine bodyPost_ret (results_cell (b := w.heap.size) (o := 0) rfl rfl hB6.whole Tryz.underlying48 rfl HZ.out) rfl ?_
              refine ⟨X, _, _, rfl, HW.out.stays (.only hO hX6), HC.out.stays (.only hO hX6), fun y hy => ⟨(HX.out y hy).1, Nat.lt_of_lt_of_le (HX.out y hy).2.1 hO.size⟩, HBR.out.trans (hO.below HBR.out.size fun y hy => by rcases hy with rfl | rfl <;> omega)⟩
        | true =>
          have hsc2 := scan_some (n := N - k - 1) (p := p) hread ht
          rw [show N - k - 1 + 1 = N - k by omega] at hsc2
          rw [hsc2, List.drop_drop, show p.tail + (L.length + 3) = (p.add k1 s1 L).tail from (Part.add_tail p k1 s1 L).symm, show N - k - 1 = N - (k + 1) by omega] at hpr
          have hps2 := hps.add r1 hL ht
          have hpt2 : (p.add k1 s1 L).tail ≤ N := by rw [Part.add_tail]; omega
          have HNX := hid (And.intro hps2 (And.intro hpt2 hpr))
          have HCH := hid (show p.changes.length ≤ 8192 by have := hps.count; omega)
          have HTT := hid (show p.tail + (L.length + 3) ≤ 8192 by omega)
          unfold Part.takes at ht
          by_cases hz : p.seq = 0
          · rw [if_pos hz] at ht
            have e1 : ((p.seq : Int) == 0) = true := by simp; omega
            have e5 : ((p.seq : Int) != 0) = false := by simp; omega
            have e2 : ((k1 : Int) != 1) = false := by simp at ht ⊢; omega
            clear hread ht hp hps hpt r1 r2 r3 hL hz hpr hsc2 hps2 hpt2
            go_wp2_with (first
              | (go_at_call 83; ((with_reducible refine cf.mono ?_); rintro e w3 ⟨gg, c1, rfl, hgg, hrow, hb3⟩; have hq3 := HQ.out.later hb3; have m2 : w3.cell? ⟨w.heap.size + 1, 2, none⟩ = some (.int .i64 (p.tail : Int)) := hq3.cell 2; have m4 : w3.cell? ⟨w.heap.size + 1, 4, none⟩ = some (.int .i64 (p.seq : Int)) := hq3.cell 4; have hlt3 := hq3.lt; clear hq3; have hb3a := hb3.alloc hb3.size (.cells #[.int .i64 (k1 : Int), .int .i64 (s1 : Int), .slice (some ⟨gg, 0, none⟩) L.length c1] 118); have hrow3 := hrow.later ((Below.refl w3.heap.size w3).alloc (Nat.le_refl _) (.cells #[.int .i64 (k1 : Int), .int .i64 (s1 : Int), .slice (some ⟨gg, 0, none⟩) L.length c1] 118)); have ca := refAdd_any (X := X) (k := k1) (s := s1) p (HQ.out.later hb3a) (HW.out.stays (.below hb3a)) (HC.out.stays (.below hb3a)) (fun hx => (HX.out _ hx).2.2.1 rfl) hrow3 (by omega) rfl HTT.out HCH.out; rw [show ((L.length + 3 : Nat) : Int) = (L.length : Int) + 3 by omega] at ca))
              | (go_at_call 65; ((with_reducible refine ca.mono ?_); rintro e w5 ⟨rfl, hadd⟩)))
            exact ⟨⟨k + 1, by omega, by go_num, _, HNX, hid (scan_added HRB.out HX.out HRD.out HXB.out HBR.out hwr hb3a hgg hadd)⟩, by simp [intOf]; omega⟩
          · rw [if_neg hz] at ht
            have e1 : ((p.seq : Int) == 0) = false := by simp; omega
            have e4 : ((p.seq : Int) != 0) = true := by simp; omega
            have e3 : ((s1 : Int) != (p.seq : Int) + 1) = false := by simp at ht ⊢; omega
            have i4 : (p.seq : Int) ≤ 1073741823 := by omega
            clear hread ht hp hps hpt r1 r2 r3 hL hz hpr hsc2 hps2 hpt2
            go_wp2_with (first
              | (go_at_call 83; ((with_reducible refine cf.mono ?_); rintro e w3 ⟨gg, c1, rfl, hgg, hrow, hb3⟩; have hq3 := HQ.out.later hb3; have m2 : w3.cell? ⟨w.heap.size + 1, 2, none⟩ = some (.int .i64 (p.tail : Int)) := hq3.cell 2; have m4 : w3.cell? ⟨w.heap.size + 1, 4, none⟩ = some (.int .i64 (p.seq : Int)) := hq3.cell 4; have hlt3 := hq3.lt; clear hq3; have hb3a := hb3.alloc hb3.size (.cells #[.int .i64 (k1 : Int), .int .i64 (s1 : Int), .slice (some ⟨gg, 0, none⟩) L.length c1] 118); have hrow3 := hrow.later ((Below.refl w3.heap.size w3).alloc (Nat.le_refl _) (.cells #[.int .i64 (k1 : Int), .int .i64 (s1 : Int), .slice (some ⟨gg, 0, none⟩) L.length c1] 118)); have ca := refAdd_any (X := X) (k := k1) (s := s1) p (HQ.out.later hb3a) (HW.out.stays (.below hb3a)) (HC.out.stays (.below hb3a)) (fun hx => (HX.out _ hx).2.2.1 rfl) hrow3 (by omega) rfl HTT.out HCH.out; rw [show ((L.length + 3 : Nat) : Int) = (L.length : Int) + 3 by omega] at ca))
              | (go_at_call 65; ((with_reducible refine ca.mono ?_); rintro e w5 ⟨rfl, hadd⟩)))
            exact ⟨⟨k + 1, by omega, by go_num, _, HNX, hid (scan_added HRB.out HX.out HRD.out HXB.out HBR.out hwr hb3a hgg hadd)⟩, by simp [intOf]; omega⟩
    · obtain rfl : k = N := by omega
      have hpR : p = R := by
        have := hp.out.2.2
        rw [Nat.sub_self] at this
        exact this
      subst hpR
      have k2 : wr.cell? ⟨w.heap.size + 1, 2, none⟩ = some (.int .i64 (p.tail : Int)) := HQ.out.cell 2
      obtain ⟨wa, wc, rfl, _⟩ := HW.out.reads
      obtain ⟨ca, cc, rfl, _⟩ := HC.out.slice
      cases tn with
      | false =>
        have HZ2 : Hid ((Tryz.prog.info? 48).map (·.size) = some (#[.pointer (some ⟨d, 0, none⟩), .int .i64 (s : Int), .int .i64 (p.tail : Int), .bool false, .int .i64 (p.seq : Int), .slice wa p.whole.length wc, .slice ca p.changes.length cc] : Array Value).size) := hid HZ.out
        have HON : Hid (((#[.pointer (some ⟨d, 0, none⟩), .int .i64 (s : Int), .int .i64 (p.tail : Int), .bool false, .int .i64 (p.seq : Int), .slice wa p.whole.length wc, .slice ca p.changes.length cc] : Array Value).all (·.oneCell')) = true) := hid (by simp [Value.oneCell'])
        go_wp2_with (first
          | (go_at_call 79; ((with_reducible refine (cbR _ HBR.out).mono ?_); rintro e w4 ⟨rfl, hb4⟩; have hq4 := HQ.out.later hb4; have hr4 := HRB.out.later hb4; have q0 : w4.cell? ⟨w.heap.size + 1, 0, none⟩ = some (.pointer (some ⟨d, 0, none⟩)) := hq4.cell 0; have q1 : w4.cell? ⟨w.heap.size + 1, 1, none⟩ = some (.int .i64 (s : Int)) := hq4.cell 1; have q2 : w4.cell? ⟨w.heap.size + 1, 2, none⟩ = some (.int .i64 (p.tail : Int)) := hq4.cell 2; have q3 : w4.cell? ⟨w.heap.size + 1, 3, none⟩ = some (.bool false) := hq4.cell 3; have q4 : w4.cell? ⟨w.heap.size + 1, 4, none⟩ = some (.int .i64 (p.seq : Int)) := hq4.cell 4; have q5 : w4.cell? ⟨w.heap.size + 1, 5, none⟩ = some (.slice wa p.whole.length wc) := hq4.cell 5; have q6 : w4.cell? ⟨w.heap.size + 1, 6, none⟩ = some (.slice ca p.changes.length cc) := hq4.cell 6; have f3 := hq4.frozen 3; have hr5 := hr4.apart (w.heap.size + 1) 3 (.bool false) (by omega); have HTH : Hid ((w4.setCell ⟨w.heap.size + 1, 3, none⟩ (.bool false)).there w.heap.size 0 (#[.pointer (some ⟨d, 0, none⟩), .int .i64 (s : Int), .int .i64 (p.tail : Int), .bool false, .int .i64 (p.seq : Int), .slice wa p.whole.length wc, .slice ca p.changes.length cc] : Array Value).size) := hid (hr5.there 0 7 (by simp)); have HR5 := hid hr5; have HB4 := hid hb4; clear hq4 hr4 hr5 hb4))
          | (with_reducible refine wpList_store_named rfl 48 (.tmp 4) (.tmp 82) rfl w.heap.size 0 #[.pointer (some ⟨d, 0, none⟩), .int .i64 (s : Int), .int .i64 (p.tail : Int), .bool false, .int .i64 (p.seq : Int), .slice wa p.whole.length wc, .slice ca p.changes.length cc] rfl rfl HTH.out HZ2.out HON.out ?_))
        intro w6 hw6
        have hB6 : Block w6 w.heap.size 48 [.pointer (some ⟨d, 0, none⟩), .int .i64 (s : Int), .int .i64 (p.tail : Int), .bool false, .int .i64 (p.seq : Int), .slice wa p.whole.length wc, .slice ca p.changes.length cc] := by
          have := HR5.out.setCells (vs := [.pointer (some ⟨d, 0, none⟩), .int .i64 (s : Int), .int .i64 (p.tail : Int), .bool false, .int .i64 (p.seq : Int), .slice wa p.whole.length wc, .slice ca p.changes.length cc]) (o := 0)
          rw [put_all _ _ (by simp)] at this
          rw [← hw6.out]
          exact this
        have hO : Only (fun y => y = w.heap.size + 1 ∨ y = w.heap.size) wr w6 := by
          rw [← hw6.out]
          have h1 := (Only.of (S := fun y => y = w.heap.size + 1 ∨ y = w.heap.size) HB4.out).setCell (g := w.heap.size + 1) (.inl (.inl rfl)) 3 (.bool false)
          exact only_setCells h1 (.inr rfl) 0 _
        have hX6 : ∀ y, X y → ¬ (y = w.heap.size + 1 ∨ y = w.heap.size) := fun y hy h => h.elim (HX.out y hy).2.2.1 (HX.out y hy).2.2.2
        go_wp2
        refine bodyPost_ret (results_cell (b := w.heap.size) (o := 0) rfl rfl hB6.whole Tryz.underlying48 rfl HZ.out) rfl ?_
        refine ⟨X, _, _, rfl, HW.out.stays (.only hO hX6), HC.out.stays (.only hO hX6), fun y hy => ⟨(HX.out y hy).1, Nat.lt_of_lt_of_le (HX.out y hy).2.1 hO.size⟩, HBR.out.trans (hO.below HBR.out.size fun y hy => by rcases hy with rfl | rfl <;> omega)⟩
      | true =>
        have HZ2 : Hid ((Tryz.prog.info? 48).map (·.size) = some (#[.pointer (some ⟨d, 0, none⟩), .int .i64 (s : Int), .int .i64 (p.tail : Int), .bool true, .int .i64 (p.seq : Int), .slice wa p.whole.length wc, .slice ca p.changes.length cc] : Array Value).size) := hid HZ.out
        have HON : Hid (((#[.pointer (some ⟨d, 0, none⟩), .int .i64 (s : Int), .int .i64 (p.tail : Int), .bool true, .int .i64 (p.seq : Int), .slice wa p.whole.length wc, .slice ca p.changes.length cc] : Array Value).all (·.oneCell')) = true) := hid (by simp [Value.oneCell'])
        go_wp2_with (first
          | (go_at_call 79; ((with_reducible refine (cbR _ HBR.out).mono ?_); rintro e w4 ⟨rfl, hb4⟩; have hq4 := HQ.out.later hb4; have hr4 := HRB.out.later hb4; have q0 : w4.cell? ⟨w.heap.size + 1, 0, none⟩ = some (.pointer (some ⟨d, 0, none⟩)) := hq4.cell 0; have q1 : w4.cell? ⟨w.heap.size + 1, 1, none⟩ = some (.int .i64 (s : Int)) := hq4.cell 1; have q2 : w4.cell? ⟨w.heap.size + 1, 2, none⟩ = some (.int .i64 (p.tail : Int)) := hq4.cell 2; have q3 : w4.cell? ⟨w.heap.size + 1, 3, none⟩ = some (.bool false) := hq4.cell 3; have q4 : w4.cell? ⟨w.heap.size + 1, 4, none⟩ = some (.int .i64 (p.seq : Int)) := hq4.cell 4; have q5 : w4.cell? ⟨w.heap.size + 1, 5, none⟩ = some (.slice wa p.whole.length wc) := hq4.cell 5; have q6 : w4.cell? ⟨w.heap.size + 1, 6, none⟩ = some (.slice ca p.changes.length cc) := hq4.cell 6; have f3 := hq4.frozen 3; have hr5 := hr4.apart (w.heap.size + 1) 3 (.bool true) (by omega); have HTH : Hid ((w4.setCell ⟨w.heap.size + 1, 3, none⟩ (.bool true)).there w.heap.size 0 (#[.pointer (some ⟨d, 0, none⟩), .int .i64 (s : Int), .int .i64 (p.tail : Int), .bool true, .int .i64 (p.seq : Int), .slice wa p.whole.length wc, .slice ca p.changes.length cc] : Array Value).size) := hid (hr5.there 0 7 (by simp)); have HR5 := hid hr5; have HB4 := hid hb4; clear hq4 hr4 hr5 hb4))
          | (with_reducible refine wpList_store_named rfl 48 (.tmp 4) (.tmp 82) rfl w.heap.size 0 #[.pointer (some ⟨d, 0, none⟩), .int .i64 (s : Int), .int .i64 (p.tail : Int), .bool true, .int .i64 (p.seq : Int), .slice wa p.whole.length wc, .slice ca p.changes.length cc] rfl rfl HTH.out HZ2.out HON.out ?_))
        intro w6 hw6
        have hB6 : Block w6 w.heap.size 48 [.pointer (some ⟨d, 0, none⟩), .int .i64 (s : Int), .int .i64 (p.tail : Int), .bool true, .int .i64 (p.seq : Int), .slice wa p.whole.length wc, .slice ca p.changes.length cc] := by
          have := HR5.out.setCells (vs := [.pointer (some ⟨d, 0, none⟩), .int .i64 (s : Int), .int .i64 (p.tail : Int), .bool true, .int .i64 (p.seq : Int), .slice wa p.whole.length wc, .slice ca p.changes.length cc]) (o := 0)
          rw [put_all _ _ (by simp)] at this
          rw [← hw6.out]
          exact this
        have hO : Only (fun y => y = w.heap.size + 1 ∨ y = w.heap.size) wr w6 := by
          rw [← hw6.out]
          have h1 := (Only.of (S := fun y => y = w.heap.size + 1 ∨ y = w.heap.size) HB4.out).setCell (g := w.heap.size + 1) (.inl (.inl rfl)) 3 (.bool true)
          exact only_setCells h1 (.inr rfl) 0 _
        have hX6 : ∀ y, X y → ¬ (y = w.heap.size + 1 ∨ y = w.heap.size) := fun y hy h => h.elim (HX.out y hy).2.2.1 (HX.out y hy).2.2.2
        go_wp2
        refine bodyPost_ret (results_cell (b := w.heap.size) (o := 0) rfl rfl hB6.whole Tryz.underlying48 rfl HZ.out) rfl ?_
        refine ⟨X, _, _, rfl, HW.out.stays (.only hO hX6), HC.out.stays (.only hO hX6), fun y hy => ⟨(HX.out y hy).1, Nat.lt_of_lt_of_le (HX.out y hy).2.1 hO.size⟩, HBR.out.trans (hO.below HBR.out.size fun y hy => by rcases hy with rfl | rfl <;> omega)⟩
end Go.Proofs.YtphifanacehppaaGreat.journal
