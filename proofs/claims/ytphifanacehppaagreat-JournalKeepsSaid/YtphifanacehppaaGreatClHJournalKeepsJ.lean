/- Lemmas of the claim HJournalKeeps. Each says its own conditions. -/
import Derived.Test.YtphifanacehppaaGreatClHJournalKeepsI
import Derived.Test.YtphifanacehppaaGreatCmF
import Derived.Test.YtphifanacehppaaGreatCmA
/- Contract of Open of layer 11, over a flash with power. No condition. -/
namespace Go.Proofs.YtphifanacehppaaGreat.journal
open Go.RowKit Go.Proofs.YtphifanacehppaaGreat.flash Go.Proofs.YtphifanacehppaaGreat.geom
set_option linter.unusedVariables false

theorem open_none (w : World) : Calls Tryz.prog 16 #[.pointer none] w (Quiet (.tuple #[.pointer none, .int .i64 1]) w) := by
  go_enter Tryz.func16, Tryz.ntmps16
  go_wp2
  go_ret2
  exact ⟨rfl, 0, rfl⟩
/-- the best of the first k sectors -/
def bestV (F : Fl) (g : Geo) : Nat → Nat × Part
  | 0 => (0, Part.zero)
  | k + 1 => if (bestV F g k).2.seq < (said F g k).seq then (k, said F g k) else bestV F g k
theorem openV_best (F : Fl) (g : Geo) : openV F g = if (bestV F g 2).2.seq = 0 then none else some ⟨(bestV F g 2).1, (bestV F g 2).2, tornV F g (bestV F g 2).1 (bestV F g 2).2.tail⟩ := by
  have h0 : bestV F g 1 = if 0 < (said F g 0).seq then (0, said F g 0) else (0, Part.zero) := rfl
  have h1 : bestV F g 2 = if (bestV F g 1).2.seq < (said F g 1).seq then (1, said F g 1) else bestV F g 1 := rfl
  unfold openV best
  rw [h1, h0]
  by_cases h : 0 < (said F g 0).seq
  · rw [if_pos h, if_neg (by omega)]
    by_cases k : (said F g 0).seq < (said F g 1).seq
    · simp only [if_pos k]
      rw [if_neg (by show ¬ (said F g 1).seq = 0; omega)]
    · simp only [if_neg k]
      rw [if_neg (by show ¬ (said F g 0).seq = 0; omega)]
  · rw [if_neg h]
    have z : Part.zero.seq = 0 := rfl
    by_cases k : 0 < (said F g 1).seq
    · rw [if_neg (by omega), if_pos (show (0, Part.zero).2.seq < (said F g 1).seq from k), if_pos (show (said F g 0).seq < (said F g 1).seq by omega)]
      rw [if_neg (by show ¬ (said F g 1).seq = 0; omega)]
    · rw [if_pos (by omega), if_neg (show ¬ (0, Part.zero).2.seq < (said F g 1).seq from k), if_pos (show Part.zero.seq = 0 from rfl)]
theorem bestV_sound {F : Fl} (ok : F.Ok) (g : Geo) : ∀ k, (bestV F g k).2.Sound ∧ (bestV F g k).2.tail ≤ g.sector.toNat
  | 0 => ⟨.zero, Nat.zero_le _⟩
  | k + 1 => by
    unfold bestV
    split
    · exact ⟨said_sound ok g k, said_tail F g k⟩
    · exact bestV_sound ok g k
theorem bestV_le (F : Fl) (g : Geo) : (bestV F g 2).1 ≤ 1 := by
  have h0 : bestV F g 1 = if 0 < (said F g 0).seq then (0, said F g 0) else (0, Part.zero) := rfl
  have h1 : bestV F g 2 = if (bestV F g 1).2.seq < (said F g 1).seq then (1, said F g 1) else bestV F g 1 := rfl
  rw [h1, h0]
  split <;> split <;> simp
/-- at the head of the loop: the journal at q says what the best of the sectors so far says -/
def OpenAt (d q : Nat) (A : Nat) (R : Part) (w wr : World) : Prop :=
  ∃ X wv cv, Block wr q 95 [.pointer (some ⟨d, 0, none⟩), .int .i64 (A : Int), .int .i64 (R.seq : Int), wv, cv, .int .i64 (R.tail : Int), .bool false] ∧ LoadAt X wr wv R.whole ∧ LoadsAt X wr cv R.changes ∧
    (∀ y, X y → w.heap.size ≤ y ∧ y < wr.heap.size ∧ y ≠ q) ∧ Below w.heap.size w wr
/-- the part that a sector's words make, in a new variable -/
def PartAt (w2 : World) (R : Part) (w3 : World) : Prop :=
  ∃ X' wv cv, Block w3 w2.heap.size 93 [.int .i64 (R.seq : Int), wv, cv, .int .i64 (R.tail : Int)] ∧ LoadAt X' w3 wv R.whole ∧ LoadsAt X' w3 cv R.changes ∧ (∀ y, X' y → w2.heap.size < y ∧ y < w3.heap.size) ∧ Below w2.heap.size w2 w3
theorem read_new {q N : Nat} {W : List Nat} {w2 : World} (hq : q < w2.heap.size) (hr : Reads .u32 w2 (some ⟨q, 0, none⟩) N W) (hW : ∀ y ∈ W, y < 4294967296) (hN : N ≤ 1024) :
    Calls Tryz.prog 45 #[.pointer (some ⟨w2.heap.size, 0, none⟩), .slice (some ⟨q, 0, none⟩) N N] (w2.alloc (.cells #[.int .i64 0, .slice none 0 0, .slice none 0 0, .int .i64 0] 93)) fun e w3 => e = .returned (.tuple #[]) ∧ PartAt w2 (scan N Part.zero W) w3 := by
  have hb : Below w2.heap.size w2 (w2.alloc (.cells #[.int .i64 0, .slice none 0 0, .slice none 0 0, .int .i64 0] 93)) := (Below.refl _ _).alloc (Nat.le_refl _) _
  refine (read_part (X := fun _ => False) (b := w2.heap.size) (o := 0) (T := 93) (cs := [.int .i64 0, .slice none 0 0, .slice none 0 0, .int .i64 0]) Part.zero (some ⟨q, 0, none⟩) N N W _ (Block.new w2 93 [.int .i64 0, .slice none 0 0, .slice none 0 0, .int .i64 0]) (by simp) rfl rfl rfl rfl .nil .nil (fun h => h) (fun y h => h.elim) .zero (hr.below hb) hW (Nat.le_refl _) (by unfold maxLen; omega) (by show 0 + N ≤ 8192; omega) (fun y hy => by
    cases hy
    exact ⟨Nat.lt_of_lt_of_le hq hb.size, by show q ≠ _; omega, fun h => h⟩)).mono ?_
  rintro e w3 ⟨he, X', wv, cv, k1, k2, k3, k4, k5, k6⟩
  refine ⟨he, X', wv, cv, k1, k2, k3, fun y hy => ⟨?_, (k4 y hy).1⟩, ?_⟩
  · rcases (k4 y hy).2 with h | h
    · exact h.elim
    · simp at h; omega
  · have := k6.below (B := w2.heap.size) hb.size (fun x hx => by
      rcases hx with rfl | hx
      · exact Nat.le_refl _
      · exact hx.elim)
    exact hb.trans this
/-- what Open gives -/
def Opened (S : Nat → Prop) (d b : Nat) (g : Geo) (F : Fl) (w : World) (OV : Option Jv) (o : Ending) (w' : World) : Prop :=
  match OV with
  | none => o = .returned (.tuple #[.pointer none, .int .i64 8]) ∧ Below w.heap.size w w'
  | some J => ∃ j X wv cv, o = .returned (.tuple #[.pointer (some ⟨j, 0, none⟩), .int .i64 0]) ∧ w.heap.size ≤ j ∧ Below w.heap.size w w' ∧ (∀ y, X y → w.heap.size ≤ y ∧ y < w'.heap.size) ∧
      JIn (fun x => (S x ∨ x = d) ∨ (X x ∨ x = j)) S X j d b g F J wv cv w'
theorem opened_last {S X : Nat → Prop} {d b A : Nat} {g : Geo} {F : Fl} {R : Part} {wv cv : Value} {w wr w1 : World} {tn : Bool} (h : drive.DriveAt S d b g F w) (hS : ∀ x, S x → x < w.heap.size)
    (hB : Block wr w.heap.size 95 [.pointer (some ⟨d, 0, none⟩), .int .i64 (A : Int), .int .i64 (R.seq : Int), wv, cv, .int .i64 (R.tail : Int), .bool false]) (hw : LoadAt X wr wv R.whole) (hc : LoadsAt X wr cv R.changes)
    (hX : ∀ y, X y → w.heap.size ≤ y ∧ y < wr.heap.size ∧ y ≠ w.heap.size) (hbr : Below w.heap.size w wr) (hb1 : Below wr.heap.size wr w1) :
    Opened S d b g F w (some ⟨A, R, tn⟩) (.returned (.tuple #[.pointer (some ⟨w.heap.size, 0, none⟩), .int .i64 0])) (w1.setCell ⟨w.heap.size, 6, none⟩ (.bool tn)) := by
  have hd := h.lt
  have hbw : Below w.heap.size w (w1.setCell ⟨w.heap.size, 6, none⟩ (.bool tn)) := (hbr.trans (hb1.mono hbr.size)).setCell (p := ⟨w.heap.size, 6, none⟩) (Nat.le_refl _) _
  have hO : Only (fun y => y = w.heap.size) wr (w1.setCell ⟨w.heap.size, 6, none⟩ (.bool tn)) := (Only.of (S := fun y => y = w.heap.size) hb1).setCell (g := w.heap.size) (.inl rfl) 6 _
  have hjl := hB.lt
  have hs := hO.size
  refine ⟨w.heap.size, X, wv, cv, rfl, Nat.le_refl _, hbw, fun y hy => ⟨(hX y hy).1, Nat.lt_of_lt_of_le (hX y hy).2.1 hs⟩, h.later hbw, (hB.later hb1).setCell 6 _, hw.stays (.only hO fun y hy => (hX y hy).2.2), hc.stays (.only hO fun y hy => (hX y hy).2.2), fun x hx hs => ?_, fun hs => ?_, fun hx => (hX _ hx).2.2 rfl, fun hx => ?_, by omega, fun x hx => ?_, fun x hx => ?_⟩
  · have := (hX x hx).1; have := hS x hs; omega
  · have := hS _ hs; omega
  · have := (hX _ hx).1; omega
  · rcases hx with hx | hx | hx | hx
    · exact .inl (.inl hx)
    · exact .inr (.inl hx)
    · exact .inr (.inr hx)
    · exact .inl (.inr hx)
  · rcases hx with (hx | rfl) | hx | rfl
    · have := hS x hx; omega
    · omega
    · have := (hX x hx).2.1; omega
    · omega
set_option maxRecDepth 20000 in
set_option maxHeartbeats 3200000 in
theorem open_this {S : Nat → Prop} {d b : Nat} {g : Geo} {F : Fl} {w : World} (h : drive.DriveAt S d b g F w) (hS : ∀ x, S x → x < w.heap.size) (fits : Fits F g) (hd : F.dark = false) :
    Calls Tryz.prog 16 #[.pointer (some ⟨d, 0, none⟩)] w (Opened S d b g F w (openV F g)) := by
  obtain ⟨b1, b2, b3, b4, b5⟩ := fits.bounds
  obtain ⟨N, hN⟩ := Int.eq_ofNat_of_zero_le (show 0 ≤ g.sector by omega)
  have hNt : g.sector.toNat = N := by omega
  have cg : ∀ w', Below w.heap.size w w' → Calls Tryz.prog 44 #[.pointer (some ⟨d, 0, none⟩)] w' fun e w2 => e = .returned (.agg #[.int .i64 (N : Int), .int .i64 g.slot, .int .i64 g.data, .int .i64 g.quota, .int .i64 g.tries, .int .i64 g.life]) ∧ Below w'.heap.size w' w2 := fun w' hb => by
    have := drive.geometry_any (h.later hb)
    rw [hN] at this
    exact this
  have cr : ∀ s : Nat, s ≤ 1 → ∀ w', Below w.heap.size w w' → Calls Tryz.prog 43 #[.pointer (some ⟨d, 0, none⟩), .int .i64 (s : Int), .int .i64 0, .int .i64 (N : Int)] w' fun e w2 => ∃ q, e = .returned (.tuple #[.slice (some ⟨q, 0, none⟩) N N, .int .i64 0]) ∧ w'.heap.size ≤ q ∧ q < w2.heap.size ∧ Reads .u32 w2 (some ⟨q, 0, none⟩) N (sec F g s) ∧ Below w'.heap.size w' w2 := fun s hs w' hb => by
    have hz := bad_in fits hd (s := s) (a := 0) (n := N) hs (by omega)
    refine (drive.read_good (h.later hb) fits.ok fits.ft (s : Int) 0 N hz).mono ?_
    rintro e w2 ⟨q, he, hq, hr, hb2⟩
    refine ⟨q, he, hq, ?_, by unfold sec; rw [hNt]; exact hr, hb2⟩
    rcases hr.2 with h0 | ⟨q', off, h1, h2, _⟩
    · omega
    · cases h1; exact h2
  have cb : ∀ A a : Nat, ∀ w', Below w.heap.size w w' → A ≤ 1 → a ≤ N → Calls Tryz.prog 46 #[.pointer (some ⟨d, 0, none⟩), .int .i64 (A : Int), .int .i64 (a : Int)] w' fun e w2 => e = .returned (.tuple #[.bool (!tornV F g A a), .int .i64 0]) ∧ Below w'.heap.size w' w2 := fun A a w' hb hA ha => by
    have hz := bad_in fits hd (s := A) (a := a) (n := N - a) hA (by omega)
    have := drive.blank_this (h.later hb) fits.ok fits.ft (A : Int) (a : Int) (by omega)
    unfold drive.blankAt at this
    rw [show g.sector - (a : Int) = ((N - a : Nat) : Int) by omega, if_neg (fun k => k hz)] at this
    refine this.mono ?_
    rintro e w2 ⟨he, hb2⟩
    refine ⟨?_, hb2⟩
    rw [he]
    unfold tornV
    rw [show g.sector - (a : Int) = ((N - a : Nat) : Int) by omega, Bool.not_not]
  have hdl := h.lt
  have HSL : Hid (∀ s, (sec F g s).length = N) := hid fun s => by rw [sec_length, hNt]
  have HSX : Hid (∀ s, ∀ y ∈ sec F g s, y < 4294967296) := hid fun s => sec_lt fits.ok g s
  have HSC : Hid (∀ s, scan N Part.zero (sec F g s) = said F g s) := hid fun s => by unfold said; rw [hNt]
  have HBS : Hid (∀ k, (bestV F g k).2.Sound ∧ (bestV F g k).2.tail ≤ N) := hid fun k => by have := bestV_sound fits.ok g k; rwa [hNt] at this
  have HSS : Hid (∀ s, (said F g s).Sound) := hid fun s => said_sound fits.ok g s
  have HBB : Hid (∀ k, bestV F g (k + 1) = if (bestV F g k).2.seq < (said F g k).seq then (k, said F g k) else bestV F g k) := hid fun k => rfl
  have HBL := hid (bestV_le F g)
  have HB0 : Hid (bestV F g 0 = (0, Part.zero)) := hid rfl
  have H := hid h
  have HS := hid hS
  have HN1 := hid b1
  have HN2 := hid b2
  have i1 : N ≤ 1024 := by omega
  have hst : OpenAt d w.heap.size 0 Part.zero w (w.alloc (.cells #[.pointer (some ⟨d, 0, none⟩), .int .i64 0, .int .i64 0, .slice none 0 0, .slice none 0 0, .int .i64 0, .bool false] 95)) :=
    ⟨fun _ => False, _, _, Block.new w 95 [.pointer (some ⟨d, 0, none⟩), .int .i64 0, .int .i64 0, .slice none 0 0, .slice none 0 0, .int .i64 0, .bool false], .nil, .nil, fun y hy => hy.elim, (Below.refl _ _).alloc (Nat.le_refl _) _⟩
  have HST := hid hst
  have HSEC : Hid (g.sector = N) := hid hN
  have HOP := hid (openV_best F g)
  obtain ⟨OV, hOV⟩ : ∃ OV, Hid (openV F g = OV) := ⟨_, rfl⟩
  rw [hOV.out] at HOP ⊢
  clear h hS fits hd b1 b2 b3 b4 b5 hst hNt hN
  generalize said F g = sd at *
  generalize bestV F g = bv at *
  have hfd : ∀ W, (Instr.field 23 (.agg #[.int .i64 (N : Int), .int .i64 g.slot, .int .i64 g.data, .int .i64 g.quota, .int .i64 g.tries, .int .i64 g.life]) 0).run Tryz.prog W = .ok (.int .i64 (N : Int)) W := fun W => drive.field_geo _ _ _ _ _ _ W
  go_enter Tryz.func16, Tryz.ntmps16
  go_wp2
  go_loopw [16] (fun i wr => ∃ k : Nat, k ≤ 2 ∧ i = .int .i64 (k : Int) ∧ Hid (OpenAt d w.heap.size (bv k).1 (bv k).2 w wr)) (fun i _ => 2 - (intOf i).toNat)
  case atStart => exact ⟨0, Nat.zero_le _, rfl, hid (by rw [HB0.out]; exact HST.out)⟩
  case round =>
    obtain ⟨k, hk, rfl, hop⟩ := hrel
    obtain ⟨X, wv, cv, hB, hw, hc, hX, hbr⟩ := hop.out
    by_cases hlt : k < 2
    · have i2 : (k : Int) < 2 := by omega
      have hk1 : k ≤ 1 := by omega
      have HX := hid hX
      have HB := hid hB
      have HW := hid hw
      have HC := hid hc
      clear hX hB hw hc hop
      obtain ⟨Q, hQ⟩ : ∃ Q, Hid (Q = bv k) := ⟨_, rfl⟩
      rw [← hQ.out] at HB HW HC
      obtain ⟨A, R⟩ := Q
      simp only at HB HW HC
      have cp := fun q w2 hql hrd => read_new (q := q) (w2 := w2) (W := sec F g k) hql hrd (HSX.out k) i1
      rw [HSC.out k] at cp
      have HBK := HBB.out k
      rw [← hQ.out] at HBK
      have HSK := hid (HSS.out k)
      generalize sd k = T at *
      by_cases hgt : R.seq < T.seq
      · rw [if_pos hgt] at HBK
        have i3 : (R.seq : Int) < (T.seq : Int) := by omega
        have HBK := hid HBK
        clear hgt
        go_wp2_with (first
          | (go_at_call 44; ((with_reducible refine (cg _ hbr).mono ?_); rintro e w1 ⟨rfl, hb1⟩))
          | (go_at_call 43; ((with_reducible refine (cr k hk1 _ (hbr.trans (hb1.mono hbr.size))).mono ?_); rintro e w2 ⟨q, rfl, hq, hql, hrd, hb2⟩))
          | (go_at_call 45; ((with_reducible refine (cp _ _ hql hrd).mono ?_); rintro e w3 ⟨rfl, X', wv', cv', k1, k2, k3, k4, k5⟩; obtain ⟨xa, xc, rfl, _⟩ := k2.reads; obtain ⟨ya, yc, rfl, _⟩ := k3.slice; have hB3 := ((HB.out.later hb1).later hb2).later k5; have HB3 := hid hB3; have hbr3 := ((hbr.trans (hb1.mono hbr.size)).trans (hb2.mono (Nat.le_trans hbr.size hb1.size))).trans (k5.mono (Nat.le_trans hbr.size (Nat.le_trans hb1.size hb2.size))); have HBR3 := hid hbr3; have HK5 := hid k5; have K5 := hid ((hb1.trans (hb2.mono hb1.size)).trans (k5.mono (Nat.le_trans hb1.size hb2.size))); have HSZ := hid (show wr.heap.size ≤ w2.heap.size from Nat.le_trans hb1.size hb2.size); have c0 : w3.cell? ⟨w2.heap.size, 0, none⟩ = some (.int .i64 (T.seq : Int)) := k1.cell 0; have c1 : w3.cell? ⟨w2.heap.size, 1, none⟩ = some (.slice xa T.whole.length xc) := k1.cell 1; have c2 : w3.cell? ⟨w2.heap.size, 2, none⟩ = some (.slice ya T.changes.length yc) := k1.cell 2; have c3 : w3.cell? ⟨w2.heap.size, 3, none⟩ = some (.int .i64 (T.tail : Int)) := k1.cell 3; have j2 : w3.cell? ⟨w.heap.size, 2, none⟩ = some (.int .i64 (R.seq : Int)) := hB3.cell 2; have j1 : w3.cell? ⟨w.heap.size, 1, none⟩ = some (.int .i64 (A : Int)) := hB3.cell 1; have j3 : w3.cell? ⟨w.heap.size, 3, none⟩ = some wv := hB3.cell 3; have j4 : w3.cell? ⟨w.heap.size, 4, none⟩ = some cv := hB3.cell 4; have j5 : w3.cell? ⟨w.heap.size, 5, none⟩ = some (.int .i64 (R.tail : Int)) := hB3.cell 5; have f1 := hB3.frozen 1; have f2 := hB3.frozen 2; have f3 := hB3.frozen 3; have f4 := hB3.frozen 4; have f5 := hB3.frozen 5; have K2 := hid k2; have K3 := hid k3; have K4 := hid k4; clear k2 k3 k4 hB3 k1 hbr3)))
        go_quiet (fail)
        go_wp2
        refine ⟨⟨k + 1, by omega, by go_num, hid ?_⟩, ?_⟩
        · rw [HBK.out]
          have hjl := HB.out.lt
          have hsz := HSZ.out
          have hO : Only (fun y => y = w.heap.size) w3 (((((((w3.drewN nq).setCell ⟨w.heap.size, 1, none⟩ (.int .i64 (k : Int))).setCell ⟨w.heap.size, 2, none⟩ (.int .i64 (T.seq : Int))).setCell ⟨w.heap.size, 3, none⟩ (.slice xa T.whole.length xc)).setCell ⟨w.heap.size, 4, none⟩ (.slice ya T.changes.length yc)).setCell ⟨w.heap.size, 5, none⟩ (.int .i64 (T.tail : Int)))) := ((((((Only.refl (fun y => y = w.heap.size) w3).drewN nq).setCell (g := w.heap.size) (.inl rfl) 1 _).setCell (g := w.heap.size) (.inl rfl) 2 _).setCell (g := w.heap.size) (.inl rfl) 3 _).setCell (g := w.heap.size) (.inl rfl) 4 _).setCell (g := w.heap.size) (.inl rfl) 5 _
          refine ⟨X', _, _, ((((((HB3.out.drewN nq).setCell 1 (.int .i64 (k : Int))).setCell 2 (.int .i64 (T.seq : Int))).setCell 3 (.slice xa T.whole.length xc)).setCell 4 (.slice ya T.changes.length yc)).setCell 5 (.int .i64 (T.tail : Int))), K2.out.stays (.only hO fun x hx e => ?_), K3.out.stays (.only hO fun x hx e => ?_), fun y hy => ?_, HBR3.out.trans (hO.below HBR3.out.size fun x hx => by rw [hx]; exact Nat.le_refl _)⟩
          · have := (K4.out x hx).1; omega
          · have := (K4.out x hx).1; omega
          · have h4 := K4.out y hy
            have := hO.size
            omega
        · simp [intOf]; omega
      · rw [if_neg hgt] at HBK
        have i3 : ¬ (R.seq : Int) < (T.seq : Int) := by omega
        have HBK := hid HBK
        clear hgt
        go_wp2_with (first
          | (go_at_call 44; ((with_reducible refine (cg _ hbr).mono ?_); rintro e w1 ⟨rfl, hb1⟩))
          | (go_at_call 43; ((with_reducible refine (cr k hk1 _ (hbr.trans (hb1.mono hbr.size))).mono ?_); rintro e w2 ⟨q, rfl, hq, hql, hrd, hb2⟩))
          | (go_at_call 45; ((with_reducible refine (cp _ _ hql hrd).mono ?_); rintro e w3 ⟨rfl, X', wv', cv', k1, k2, k3, k4, k5⟩; obtain ⟨xa, xc, rfl, _⟩ := k2.reads; obtain ⟨ya, yc, rfl, _⟩ := k3.slice; have hB3 := ((HB.out.later hb1).later hb2).later k5; have HB3 := hid hB3; have hbr3 := ((hbr.trans (hb1.mono hbr.size)).trans (hb2.mono (Nat.le_trans hbr.size hb1.size))).trans (k5.mono (Nat.le_trans hbr.size (Nat.le_trans hb1.size hb2.size))); have HBR3 := hid hbr3; have HK5 := hid k5; have K5 := hid ((hb1.trans (hb2.mono hb1.size)).trans (k5.mono (Nat.le_trans hb1.size hb2.size))); have HSZ := hid (show wr.heap.size ≤ w2.heap.size from Nat.le_trans hb1.size hb2.size); have c0 : w3.cell? ⟨w2.heap.size, 0, none⟩ = some (.int .i64 (T.seq : Int)) := k1.cell 0; have c1 : w3.cell? ⟨w2.heap.size, 1, none⟩ = some (.slice xa T.whole.length xc) := k1.cell 1; have c2 : w3.cell? ⟨w2.heap.size, 2, none⟩ = some (.slice ya T.changes.length yc) := k1.cell 2; have c3 : w3.cell? ⟨w2.heap.size, 3, none⟩ = some (.int .i64 (T.tail : Int)) := k1.cell 3; have j2 : w3.cell? ⟨w.heap.size, 2, none⟩ = some (.int .i64 (R.seq : Int)) := hB3.cell 2; have j1 : w3.cell? ⟨w.heap.size, 1, none⟩ = some (.int .i64 (A : Int)) := hB3.cell 1; have j3 : w3.cell? ⟨w.heap.size, 3, none⟩ = some wv := hB3.cell 3; have j4 : w3.cell? ⟨w.heap.size, 4, none⟩ = some cv := hB3.cell 4; have j5 : w3.cell? ⟨w.heap.size, 5, none⟩ = some (.int .i64 (R.tail : Int)) := hB3.cell 5; have f1 := hB3.frozen 1; have f2 := hB3.frozen 2; have f3 := hB3.frozen 3; have f4 := hB3.frozen 4; have f5 := hB3.frozen 5; have K2 := hid k2; have K3 := hid k3; have K4 := hid k4; clear k2 k3 k4 hB3 k1 hbr3)))
        go_quiet (fail)
        go_wp2
        refine ⟨⟨k + 1, by omega, by go_num, hid ?_⟩, ?_⟩
        · rw [HBK.out]
          have hjl := HB.out.lt
          have hsz := HSZ.out
          have hbw := below_drewN HBR3.out nq
          have hb3 := below_drewN K5.out nq
          refine ⟨X, wv, cv, HB3.out.drewN nq, HW.out.stays (.below hb3), HC.out.stays (.below hb3), fun y hy => ?_, hbw⟩
          have h4 := HX.out y hy
          have := hb3.size
          exact ⟨h4.1, Nat.lt_of_lt_of_le h4.2.1 this, h4.2.2⟩
        · simp [intOf]; omega
    · obtain rfl : k = 2 := by omega
      have hjl := hB.lt
      have hQS := HBS.out 2
      have hQL := HBL.out
      obtain ⟨Q, hQ⟩ : ∃ Q, Hid (Q = bv 2) := ⟨_, rfl⟩
      rw [← hQ.out] at hB hw hc hQS hQL HOP
      obtain ⟨A, R⟩ := Q
      simp only at hB hw hc hQS hQL HOP
      have j2 : wr.cell? ⟨w.heap.size, 2, none⟩ = some (.int .i64 (R.seq : Int)) := hB.cell 2
      by_cases hz : R.seq = 0
      · have HOV := hid (HOP.out.trans (if_pos hz))
        have hbr2 := hid hbr
        rw [hz] at j2
        clear hB hw hc hX hop hQS hQL hz
        go_wp2
        go_ret2
        rw [HOV.out]
        exact ⟨rfl, hbr2.out⟩
      · have HOV := hid (HOP.out.trans (if_neg hz))
        have i3 : ((R.seq : Int) == 0) = false := by simp; omega
        have hb0 : Below wr.heap.size wr wr.drew := below_drewN (Below.refl _ _) 1
        have cbb := cb A R.tail wr.drew (below_drewN hbr 1) hQL hQS.2
        have HKK : Hid (∀ w', Below wr.heap.size wr w' → w'.cell? ⟨w.heap.size, 1, none⟩ = some (.int .i64 (A : Int)) ∧ w'.cell? ⟨w.heap.size, 5, none⟩ = some (.int .i64 (R.tail : Int)) ∧ w'.cell? ⟨w.heap.size, 6, none⟩ = some (.bool false) ∧ w'.frozen? ⟨w.heap.size, 6, none⟩ = false) := hid fun w' hb => ⟨(hB.later hb).cell 1, (hB.later hb).cell 5, (hB.later hb).cell 6, (hB.later hb).frozen 6⟩
        have k0 := HKK.out wr (Below.refl _ _)
        have k1 := HKK.out _ hb0
        have HB := hid hB
        have HW := hid hw
        have HC := hid hc
        have HX := hid hX
        have HBR := hid hbr
        have i4 : R.tail ≤ 1024 := by omega
        clear hB hw hc hX hop hQS hQL hz
        cases htn : tornV F g A R.tail
        all_goals
          rw [htn] at cbb HOV
          go_wp2
          go_region_held3 (fun w' => w'.cell? ⟨w.heap.size, 1, none⟩ = some (.int .i64 (A : Int)) ∧ w'.cell? ⟨w.heap.size, 5, none⟩ = some (.int .i64 (R.tail : Int))) (first | assumption | go_keep) (
            (go_at_call 46; (with_reducible refine cbb.mono ?_); rintro e w1 ⟨rfl, hb1⟩; have hk2 := HKK.out w1 (hb0.trans hb1)))
          go_wp2
          go_ret2
          rw [HOV.out]
          exact opened_last H.out HS.out HB.out HW.out HC.out HX.out HBR.out (hb0.trans hb1)
end Go.Proofs.YtphifanacehppaaGreat.journal
/- What words are read as, told as the reference tells it. Plain lists, no condition. -/
namespace Go.Proofs.YtphifanacehppaaGreat.frame
open Go.RowKit Go.Proofs.YtphifanacehppaaGreat.word Go.Proofs.YtphifanacehppaaGreat.zeros
set_option linter.unusedVariables false

theorem readN_few (xs : List Nat) (h : xs.length < 4) : readN xs = none := by
  unfold readN
  rcases toldS_cases xs with h0 | ⟨n, h1, h2, h3, h4, h5⟩
  · rw [if_pos h0]
  · omega
theorem readN_not (xs : List Nat) (h : (toldN (xs.getD 0 0)).1 < 1 ∨ 56 < (toldN (xs.getD 0 0)).1 ∨ xs.length < (toldN (xs.getD 0 0)).1 + 3) : readN xs = none := by
  unfold readN
  rcases toldS_cases xs with h0 | ⟨n, h1, h2, h3, h4, h5⟩
  · rw [if_pos h0]
  · rw [h4] at h
    simp only at h
    omega
theorem readN_eq (xs : List Nat) (n : Nat) (hn : (toldN (xs.getD 0 0)).1 = n) (n1 : 1 ≤ n) (n2 : n ≤ 56) (h5 : n + 3 ≤ xs.length) (K S : Nat) (L : List Nat)
    (hK : K = xs.getD 1 0 / 1073741824) (hS : S = xs.getD 1 0 % 1073741824) (hLd : L = (xs.take (n + 2)).drop 2) :
    readN xs = if okB K S n = true ∧ words K S L = xs.take (n + 3) then some (K, S, L) else none := by
  have hL : L.length = n := by rw [hLd]; simp; omega
  have ht : toldN (xs.getD 0 0) = (n, true) := by
    have h := toldN_fst (x := xs.getD 0 0) (n := n) (b := (toldN (xs.getD 0 0)).2) (Prod.ext hn rfl) (by omega)
    exact Prod.ext hn h.2
  have hx0 := twin_of ht (by omega)
  by_cases h : okB K S n = true ∧ words K S L = xs.take (n + 3)
  · rw [if_pos h]
    have e : xs = words K S L ++ xs.drop (n + 3) := by rw [h.2, List.take_append_drop]
    rw [e]
    exact readN_words K S L _ (by rw [hL]; exact h.1)
  · rw [if_neg h]
    cases hr : readN xs with
    | none => rfl
    | some q =>
      obtain ⟨k, s, M⟩ := q
      obtain ⟨r1, r2, r3⟩ := readN_some hr
      obtain ⟨o1, o2, o3, o4, o5⟩ := okB_true.1 r1
      exfalso
      have g0 : xs.getD 0 0 = twinN M.length := by
        have : (xs.take (M.length + 3)).getD 0 0 = xs.getD 0 0 := by simp [List.getD_eq_getElem?_getD]
        rw [← this, r2]; rfl
      have g1 : xs.getD 1 0 = k * 1073741824 + s := by
        have : (xs.take (M.length + 3)).getD 1 0 = xs.getD 1 0 := by simp [List.getD_eq_getElem?_getD]
        rw [← this, r2]; rfl
      rw [g0, told_twin _ (by omega), Prod.mk.injEq] at ht
      have hM := ht.1
      have gK : K = k := by rw [hK, g1]; omega
      have gS : S = s := by rw [hS, g1]; omega
      have gL : L = M := by
        have e2 : xs.take (n + 2) = body k s M := by
          have : xs.take (n + 2) = (xs.take (n + 3)).take (n + 2) := by rw [List.take_take]; congr 1; omega
          rw [this, ← hM, r2]
          unfold words
          rw [List.take_append_of_le_length (by rw [body_length]; omega), List.take_of_length_le (by rw [body_length]; omega)]
        rw [hLd, e2]
        rfl
      apply h
      rw [gK, gS, gL, ← hM]
      exact ⟨r1, r2.symm⟩
end Go.Proofs.YtphifanacehppaaGreat.frame
