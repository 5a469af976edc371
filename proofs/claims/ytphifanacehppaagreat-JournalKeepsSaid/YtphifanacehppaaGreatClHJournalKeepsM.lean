/- Lemmas of the claim HJournalKeeps. Each says its own conditions. -/
import Derived.Test.YtphifanacehppaaGreatClHJournalKeepsL
import Derived.Test.YtphifanacehppaaGreatCmB
/- Contract of the reference's Open of layer 11, over a flash with power. No condition. -/
namespace Go.Proofs.YtphifanacehppaaGreat.journal
open Go Go.RowKit Go.Proofs.YtphifanacehppaaGreat.flash Go.Proofs.YtphifanacehppaaGreat.geom
set_option linter.unusedVariables false

/-- what Open gives -/
def ROpened (S : Nat → Prop) (d b : Nat) (g : Geo) (F : Fl) (w : World) (OV : Option Jv) (o : Ending) (w' : World) : Prop :=
  match OV with
  | none => o = .returned (.tuple #[.pointer none, .int .i64 8]) ∧ Below w.heap.size w w'
  | some J => ∃ j X wv cv, o = .returned (.tuple #[.pointer (some ⟨j, 0, none⟩), .int .i64 0]) ∧ w.heap.size ≤ j ∧ Below w.heap.size w w' ∧ (∀ y, X y → w.heap.size ≤ y ∧ y < w'.heap.size) ∧
      RJIn (fun x => (S x ∨ x = d) ∨ (X x ∨ x = j)) S X j d b g F J wv cv w'
theorem ropened_some {S X : Nat → Prop} {d b q A : Nat} {g : Geo} {F : Fl} {R : Part} {wv cv : Value} {w w' : World} {tn : Bool} (h : drive.RDriveAt S d b g F w) (hS : ∀ x, S x → x < w.heap.size)
    (hB : Block w' q 48 [.pointer (some ⟨d, 0, none⟩), .int .i64 (A : Int), .int .i64 (R.tail : Int), .bool tn, .int .i64 (R.seq : Int), wv, cv]) (hw : LoadAt X w' wv R.whole) (hc : LoadsAt X w' cv R.changes)
    (hX : ∀ y, X y → w.heap.size ≤ y ∧ y < w'.heap.size ∧ y ≠ q) (hq : w.heap.size ≤ q) (hb : Below w.heap.size w w') :
    ROpened S d b g F w (some ⟨A, R, tn⟩) (.returned (.tuple #[.pointer (some ⟨q, 0, none⟩), .int .i64 0])) w' := by
  have hd := h.lt
  have hql := hB.lt
  have hs := hb.size
  refine ⟨q, X, wv, cv, rfl, hq, hb, fun y hy => ⟨(hX y hy).1, (hX y hy).2.1⟩, h.later hb, hB, hw, hc, fun x hx hs => ?_, fun hs => ?_, fun hx => (hX _ hx).2.2 rfl, fun hx => ?_, by omega, fun x hx => ?_, fun x hx => ?_⟩
  · have := (hX x hx).1; have := hS x hs; omega
  · have := hS _ hs; omega
  · have := (hX _ hx).1; omega
  · rcases hx with hx | hx | hx | hx
    · exact .inl (.inl hx)
    · exact .inr (.inl hx)
    · exact .inr (.inr hx)
    · exact .inl (.inr hx)
  · rcases hx with (hx | rfl) | hx | rfl
    · have := hS x hx; omega
    · omega
    · exact (hX x hx).2.1
    · omega
set_option maxRecDepth 20000 in
set_option maxHeartbeats 3200000 in
theorem refOpen_this {S : Nat → Prop} {d b : Nat} {g : Geo} {F : Fl} {w : World} (h : drive.RDriveAt S d b g F w) (hS : ∀ x, S x → x < w.heap.size) (fits : Fits F g) (hd : F.dark = false) :
    Calls Tryz.prog 39 #[.pointer (some ⟨d, 0, none⟩)] w (ROpened S d b g F w (openV F g)) := by
  have c0 := scan_this h fits hd 0 (by decide)
  have c1 : ∀ w', Below w.heap.size w w' → Calls Tryz.prog 62 #[.pointer (some ⟨d, 0, none⟩), .int .i64 1] w' (Scanned d 1 (said F g 1) (tornV F g 1 (said F g 1).tail) w') := fun w' hb => scan_this (h.later hb) fits hd 1 (by decide)
  rw [show ((0 : Nat) : Int) = 0 from rfl] at c0
  have hk0 := h.cells.1
  have hk1 : w.cell? ⟨b, 4, none⟩ = some (.bool false) := by
    obtain ⟨cm, gW, cW, gV, cV, h2⟩ := h.fl
    rw [← hd]
    exact h2.cell.2.2.2.2.1
  have HN : Hid ((said F g 0).seq = 0 ∧ (said F g 1).seq = 0 → openV F g = none) := hid fun k => by unfold openV; rw [if_pos k]
  have HA : Hid ((said F g 0).seq ≠ 0 → ¬ (said F g 0).seq < (said F g 1).seq → openV F g = some ⟨0, said F g 0, tornV F g 0 (said F g 0).tail⟩) := hid fun k1 k2 => by
    have hb : best F g = 0 := by unfold best; rw [if_neg k2]
    unfold openV; rw [if_neg (fun k => k1 k.1), hb]
  have HB : Hid ((said F g 0).seq < (said F g 1).seq → openV F g = some ⟨1, said F g 1, tornV F g 1 (said F g 1).tail⟩) := hid fun k => by
    have hb : best F g = 1 := by unfold best; rw [if_pos k]
    unfold openV; rw [if_neg (by omega), hb]
  have hso0 := (said_sound fits.ok g 0).seq
  have hso1 := (said_sound fits.ok g 1).seq
  obtain ⟨OV, hOV⟩ : ∃ OV, Hid (openV F g = OV) := ⟨_, rfl⟩
  rw [hOV.out] at HN HA HB ⊢
  have H := hid h
  have HS := hid hS
  clear h hS fits hd hOV
  generalize tornV F g 0 (said F g 0).tail = ta at *
  generalize tornV F g 1 (said F g 1).tail = tb at *
  generalize said F g 0 = P at *
  generalize said F g 1 = Q at *
  by_cases h1 : P.seq = 0
  · have i1 : ((P.seq : Int) == 0) = true := by simp; omega
    by_cases h2 : Q.seq = 0
    · have HO := hid (HN.out ⟨h1, h2⟩)
      have i2 : ((Q.seq : Int) == 0) = true := by simp; omega
      clear HN HA HB h1 h2
      go_enter Tryz.func39, Tryz.ntmps39
      go_wp2_with (first
        | (go_at_call 62; ((with_reducible refine c0.mono ?_); rintro e w1 ⟨X0, v0, u0, rfl, l0, m0, x0, hb1⟩; obtain ⟨a0, e0, rfl, _⟩ := l0.reads; obtain ⟨z0, y0, rfl, _⟩ := m0.slice; have L0 := hid l0; have M0 := hid m0; have X0' := hid x0; clear l0 m0 x0))
        | (go_at_call 62; ((with_reducible refine (c1 _ hb1).mono ?_); rintro e w2 ⟨X1, v1, u1, rfl, l1, m1, x1, hb2⟩; obtain ⟨a1, e1, rfl, _⟩ := l1.reads; obtain ⟨z1, y1, rfl, _⟩ := m1.slice; have L1 := hid l1; have M1 := hid m1; have X1' := hid x1; have HB1 := hid hb1; have HB2 := hid hb2; clear l1 m1 x1)))
      go_ret2
      rw [HO.out]
      exact ⟨rfl, (HB1.out.trans (HB2.out.mono HB1.out.size)).trans ((((Below.refl _ _).alloc (Nat.le_refl _) _).alloc (by simp) _).mono (HB1.out.trans (HB2.out.mono HB1.out.size)).size)⟩
    · have HO := hid (HB.out (by omega))
      have i2 : ((Q.seq : Int) == 0) = false := by simp; omega
      have i3 : (P.seq : Int) < (Q.seq : Int) := by omega
      clear HN HA HB h1 h2
      go_enter Tryz.func39, Tryz.ntmps39
      go_wp2_with (first
        | (go_at_call 62; ((with_reducible refine c0.mono ?_); rintro e w1 ⟨X0, v0, u0, rfl, l0, m0, x0, hb1⟩; obtain ⟨a0, e0, rfl, _⟩ := l0.reads; obtain ⟨z0, y0, rfl, _⟩ := m0.slice; have L0 := hid l0; have M0 := hid m0; have X0' := hid x0; clear l0 m0 x0))
        | (go_at_call 62; ((with_reducible refine (c1 _ hb1).mono ?_); rintro e w2 ⟨X1, v1, u1, rfl, l1, m1, x1, hb2⟩; obtain ⟨a1, e1, rfl, _⟩ := l1.reads; obtain ⟨z1, y1, rfl, _⟩ := m1.slice; have L1 := hid l1; have M1 := hid m1; have X1' := hid x1; have HB1 := hid hb1; have HB2 := hid hb2; clear l1 m1 x1)))
      go_ret2
      have h02 : Below w.heap.size w w2 := HB1.out.trans (HB2.out.mono HB1.out.size)
      have h24 : Below w2.heap.size w2 ((w2.alloc (.cells #[.pointer (some ⟨d, 0, none⟩), .int .i64 0, .int .i64 (P.tail : Int), .bool ta, .int .i64 (P.seq : Int), .slice a0 P.whole.length e0, .slice z0 P.changes.length y0] 48)).alloc (.cells #[.pointer (some ⟨d, 0, none⟩), .int .i64 1, .int .i64 (Q.tail : Int), .bool tb, .int .i64 (Q.seq : Int), .slice a1 Q.whole.length e1, .slice z1 Q.changes.length y1] 48)) := ((Below.refl _ _).alloc (Nat.le_refl _) _).alloc (by simp) _
      have h04 := h02.trans (h24.mono h02.size)
      have hs01 := HB1.out.size
      have hs12 := HB2.out.size
      have hs24 := h24.size
      have hbA := (Block.new w2 48 [.pointer (some ⟨d, 0, none⟩), .int .i64 0, .int .i64 (P.tail : Int), .bool ta, .int .i64 (P.seq : Int), .slice a0 P.whole.length e0, .slice z0 P.changes.length y0]).alloc (.cells #[.pointer (some ⟨d, 0, none⟩), .int .i64 1, .int .i64 (Q.tail : Int), .bool tb, .int .i64 (Q.seq : Int), .slice a1 Q.whole.length e1, .slice z1 Q.changes.length y1] 48)
      have hbB := Block.new (w2.alloc (.cells #[.pointer (some ⟨d, 0, none⟩), .int .i64 0, .int .i64 (P.tail : Int), .bool ta, .int .i64 (P.seq : Int), .slice a0 P.whole.length e0, .slice z0 P.changes.length y0] 48)) 48 [.pointer (some ⟨d, 0, none⟩), .int .i64 1, .int .i64 (Q.tail : Int), .bool tb, .int .i64 (Q.seq : Int), .slice a1 Q.whole.length e1, .slice z1 Q.changes.length y1]
      rw [show (w2.alloc (.cells #[.pointer (some ⟨d, 0, none⟩), .int .i64 0, .int .i64 (P.tail : Int), .bool ta, .int .i64 (P.seq : Int), .slice a0 P.whole.length e0, .slice z0 P.changes.length y0] 48)).heap.size = w2.heap.size + 1 by simp] at hbB
      rw [HO.out]
      exact ropened_some H.out HS.out hbB (L1.out.stays (.below h24)) (M1.out.stays (.below h24)) (fun y hy => by have := X1'.out y hy; omega) (by omega) h04
  · have i1 : ((P.seq : Int) == 0) = false := by simp; omega
    by_cases h2 : P.seq < Q.seq
    · have HO := hid (HB.out h2)
      have i3 : (P.seq : Int) < (Q.seq : Int) := by omega
      clear HN HA HB h1 h2
      go_enter Tryz.func39, Tryz.ntmps39
      go_wp2_with (first
        | (go_at_call 62; ((with_reducible refine c0.mono ?_); rintro e w1 ⟨X0, v0, u0, rfl, l0, m0, x0, hb1⟩; obtain ⟨a0, e0, rfl, _⟩ := l0.reads; obtain ⟨z0, y0, rfl, _⟩ := m0.slice; have L0 := hid l0; have M0 := hid m0; have X0' := hid x0; clear l0 m0 x0))
        | (go_at_call 62; ((with_reducible refine (c1 _ hb1).mono ?_); rintro e w2 ⟨X1, v1, u1, rfl, l1, m1, x1, hb2⟩; obtain ⟨a1, e1, rfl, _⟩ := l1.reads; obtain ⟨z1, y1, rfl, _⟩ := m1.slice; have L1 := hid l1; have M1 := hid m1; have X1' := hid x1; have HB1 := hid hb1; have HB2 := hid hb2; clear l1 m1 x1)))
      go_ret2
      have h02 : Below w.heap.size w w2 := HB1.out.trans (HB2.out.mono HB1.out.size)
      have h24 : Below w2.heap.size w2 ((w2.alloc (.cells #[.pointer (some ⟨d, 0, none⟩), .int .i64 0, .int .i64 (P.tail : Int), .bool ta, .int .i64 (P.seq : Int), .slice a0 P.whole.length e0, .slice z0 P.changes.length y0] 48)).alloc (.cells #[.pointer (some ⟨d, 0, none⟩), .int .i64 1, .int .i64 (Q.tail : Int), .bool tb, .int .i64 (Q.seq : Int), .slice a1 Q.whole.length e1, .slice z1 Q.changes.length y1] 48)) := ((Below.refl _ _).alloc (Nat.le_refl _) _).alloc (by simp) _
      have h04 := h02.trans (h24.mono h02.size)
      have hs01 := HB1.out.size
      have hs12 := HB2.out.size
      have hs24 := h24.size
      have hbA := (Block.new w2 48 [.pointer (some ⟨d, 0, none⟩), .int .i64 0, .int .i64 (P.tail : Int), .bool ta, .int .i64 (P.seq : Int), .slice a0 P.whole.length e0, .slice z0 P.changes.length y0]).alloc (.cells #[.pointer (some ⟨d, 0, none⟩), .int .i64 1, .int .i64 (Q.tail : Int), .bool tb, .int .i64 (Q.seq : Int), .slice a1 Q.whole.length e1, .slice z1 Q.changes.length y1] 48)
      have hbB := Block.new (w2.alloc (.cells #[.pointer (some ⟨d, 0, none⟩), .int .i64 0, .int .i64 (P.tail : Int), .bool ta, .int .i64 (P.seq : Int), .slice a0 P.whole.length e0, .slice z0 P.changes.length y0] 48)) 48 [.pointer (some ⟨d, 0, none⟩), .int .i64 1, .int .i64 (Q.tail : Int), .bool tb, .int .i64 (Q.seq : Int), .slice a1 Q.whole.length e1, .slice z1 Q.changes.length y1]
      rw [show (w2.alloc (.cells #[.pointer (some ⟨d, 0, none⟩), .int .i64 0, .int .i64 (P.tail : Int), .bool ta, .int .i64 (P.seq : Int), .slice a0 P.whole.length e0, .slice z0 P.changes.length y0] 48)).heap.size = w2.heap.size + 1 by simp] at hbB
      rw [HO.out]
      exact ropened_some H.out HS.out hbB (L1.out.stays (.below h24)) (M1.out.stays (.below h24)) (fun y hy => by have := X1'.out y hy; omega) (by omega) h04
    · have HO := hid (HA.out h1 h2)
      have i3 : ¬ (P.seq : Int) < (Q.seq : Int) := by omega
      clear HN HA HB h1 h2
      go_enter Tryz.func39, Tryz.ntmps39
      go_wp2_with (first
        | (go_at_call 62; ((with_reducible refine c0.mono ?_); rintro e w1 ⟨X0, v0, u0, rfl, l0, m0, x0, hb1⟩; obtain ⟨a0, e0, rfl, _⟩ := l0.reads; obtain ⟨z0, y0, rfl, _⟩ := m0.slice; have L0 := hid l0; have M0 := hid m0; have X0' := hid x0; clear l0 m0 x0))
        | (go_at_call 62; ((with_reducible refine (c1 _ hb1).mono ?_); rintro e w2 ⟨X1, v1, u1, rfl, l1, m1, x1, hb2⟩; obtain ⟨a1, e1, rfl, _⟩ := l1.reads; obtain ⟨z1, y1, rfl, _⟩ := m1.slice; have L1 := hid l1; have M1 := hid m1; have X1' := hid x1; have HB1 := hid hb1; have HB2 := hid hb2; clear l1 m1 x1)))
      go_ret2
      have h02 : Below w.heap.size w w2 := HB1.out.trans (HB2.out.mono HB1.out.size)
      have h24 : Below w2.heap.size w2 ((w2.alloc (.cells #[.pointer (some ⟨d, 0, none⟩), .int .i64 0, .int .i64 (P.tail : Int), .bool ta, .int .i64 (P.seq : Int), .slice a0 P.whole.length e0, .slice z0 P.changes.length y0] 48)).alloc (.cells #[.pointer (some ⟨d, 0, none⟩), .int .i64 1, .int .i64 (Q.tail : Int), .bool tb, .int .i64 (Q.seq : Int), .slice a1 Q.whole.length e1, .slice z1 Q.changes.length y1] 48)) := ((Below.refl _ _).alloc (Nat.le_refl _) _).alloc (by simp) _
      have h04 := h02.trans (h24.mono h02.size)
      have hs01 := HB1.out.size
      have hs12 := HB2.out.size
      have hs24 := h24.size
      have hbA := (Block.new w2 48 [.pointer (some ⟨d, 0, none⟩), .int .i64 0, .int .i64 (P.tail : Int), .bool ta, .int .i64 (P.seq : Int), .slice a0 P.whole.length e0, .slice z0 P.changes.length y0]).alloc (.cells #[.pointer (some ⟨d, 0, none⟩), .int .i64 1, .int .i64 (Q.tail : Int), .bool tb, .int .i64 (Q.seq : Int), .slice a1 Q.whole.length e1, .slice z1 Q.changes.length y1] 48)
      have hbB := Block.new (w2.alloc (.cells #[.pointer (some ⟨d, 0, none⟩), .int .i64 0, .int .i64 (P.tail : Int), .bool ta, .int .i64 (P.seq : Int), .slice a0 P.whole.length e0, .slice z0 P.changes.length y0] 48)) 48 [.pointer (some ⟨d, 0, none⟩), .int .i64 1, .int .i64 (Q.tail : Int), .bool tb, .int .i64 (Q.seq : Int), .slice a1 Q.whole.length e1, .slice z1 Q.changes.length y1]
      rw [show (w2.alloc (.cells #[.pointer (some ⟨d, 0, none⟩), .int .i64 0, .int .i64 (P.tail : Int), .bool ta, .int .i64 (P.seq : Int), .slice a0 P.whole.length e0, .slice z0 P.changes.length y0] 48)).heap.size = w2.heap.size + 1 by simp] at hbB
      rw [HO.out]
      exact ropened_some H.out HS.out hbA (L0.out.stays ((Stays.below HB2.out).trans (.below h24))) (M0.out.stays ((Stays.below HB2.out).trans (.below h24))) (fun y hy => by have := X0'.out y hy; omega) (by omega) h04
end Go.Proofs.YtphifanacehppaaGreat.journal
/- The flash of a geometry, when it is new. No condition. -/
namespace Go.Proofs.YtphifanacehppaaGreat.drive
open Go.Proofs.YtphifanacehppaaGreat.flash Go.Proofs.YtphifanacehppaaGreat.geom Go.Proofs.YtphifanacehppaaGreat.word
set_option linter.unusedVariables false

/-- the flash of a geometry, when it is new -/
def first (g : Geo) : Fl := Fl.fresh g.sectors.toNat g.sector.toNat
theorem right_bounds {g : Geo} (h : g.Right) : (64 ≤ g.sector ∧ g.sector ≤ 1024) ∧ (11 ≤ g.sectors ∧ g.sectors ≤ 194) := by
  have hs : g.sectors = 2 + 2 * g.slot + g.data := by unfold Geo.sectors; rw [if_pos h]
  unfold Geo.Right at h
  omega
theorem first_ok {g : Geo} (h : g.Right) : (first g).Ok := by
  have := right_bounds h
  exact Fl.Ok.fresh (by omega) (by omega) (by omega) (by omega)
theorem first_fit {g : Geo} (h : g.Right) : Fit (first g) g := by
  have := right_bounds h
  refine ⟨h, ?_, ?_⟩
  · simp only [first, Fl.fresh, List.length_replicate]; omega
  · simp only [first, Fl.fresh]; omega
end Go.Proofs.YtphifanacehppaaGreat.drive
