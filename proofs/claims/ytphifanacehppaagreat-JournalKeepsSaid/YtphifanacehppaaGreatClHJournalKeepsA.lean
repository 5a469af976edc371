/- Lemmas of the claim HJournalKeeps. Each says its own conditions. -/
import Derived.Test.YtphifanacehppaaGreatCmG
import Derived.Test.YtphifanacehppaaGreatCmB
import Derived.Test.YtphifanacehppaaGreatCmC
import Derived.Test.YtphifanacehppaaGreatCmE
import Derived.BigQuiet
/- Contract of layer 8's reference: Map. No condition. -/
namespace Go.Proofs.YtphifanacehppaaGreat.geom
open Go.RowKit
set_option linter.unusedVariables false

set_option maxHeartbeats 4000000 in
set_option maxRecDepth 8000 in
theorem map_any (g : Geo) (w : World) : Calls Tryz.prog 29 #[.agg #[.int .i64 g.sector, .int .i64 g.slot, .int .i64 g.data, .int .i64 g.quota, .int .i64 g.tries, .int .i64 g.life]] w (MapRes g w) := by
  have HS := hid (six g w)
  have HB := hid (belowNew g w)
  have hb0 : Below (w.alloc (.cells #[.int .i64 g.sector, .int .i64 g.slot, .int .i64 g.data, .int .i64 g.quota, .int .i64 g.tries, .int .i64 g.life] 23)).heap.size (w.alloc (.cells #[.int .i64 g.sector, .int .i64 g.slot, .int .i64 g.data, .int .i64 g.quota, .int .i64 g.tries, .int .i64 g.life] 23)) (w.alloc (.cells #[.int .i64 g.sector, .int .i64 g.slot, .int .i64 g.data, .int .i64 g.quota, .int .i64 g.tries, .int .i64 g.life] 23)) := Below.refl _ _
  by_cases h : g.Right
  · have cc := fun w1 hb => right_yes_at g h (w.alloc (.cells #[.int .i64 g.sector, .int .i64 g.slot, .int .i64 g.data, .int .i64 g.quota, .int .i64 g.tries, .int .i64 g.life] 23)) w1 hb
    obtain ⟨w0, hw0⟩ : ∃ x, Hid ((w.alloc (.cells #[.int .i64 g.sector, .int .i64 g.slot, .int .i64 g.data, .int .i64 g.quota, .int .i64 g.tries, .int .i64 g.life] 23)) = x) := ⟨_, rfl⟩
    rw [hw0.out] at HS HB hb0 cc
    have HR := hid h
    obtain ⟨_, ⟨h3, h4⟩, ⟨h5, h6⟩, ⟨h7, h8⟩, _⟩ := h
    have hk0 := HS.out w0 hb0
    go_enter Tryz.func29, Tryz.ntmps29
    go_wp2_with fail
    rw [hw0.out]
    go_wp2_with (first
      | (go_at_call 32; (with_reducible refine (cc _ hb0).mono ?_); rintro e w1 ⟨rfl, hb1⟩; have hk1 := HS.out w1 hb1))
    have HR3 : Hid (Row3 g w1 2 (.slice (some ⟨w1.heap.size, 0, none⟩) 2 2) (w1.alloc (.cells #[.int .i64 0, .int .i64 0, .int .i64 0, .int .i64 0, .int .i64 0, .int .i64 1] 105))) := hid (row3_start g HR.out w1)
    have HK : Hid (∀ w', Below w1.heap.size w1 w' → (w'.cell? ⟨w.heap.size, 0, none⟩ = some (.int .i64 g.sector) ∧ w'.cell? ⟨w.heap.size, 1, none⟩ = some (.int .i64 g.slot) ∧ w'.cell? ⟨w.heap.size, 2, none⟩ = some (.int .i64 g.data) ∧ w'.cell? ⟨w.heap.size, 3, none⟩ = some (.int .i64 g.quota) ∧ w'.cell? ⟨w.heap.size, 4, none⟩ = some (.int .i64 g.tries) ∧ w'.cell? ⟨w.heap.size, 5, none⟩ = some (.int .i64 g.life))) := hid (fun w' hb => HS.out w' (hb1.trans (hb.mono hb1.size)))
    have HBW : Hid (∀ w', Below w1.heap.size w1 w' → Below w.heap.size w w') := hid (fun w' hb => HB.out w' (hb1.trans (hb.mono hb1.size)))
    clear hk0 hk1 cc hb0 HS HB hw0 hb1
    go_loopw [3, 4] (fun l s wr => ∃ (k : Nat) (si : Int), s = .int .i64 si ∧ 0 ≤ si ∧ si ≤ 2 ∧ Hid ((k : Int) = 2 + si * g.slot) ∧ Hid (Row3 g w1 k l wr)) (fun _ s _ => (2 - intOf s).toNat)
    case atStart => exact ⟨2, 0, rfl, by omega, by omega, hid (by simp), HR3⟩
    case round =>
      obtain ⟨k, si, rfl, hs0, hs2, hk, hrow⟩ := hrel
      clear HR3
      obtain ⟨ra, rc, rfl⟩ := hrow.out.slice
      have HKW := HK.out wr hrow.out.2
      by_cases hlt : si < 2
      · have hs3 : si = 0 ∨ si = 1 := by omega
        have hk64 : k ≤ 66 := by have := hk.out; rcases hs3 with rfl | rfl <;> omega
        have hat : Hid (g.at (k : Int) = (1, si, 0)) := hid (by rw [hk.out]; exact (g.at_ledger HR.out si hs0 (by omega)).1)
        clear HKW hs3
        go_wp2_with (first
          | (at_builtin; refine wpList_append_tri rfl _ _ rfl g k _ rfl rfl hrow (by omega) _ _ _ hat ?_; clear hat hrow; intro v' w2 hrow2; obtain ⟨ra2, rc2, rfl⟩ := hrow2.out.slice))
        go_loopw [3, 5] (fun l i wr => ∃ m : Nat, i = .int .i64 (m : Int) ∧ (m : Int) + 1 ≤ g.slot ∧ Hid (Row3 g w1 (k + 1 + m) l wr)) (fun _ i _ => (g.slot - intOf i).toNat)
        case atStart => exact ⟨0, rfl, by omega, hrow2⟩
        case round =>
          obtain ⟨m, rfl, hm, hrow3⟩ := hrel
          clear hrow2
          obtain ⟨ra3, rc3, rfl⟩ := hrow3.out.slice
          have HKW := HK.out wr hrow3.out.2
          by_cases hlt3 : (m : Int) + 1 < g.slot
          · have hat : Hid (g.at ((k + 1 + m : Nat) : Int) = ((2 : Int), si, (m : Int))) := hid (by
              have := (g.at_chunk HR.out si m hs0 (by omega) (by omega) (by omega)).1
              rw [← this, ← hk.out]; congr 1)
            have hkm : k + 1 + m ≤ 1000 := by omega
            go_wp2_with (first
              | (at_builtin; refine wpList_append_tri rfl _ _ rfl g (k + 1 + m) _ rfl rfl hrow3 hkm _ _ _ hat ?_; clear hat hrow3; intro v' w4 hrow4; obtain ⟨ra4, rc4, rfl⟩ := hrow4.out.slice))
            exact ⟨⟨m + 1, by go_num, by omega, hrow4⟩, by simp [intOf]; omega⟩
          · have hkn : Hid (((k + 1 + m : Nat) : Int) = 2 + (si + 1) * g.slot) := hid (by
              have := hk.out
              rw [Int.add_mul]; omega)
            go_wp2
            exact ⟨⟨k + 1 + m, si + 1, rfl, by omega, by omega, hkn, hrow3⟩, by simp [intOf]; omega⟩
      · obtain rfl : si = 2 := by omega
        have hk2 : Hid ((k : Int) = 2 + 2 * g.slot) := hk
        clear hk
        go_wp2
        go_loopw [3, 6] (fun l p wr => ∃ m : Nat, p = .int .i64 (m : Int) ∧ (m : Int) ≤ g.data ∧ Hid (Row3 g w1 (k + m) l wr)) (fun _ p _ => (g.data - intOf p).toNat)
        case atStart => exact ⟨0, rfl, by omega, hrow⟩
        case round =>
          obtain ⟨m, rfl, hm, hrow3⟩ := hrel
          clear hrow HKW
          obtain ⟨ra3, rc3, rfl⟩ := hrow3.out.slice
          have HKW := HK.out wr hrow3.out.2
          by_cases hlt3 : (m : Int) < g.data
          · have hat : Hid (g.at ((k + m : Nat) : Int) = ((3 : Int), (0 : Int), (m : Int))) := hid (by
              have := (g.at_page HR.out m (by omega) (by omega)).1
              rw [← this, ← hk2.out]; congr 1)
            have hkm : k + m ≤ 1000 := by have := hk2.out; omega
            go_wp2_with (first
              | (at_builtin; refine wpList_append_tri rfl _ _ rfl g (k + m) _ rfl rfl hrow3 hkm _ _ _ hat ?_; clear hat hrow3; intro v' w4 hrow4; obtain ⟨ra4, rc4, rfl⟩ := hrow4.out.slice))
            exact ⟨⟨m + 1, by go_num, by omega, hrow4⟩, by simp [intOf]; omega⟩
          · have hn : Hid (((k + m : Nat) : Int) = g.sectors) := hid (by
              have := hk2.out
              rw [Geo.sectors, if_pos HR.out]; omega)
            go_wp2
            go_ret
            exact ⟨_, _, k + m, rfl, hn.out, hrow3.out.tris, HBW.out _ hrow3.out.2⟩
  · have cc := fun w1 hb => right_no_at g h (w.alloc (.cells #[.int .i64 g.sector, .int .i64 g.slot, .int .i64 g.data, .int .i64 g.quota, .int .i64 g.tries, .int .i64 g.life] 23)) w1 hb
    have hs : g.sectors = 0 := by rw [Geo.sectors, if_neg h]
    have HZ := hid hs
    clear h hs
    go_enter Tryz.func29, Tryz.ntmps29
    go_wp2_with (go_at_call 32; (with_reducible refine (cc _ hb0).mono ?_); rintro e w1 ⟨rfl, hb1⟩)
    go_ret
    exact ⟨none, 0, 0, rfl, HZ.out.symm, .inl rfl, HB.out _ hb1⟩
theorem map_at (g : Geo) (w0 w : World) (hb : Below w0.heap.size w0 w) : Calls Tryz.prog 29 #[.agg #[.int .i64 g.sector, .int .i64 g.slot, .int .i64 g.data, .int .i64 g.quota, .int .i64 g.tries, .int .i64 g.life]] w fun e w' => ∃ a cap n, e = .returned (.slice a n cap) ∧ Hid ((n : Int) = g.sectors) ∧ Below w0.heap.size w0 w' :=
  (map_any g w).mono fun _ _ ⟨a, c, n, he, hn, _, hw⟩ => ⟨a, c, n, he, hid hn, hb.trans (hw.mono hb.size)⟩
end Go.Proofs.YtphifanacehppaaGreat.geom
/- The reference's drive in the memory, and its contract: bad. No condition. -/
namespace Go.Proofs.YtphifanacehppaaGreat.drive
open Go.RowKit Go.Proofs.YtphifanacehppaaGreat.flash Go.Proofs.YtphifanacehppaaGreat.geom Go.Proofs.YtphifanacehppaaGreat.word
set_option linter.unusedVariables false

/-- the reference's flash becomes F; only what the flash had in S turns -/
def RTurn (S : Nat → Prop) (b : Nat) (F : Fl) (w w' : World) : Prop :=
  ∃ S', RefAt S' b F w' ∧ (∀ x, S' x → x < w'.heap.size ∧ (S x ∨ w.heap.size ≤ x)) ∧ Only S w w'
section
variable {S : Nat → Prop} {b : Nat} {F G : Fl} {w w1 w' : World}
theorem RefAt.clip {S : Nat → Prop} (h : RefAt S b F w) : RefAt (fun x => S x ∧ x < w.heap.size) b F w := by
  obtain ⟨cm, gW, cW, gV, cV, h⟩ := h
  exact ⟨_, _, _, _, _, h.clip⟩
theorem RTurn.of (h : RefAt S b F w) (k : Below w.heap.size w w') : RTurn S b F w w' :=
  ⟨_, RefAt.clip (h.later k), fun x hx => ⟨hx.2, .inl hx.1⟩, Only.of k⟩
theorem RTurn.before (hb : Below w.heap.size w w1) (k : RTurn S b F w1 w') : RTurn S b F w w' := by
  obtain ⟨S', h1, h2, h3⟩ := k
  exact ⟨S', h1, fun x hx => ⟨(h2 x hx).1, (h2 x hx).2.imp id fun h => Nat.le_trans hb.size h⟩, (Only.of hb).next h3 fun x hx _ => hx⟩
theorem RTurn.later (k : RTurn S b F w w1) (hb : Below w1.heap.size w1 w') : RTurn S b F w w' := by
  obtain ⟨S', h1, h2, h3⟩ := k
  exact ⟨S', h1.later hb, fun x hx => ⟨Nat.lt_of_lt_of_le (h2 x hx).1 hb.size, (h2 x hx).2⟩, h3.later hb⟩
theorem RTurn.join {S' : Nat → Prop} (h2 : ∀ x, S' x → x < w1.heap.size ∧ (S x ∨ w.heap.size ≤ x)) (h3 : Only S w w1) (k : RTurn S' b G w1 w') : RTurn S b G w w' := by
  obtain ⟨S2, k1, k2, k3⟩ := k
  refine ⟨S2, k1, fun x hx => ⟨(k2 x hx).1, ?_⟩, h3.next k3 fun x hx hlt => ?_⟩
  · rcases (k2 x hx).2 with h | h
    · exact (h2 x h).2
    · exact .inr (Nat.le_trans h3.size h)
  · rcases (h2 x hx).2 with h | h
    · exact h
    · omega
theorem RTurn.wide {T : Nat → Prop} (k : RTurn S b F w w') (h : ∀ x, S x → T x) : RTurn T b F w w' := by
  obtain ⟨S', h1, h2, h3⟩ := k
  exact ⟨S', h1, fun x hx => ⟨(h2 x hx).1, (h2 x hx).2.imp (h x) id⟩, h3.mono fun x hx _ => h x hx⟩
theorem RTurn.next (k : RTurn S b F w w1) (h : ∀ S', RefAt S' b F w1 → (∀ x, S' x → x < w1.heap.size ∧ (S x ∨ w.heap.size ≤ x)) → RTurn S' b G w1 w') : RTurn S b G w w' := by
  obtain ⟨S', h1, h2, h3⟩ := k
  obtain ⟨S2, k1, k2, k3⟩ := h S' h1 h2
  refine ⟨S2, k1, fun x hx => ⟨(k2 x hx).1, ?_⟩, h3.next k3 fun x hx hlt => ?_⟩
  · rcases (k2 x hx).2 with h | h
    · exact (h2 x h).2
    · exact .inr (Nat.le_trans h3.size h)
  · rcases (h2 x hx).2 with h | h
    · exact h
    · omega
end
/-- the reference's drive at block d: over its flash at b, with the geometry g -/
structure RDriveAt (S : Nat → Prop) (d b : Nat) (g : Geo) (F : Fl) (w : World) : Prop where
  blk : Block w d 79 [.pointer (some ⟨b, 0, none⟩), .int .i64 g.sector, .int .i64 g.slot, .int .i64 g.data, .int .i64 g.quota, .int .i64 g.tries, .int .i64 g.life]
  fl : RefAt S b F w
  nd : ¬ S d
section
variable {S T : Nat → Prop} {d b : Nat} {g : Geo} {F G : Fl} {w w1 w' : World}
theorem RDriveAt.later (h : RDriveAt S d b g F w) (k : Below w.heap.size w w') : RDriveAt S d b g F w' := ⟨h.blk.later k, h.fl.later k, h.nd⟩
theorem RDriveAt.cells (h : RDriveAt S d b g F w) : w.cell? ⟨d, 0, none⟩ = some (.pointer (some ⟨b, 0, none⟩)) ∧ w.cell? ⟨d, 1, none⟩ = some (.int .i64 g.sector) ∧ w.cell? ⟨d, 2, none⟩ = some (.int .i64 g.slot) ∧ w.cell? ⟨d, 3, none⟩ = some (.int .i64 g.data) ∧ w.cell? ⟨d, 4, none⟩ = some (.int .i64 g.quota) ∧ w.cell? ⟨d, 5, none⟩ = some (.int .i64 g.tries) ∧ w.cell? ⟨d, 6, none⟩ = some (.int .i64 g.life) := by
  simp only [h.blk.cell]
  exact ⟨rfl, rfl, rfl, rfl, rfl, rfl, rfl⟩
theorem RDriveAt.lt (h : RDriveAt S d b g F w) : d < w.heap.size := h.blk.lt
/-- the drive, behind a call that turned the flash -/
theorem RDriveAt.turn (h : RDriveAt S d b g F w) (k : RTurn S b G w w') : ∃ S', RDriveAt S' d b g G w' ∧ (∀ x, S' x → x < w'.heap.size ∧ (S x ∨ w.heap.size ≤ x)) ∧ Only S w w' := by
  obtain ⟨S', h1, h2, h3⟩ := k
  refine ⟨S', ⟨h.blk.only h3 h.nd, h1, fun hs => ?_⟩, h2, h3⟩
  rcases (h2 d hs).2 with h4 | h4
  · exact h.nd h4
  · have := h.lt; omega
/-- what is done behind a call that turned the flash -/
theorem RDriveAt.next {H : Fl} (h : RDriveAt S d b g F w) (k : RTurn S b G w w1) (r : ∀ S', RDriveAt S' d b g G w1 → (∀ x, S' x → x < w1.heap.size ∧ (S x ∨ w.heap.size ≤ x)) → RTurn S' b H w1 w') : RTurn S b H w w' :=
  k.next fun S' h1 h2 => r S' ⟨h.blk.only (by obtain ⟨_, _, _, h3⟩ := k; exact h3) h.nd, h1, fun hs => by
    rcases (h2 d hs).2 with h4 | h4
    · exact h.nd h4
    · have := h.lt; omega⟩ h2
end
theorem RDriveAt.seen {S : Nat → Prop} {d b : Nat} {g : Geo} {F : Fl} {w : World} (h : RDriveAt S d b g F w) : Hid (∀ w', Below w.heap.size w w' → w'.cell? ⟨d, 0, none⟩ = some (.pointer (some ⟨b, 0, none⟩)) ∧ w'.cell? ⟨d, 1, none⟩ = some (.int .i64 g.sector) ∧ w'.cell? ⟨d, 2, none⟩ = some (.int .i64 g.slot) ∧ w'.cell? ⟨d, 3, none⟩ = some (.int .i64 g.data) ∧ w'.cell? ⟨d, 4, none⟩ = some (.int .i64 g.quota) ∧ w'.cell? ⟨d, 5, none⟩ = some (.int .i64 g.tries) ∧ w'.cell? ⟨d, 6, none⟩ = some (.int .i64 g.life)) :=
  hid fun w' hb => (h.later hb).cells
set_option maxHeartbeats 4000000 in
theorem refBad_any {S : Nat → Prop} {d b : Nat} {g : Geo} {F : Fl} {w : World} (h : RDriveAt S d b g F w) (hr : g.Right) (s a n : Int) (ha : a ≤ 9223372036854775807) :
    Calls Tryz.prog 86 #[.pointer (some ⟨d, 0, none⟩), .int .i64 s, .int .i64 a, .int .i64 n] w fun e w' => e = .returned (.int .i64 (bad F g s a n)) ∧ Below w.heap.size w w' := by
  have HS := h.seen
  have hk0 := HS.out w (Below.refl _ _)
  have hd : ∀ w', Below w.heap.size w w' → w'.cell? ⟨b, 4, none⟩ = some (.bool F.dark) := fun w' hb => by
    obtain ⟨cm, gW, cW, gV, cV, h⟩ := (h.later hb).fl
    exact h.cell.2.2.2.2.1
  have cm : Calls Tryz.prog 29 #[.agg #[.int .i64 g.sector, .int .i64 g.slot, .int .i64 g.data, .int .i64 g.quota, .int .i64 g.tries, .int .i64 g.life]] w (MapRes g w) := map_any g w
  have hd0 := hd w (Below.refl _ _)
  obtain ⟨⟨r1, r2⟩, _⟩ := id hr
  have HSEC : Hid (g.sectors = g.sectors) := hid rfl
  obtain ⟨v, hv⟩ : ∃ v, Hid (bad F g s a n = v) := ⟨_, rfl⟩
  rw [hv.out]
  have HD := hid hd
  clear h hd
  unfold bad at hv
  generalize hT : g.sectors = T at *
  have HT := hid hT
  clear hT
  by_cases h1 : s < 0
  · go_enter Tryz.func86, Tryz.ntmps86
    go_wp2
    go_ret
    exact ⟨ret_int (by rw [← hv.out, if_neg (by omega)]), Below.refl _ _⟩
  by_cases h2 : T ≤ s
  · go_enter Tryz.func86, Tryz.ntmps86
    go_wp2_with (go_at_call 29; (with_reducible refine cm.mono ?_); rintro e w1 ⟨ma, mc, mn, rfl, hmn, _, hb1⟩; rw [HT.out] at hmn; have hk1 := HS.out w1 hb1; have hd1 := HD.out w1 hb1)
    go_ret
    exact ⟨ret_int (by rw [← hv.out, if_neg (by omega)]), hb1⟩
  by_cases h3 : a < 0
  · go_enter Tryz.func86, Tryz.ntmps86
    go_wp2_with (go_at_call 29; (with_reducible refine cm.mono ?_); rintro e w1 ⟨ma, mc, mn, rfl, hmn, _, hb1⟩; rw [HT.out] at hmn; have hk1 := HS.out w1 hb1; have hd1 := HD.out w1 hb1)
    go_ret
    exact ⟨ret_int (by rw [← hv.out, if_neg (by omega)]), hb1⟩
  by_cases h4 : g.sector < a
  · go_enter Tryz.func86, Tryz.ntmps86
    go_wp2_with (go_at_call 29; (with_reducible refine cm.mono ?_); rintro e w1 ⟨ma, mc, mn, rfl, hmn, _, hb1⟩; rw [HT.out] at hmn; have hk1 := HS.out w1 hb1; have hd1 := HD.out w1 hb1)
    go_ret
    exact ⟨ret_int (by rw [← hv.out, if_neg (by omega)]), hb1⟩
  by_cases h5 : n < 0
  · go_enter Tryz.func86, Tryz.ntmps86
    go_wp2_with (go_at_call 29; (with_reducible refine cm.mono ?_); rintro e w1 ⟨ma, mc, mn, rfl, hmn, _, hb1⟩; rw [HT.out] at hmn; have hk1 := HS.out w1 hb1; have hd1 := HD.out w1 hb1)
    go_ret
    exact ⟨ret_int (by rw [← hv.out, if_neg (by omega)]), hb1⟩
  by_cases h6 : g.sector - a < n
  · go_enter Tryz.func86, Tryz.ntmps86
    go_wp2_with (go_at_call 29; (with_reducible refine cm.mono ?_); rintro e w1 ⟨ma, mc, mn, rfl, hmn, _, hb1⟩; rw [HT.out] at hmn; have hk1 := HS.out w1 hb1; have hd1 := HD.out w1 hb1)
    go_ret
    exact ⟨ret_int (by rw [← hv.out, if_neg (by omega)]), hb1⟩
  have hv2 : Hid ((if F.dark = true then (10 : Int) else 0) = v) := hid (by rw [← hv.out, if_pos (show 0 ≤ s ∧ s < T ∧ 0 ≤ a ∧ 0 ≤ n ∧ n ≤ g.sector - a by omega)])
  cases hdk : F.dark
  all_goals
    rw [hdk] at hv2 HD hd0
    clear hv hdk
    go_enter Tryz.func86, Tryz.ntmps86
    go_wp2_with (go_at_call 29; (with_reducible refine cm.mono ?_); rintro e w1 ⟨ma, mc, mn, rfl, hmn, _, hb1⟩; rw [HT.out] at hmn; have hk1 := HS.out w1 hb1; have hd1 := HD.out w1 hb1)
    go_ret
    exact ⟨ret_int (by rw [← hv2.out]; rfl), hb1⟩
theorem refBad_from {S : Nat → Prop} {d b : Nat} {g : Geo} {F : Fl} {w0 w : World} (h : RDriveAt S d b g F w0) (hr : g.Right) (s a n : Int) (ha : a ≤ 9223372036854775807) (hb : Below w0.heap.size w0 w) :
    Calls Tryz.prog 86 #[.pointer (some ⟨d, 0, none⟩), .int .i64 s, .int .i64 a, .int .i64 n] w fun e w' => e = .returned (.int .i64 (bad F g s a n)) ∧ Below w0.heap.size w0 w' :=
  (refBad_any (h.later hb) hr s a n ha).mono fun _ _ ⟨he, hw⟩ => ⟨he, hb.trans (hw.mono hb.size)⟩
end Go.Proofs.YtphifanacehppaaGreat.drive
/- Contract of the reference's Read of layer 9. No condition. -/
namespace Go.Proofs.YtphifanacehppaaGreat.drive
open Go.RowKit Go.Proofs.YtphifanacehppaaGreat.flash Go.Proofs.YtphifanacehppaaGreat.geom Go.Proofs.YtphifanacehppaaGreat.word
set_option linter.unusedVariables false

theorem span_succ (F : Fl) (A k : Nat) : nums .u32 (span F A (k + 1)) = nums .u32 (span F A k) ++ [.int .u32 ((F.ws.getD (A + k) 0 : Nat) : Int)] := by
  unfold nums span
  rw [List.range_succ, List.map_append, List.map_append]; rfl
theorem refRead_bad {S : Nat → Prop} {d b : Nat} {g : Geo} {F : Fl} {w : World} (h : RDriveAt S d b g F w) (hr : g.Right) (s a n : Int) (ha : a ≤ 9223372036854775807) (hz : bad F g s a n ≠ 0) :
    Calls Tryz.prog 82 #[.pointer (some ⟨d, 0, none⟩), .int .i64 s, .int .i64 a, .int .i64 n] w fun e w' => e = .returned (.tuple #[.slice none 0 0, .int .i64 (bad F g s a n)]) ∧ Below w.heap.size w w' := by
  have cr := refBad_any h hr s a n ha
  have ho := bad_or F g s a n
  generalize bad F g s a n = z at *
  clear h hr
  rcases ho with rfl | rfl | rfl
  · exact absurd rfl hz
  all_goals
    clear hz
    go_enter Tryz.func82, Tryz.ntmps82
    go_wp2_with (go_at_call 86; (with_reducible refine cr.mono ?_); rintro e w1 ⟨rfl, hb1⟩)
    go_ret2
    exact ⟨rfl, hb1⟩
/-- what a later world still shows of the reference's words -/
def Words (d b : Nat) (g : Geo) (F : Fl) (w : World) (gW cW : Nat) : Prop :=
  ∀ w', Below w.heap.size w w' → w'.cell? ⟨d, 0, none⟩ = some (.pointer (some ⟨b, 0, none⟩)) ∧ w'.cell? ⟨d, 1, none⟩ = some (.int .i64 g.sector) ∧ w'.cell? ⟨b, 0, none⟩ = some (.slice (some ⟨gW, 0, none⟩) F.ws.length cW) ∧ ∀ i, i < F.ws.length → w'.cell? ⟨gW, i, none⟩ = some (.int .u32 ((F.ws.getD i 0 : Nat) : Int))
theorem RDriveAt.words {S : Nat → Prop} {d b : Nat} {g : Geo} {F : Fl} {w : World} (h : RDriveAt S d b g F w) : ∃ gW cW, Words d b g F w gW cW := by
  obtain ⟨cm, gW, cW, gV, cV, h1⟩ := h.fl
  refine ⟨gW, cW, fun w' hb => ⟨(h.later hb).cells.1, (h.later hb).cells.2.1, (h1.later hb).cell.1, fun i hi => (h1.later hb).ws.get hi⟩⟩
set_option maxHeartbeats 4000000 in
set_option maxRecDepth 20000 in
theorem refRead_full {S : Nat → Prop} {d b : Nat} {g : Geo} {F : Fl} {w : World} (h : RDriveAt S d b g F w) (ok : F.Ok) (ft : Fit F g) (s a : Int) (N : Nat) (hz : bad F g s a N = 0) :
    Calls Tryz.prog 82 #[.pointer (some ⟨d, 0, none⟩), .int .i64 s, .int .i64 a, .int .i64 (N : Int)] w fun e w' => ∃ x c, e = .returned (.tuple #[.slice x N c, .int .i64 0]) ∧ Reads .u32 w' x N (span F (addr g s a) N) ∧ Below w.heap.size w w' ∧ N ≤ c ∧ ∀ y, x = some y → w.heap.size ≤ y.block ∧ y.block < w'.heap.size := by
  obtain ⟨hin, hd⟩ := bad_zero hz
  obtain ⟨hA, hlen, p0, p1, n1, a1⟩ := addr_in ok ft hin
  have cr := refBad_any h ft.right s a N (by omega)
  rw [hz] at cr
  rw [Int.toNat_natCast] at hlen
  obtain ⟨q1, q2, q3, q4, q5⟩ := hin
  obtain ⟨gW, cW, hW⟩ := h.words
  have HW := hid hW
  have hws := ok.ws_le
  obtain ⟨P, hP⟩ := Int.eq_ofNat_of_zero_le p0
  obtain ⟨a', rfl⟩ := Int.eq_ofNat_of_zero_le q3
  have hAP : addr g s a' = P + a' := by omega
  rw [hAP] at hlen ⊢
  obtain ⟨i0, hi, hz0, hz1, hz2⟩ := info_parts u32_info
  clear h ok ft hz hA hd hW q1 q2 q5 p0 p1 hAP
  go_enter Tryz.func82, Tryz.ntmps82
  go_wp2_with (first
    | (go_at_call 86; (with_reducible refine cr.mono ?_); rintro e w1 ⟨rfl, hb1⟩))
  have HB1 := hid hb1
  clear hb1 cr
  go_loopw [11, 12] (fun v i wr => ∃ k : Nat, k ≤ N ∧ i = .int .i64 (k : Int) ∧ Hid (wr.ownsRow w.heap.size 43 1 v k (nums .u32 (span F (P + a') k))) ∧ Hid (Below w.heap.size w wr)) (fun _ i _ => N - (intOf i).toNat)
  case atStart => exact ⟨0, Nat.zero_le _, rfl, World.ownsRow_nil _ _ _ _, HB1⟩
  case round =>
    obtain ⟨k, hk, rfl, ho, hb⟩ := hrel
    by_cases hlt : k < N
    · obtain ⟨va, vc, rfl, hvc⟩ := ownsRow_slice ho.out
      obtain ⟨d0, d1, d2, d3⟩ := HW.out wr hb.out
      have d4 := d3 (P + a' + k) (by omega)
      have i1 : (k : Int) < N := by omega
      have i2 : (P : Int) + a' + k < F.ws.length := by omega
      have HSU := hid (span_succ F (P + a') k)
      clear d3
      generalize F.ws.getD (P + a' + k) 0 = x1 at *
      generalize hwl : F.ws.length = wl at *
      clear hwl
      go_wp2
      refine tail.regionFrom 1 21 (by kernel_rfl) (by kernel_rfl) ?_
      simp only [List.take_succ_cons, List.take_zero, List.drop_succ_cons, List.drop_zero]
      repeat (go_big_quiet_step (fail))
      refine wpQuiet_nil ?_
      rintro _ ⟨nq, rfl⟩
      have hbA : Below wr.heap.size wr ((wr.drewN nq).alloc (.cells #[.int .u32 (x1 : Int)] 43)) := (below_drewN (Below.refl _ _) nq).alloc (Nat.le_refl _) _
      have HOW : Hid (((wr.drewN nq).alloc (.cells #[.int .u32 (x1 : Int)] 43)).ownsRow w.heap.size 43 1 (.slice va k vc) k (nums .u32 (span F (P + a') k))) := hid (ownsRow_same ho.out fun x hx => hbA.block x (World.ownsRow.lt ho.out x hx).2)
      have HBA : Hid (Below w.heap.size w ((wr.drewN nq).alloc (.cells #[.int .u32 (x1 : Int)] 43))) := hid (hb.out.trans (hbA.mono hb.out.size))
      clear hbA ho
      go_wp2_with (at_builtin; refine wpList_append_at_from rfl _ _ 24 rfl w.heap.size 43 i0 (.int .u32 0) 4 Tryz.underlying24 hi hz0 hz1 hz2 rfl (.slice va k vc) k (nums .u32 (span F (P + a') k)) rfl HOW.out (some ⟨wr.heap.size, 0, none⟩) 1 1 [.int .u32 (x1 : Int)] rfl rfl (.inr ⟨_, rfl, one_new (wr.drewN nq) 43 (.int .u32 (x1 : Int))⟩) (one_cell rfl) (by unfold maxLen; omega) (by omega) HBA.out.size ?_)
      intro v' w3 ho3 hg3 _
      rw [← HSU.out] at ho3
      have HO3 := hid ho3
      have HB3 : Hid (Below w.heap.size w w3) := hid (HBA.out.grown hg3 HBA.out.size (fun k hk => (World.ownsRow.lt HOW.out k hk).1))
      clear ho3 hg3 HOW HBA
      go_wp2
      refine NoPanic.normal ?_
      go_wp2
      exact ⟨⟨k + 1, by omega, by go_num, HO3, HB3⟩, by simp [intOf]; omega⟩
    · obtain rfl : k = N := by omega
      obtain ⟨va, vc, rfl, hvc⟩ := ownsRow_slice ho.out
      go_wp2
      go_ret2
      exact ⟨va, vc, rfl, Reads.own ho.out, hb.out, hvc, fun y hy => by subst hy; exact World.ownsRow.lt ho.out y.block rfl⟩
theorem refRead_good {S : Nat → Prop} {d b : Nat} {g : Geo} {F : Fl} {w : World} (h : RDriveAt S d b g F w) (ok : F.Ok) (ft : Fit F g) (s a : Int) (N : Nat) (hz : bad F g s a N = 0) :
    Calls Tryz.prog 82 #[.pointer (some ⟨d, 0, none⟩), .int .i64 s, .int .i64 a, .int .i64 (N : Int)] w fun e w' => ∃ x c, e = .returned (.tuple #[.slice x N c, .int .i64 0]) ∧ Reads .u32 w' x N (span F (addr g s a) N) ∧ Below w.heap.size w w' :=
  (refRead_full h ok ft s a N hz).mono fun _ _ ⟨x, c, h1, h2, h3, _⟩ => ⟨x, c, h1, h2, h3⟩
end Go.Proofs.YtphifanacehppaaGreat.drive
/- Contract of the reference's Write of layer 9. No condition but a flash with fewer than 2^61 writes. -/
namespace Go.Proofs.YtphifanacehppaaGreat.drive
open Go.RowKit Go.Proofs.YtphifanacehppaaGreat.flash Go.Proofs.YtphifanacehppaaGreat.geom Go.Proofs.YtphifanacehppaaGreat.word
set_option linter.unusedVariables false

theorem refProgram_did {S : Nat → Prop} {b : Nat} {F : Fl} {w : World} (h : RefAt S b F w) (ok : F.Ok) (hc : F.count < 4611686018427387904) (a : Int) (x : Nat) (hx : x < 4294967296) :
    Calls Tryz.prog 88 #[.pointer (some ⟨b, 0, none⟩), .int .i64 a, .int .u32 x] w (RDid S b (F.program a x).2 (.int .i64 (F.program a x).1) w) := by
  obtain ⟨cm, gW, cW, gV, cV, h⟩ := h
  exact refProgram_any h ok hc a x hx
theorem refWrite_bad {S : Nat → Prop} {d b : Nat} {g : Geo} {F : Fl} {w : World} (h : RDriveAt S d b g F w) (hr : g.Right) (s a : Int) (ha : a ≤ 9223372036854775807) (x : Option Addr) (n c : Nat) (hz : bad F g s a n ≠ 0) :
    Calls Tryz.prog 64 #[.pointer (some ⟨d, 0, none⟩), .int .i64 s, .int .i64 a, .slice x n c] w (RDid S b F (.int .i64 (bad F g s a n)) w) := by
  have cr := refBad_any h hr s a n ha
  have ho := bad_or F g s a n
  have HF := hid h.fl
  generalize bad F g s a n = z at *
  clear h hr
  rcases ho with rfl | rfl | rfl
  · exact absurd rfl hz
  all_goals
    clear hz
    go_enter Tryz.func64, Tryz.ntmps64
    go_wp2_with (go_at_call 86; (with_reducible refine cr.mono ?_); rintro e w1 ⟨rfl, hb1⟩)
    go_ret
    exact ⟨rfl, RTurn.of HF.out hb1⟩
set_option maxHeartbeats 8000000 in
set_option maxRecDepth 20000 in
theorem refWrite_good {S : Nat → Prop} {d b : Nat} {g : Geo} {F : Fl} {w : World} (h : RDriveAt S d b g F w) (ok : F.Ok) (ft : Fit F g) (hc : F.count < 2305843009213693952) (s a : Int) (x : Option Addr) (n c : Nat) (W : List Nat)
    (hr : Reads .u32 w x n W) (hW : ∀ y ∈ W, y < 4294967296) (hsep : n = 0 ∨ ∃ y, x = some y ∧ ¬ S y.block) (hz : bad F g s a n = 0) :
    Calls Tryz.prog 64 #[.pointer (some ⟨d, 0, none⟩), .int .i64 s, .int .i64 a, .slice x n c] w (RDid S b (if ¬ fits F (addr g s a) W then (11, F) else prog F (addr g s a) W).2 (.int .i64 (if ¬ fits F (addr g s a) W then (11, F) else prog F (addr g s a) W).1) w) := by
  obtain ⟨hin, hd⟩ := bad_zero hz
  obtain ⟨hA, hlen, p0, p1, n1, a1⟩ := addr_in ok ft hin
  have cr := refBad_any h ft.right s a n (by omega)
  rw [hz] at cr
  rw [Int.toNat_natCast] at hlen
  obtain ⟨q1, q2, q3, q4, q5⟩ := hin
  have hws := ok.ws_le
  have hWl := hr.1
  obtain ⟨P, hP⟩ := Int.eq_ofNat_of_zero_le p0
  obtain ⟨a', rfl⟩ := Int.eq_ofNat_of_zero_le q3
  have hAP : addr g s a' = P + a' := by omega
  rw [hAP] at hlen ⊢
  obtain ⟨R, hR⟩ : ∃ R, Hid ((if ¬ fits F (P + a') W then (11, F) else prog F (P + a') W) = R) := ⟨_, rfl⟩
  rw [hR.out]
  have H := hid h
  have HR := hid hr
  have HL := hid hlen
  have HW := hid hW
  have HOK := hid ok
  have HFT := hid ft
  have HSEP := hid hsep
  have HCT := hid hc
  have HWL := hid hWl
  have hk0 := fun w1 hb => H.out.words.choose_spec.choose_spec w1 hb
  generalize H.out.words.choose_spec.choose = cW0 at hk0
  generalize H.out.words.choose = gW0 at hk0
  have HK0 := hid hk0
  clear h ok ft hz hA hd q1 q2 q5 p0 p1 hAP hr hW hsep hc hWl hk0
  go_enter Tryz.func64, Tryz.ntmps64
  go_wp2_with (first
    | (go_at_call 86; (with_reducible refine cr.mono ?_); rintro e w1 ⟨rfl, hb1⟩; obtain ⟨e0, e1, e2, e3⟩ := HK0.out w1 hb1))
  have HB1 := hid hb1
  clear cr hb1 e0 e1 e2 e3
  go_loopw [11] (fun i wr => ∃ k : Nat, k ≤ n ∧ i = .int .i64 (k : Int) ∧ Hid (Below w.heap.size w wr) ∧ Hid (∀ i, i < k → clr (W.getD i 0) (F.ws.getD (P + a' + i) 0) = 0)) (fun i _ => n - (intOf i).toNat)
  case atStart => exact ⟨0, Nat.zero_le _, rfl, HB1, hid (fun i h => by omega)⟩
  case round =>
    obtain ⟨k, hk, rfl, HBM, hall⟩ := hrel
    by_cases hlt : k < n
    · obtain ⟨wb, wo, rfl, _, cW⟩ := (HR.out.below HBM.out).at hlt
      have c1 := cW k hlt
      obtain ⟨e0, e1, e2, e3⟩ := HK0.out _ HBM.out
      have e4 := e3 (P + a' + k) (by have := HL.out; omega)
      have hwi := fun w' => refClr_any (W.getD k 0) (F.ws.getD (P + a' + k) 0) (getD_lt HW.out (by decide) k) (getD_lt HOK.out.w (by decide) _) w'
      have i1 : (k : Int) < n := by omega
      have i2 : (P : Int) + a' + k < F.ws.length := by have := HL.out; omega
      clear cW e3
      generalize hwl : F.ws.length = wl at *
      clear hwl
      by_cases hz : clr (W.getD k 0) (F.ws.getD (P + a' + k) 0) = 0
      · have hnx : Hid (∀ i, i < k + 1 → clr (W.getD i 0) (F.ws.getD (P + a' + i) 0) = 0) := hid (fun i hi => by
          by_cases h : i < k
          · exact hall.out i h
          · rw [show i = k by omega]; exact hz)
        rw [hz] at hwi
        clear hz
        generalize W.getD k 0 = x1 at *
        generalize F.ws.getD (P + a' + k) 0 = x2 at *
        go_wp2
        go_quiet ((go_at_call 87; (with_reducible exact quietAt (hwi _))))
        go_wp2
        exact ⟨⟨k + 1, by omega, by go_num, hid (below_drewN HBM.out nq), hnx⟩, by simp [intOf]; omega⟩
      · have hno : Hid (¬ fits F (P + a') W) := hid (fun h => hz (h k (by rw [HWL.out]; exact hlt)))
        have hne : ((clr (W.getD k 0) (F.ws.getD (P + a' + k) 0) : Nat) : Int) ≠ 0 := by omega
        clear hz
        generalize clr (W.getD k 0) (F.ws.getD (P + a' + k) 0) = x3 at *
        generalize W.getD k 0 = x1 at *
        generalize F.ws.getD (P + a' + k) 0 = x2 at *
        go_wp2
        go_quiet ((go_at_call 87; (with_reducible exact quietAt (hwi _))))
        go_wp2
        go_ret
        have hfin : RDid S b R.2 (.int .i64 R.1) w (.returned (.int .i64 11)) (wr.drewN nq) := by
          rw [← hR.out, if_pos hno.out]
          exact ⟨rfl, RTurn.of H.out.fl (below_drewN HBM.out nq)⟩
        exact hfin
    · obtain rfl : n = k := by omega
      have hyes : Hid (fits F (P + a') W) := hid (fun i hi => hall.out i (by rw [HWL.out] at hi; exact hi))
      have hR2 : Hid (prog F (P + a') W = R) := hid (by rw [← hR.out, if_neg (fun h => h hyes.out)])
      clear hR hyes
      obtain ⟨w2, hw2⟩ : ∃ y, Hid (wr = y) := ⟨_, rfl⟩
      have hb2 := HBM.out
      have hw3 := hw2.out.symm
      clear hw2
      subst hw3
      have HB2 := hid hb2
      have HD1 : RDriveAt (fun y => S y ∧ y < w.heap.size) d b g F w2 := ⟨(H.out.later hb2).blk, (RefAt.clip H.out.fl).later hb2, fun hs => H.out.nd hs.1⟩
      have HDH := hid HD1
      have HTU : Hid (RTurn (fun y => S y ∧ y < w.heap.size) b F w2 w2) := hid (RTurn.of HD1.fl (Below.refl _ _))
      clear hall HBM hb2 HD1 HK0
      go_wp2
      go_loopw [12] (fun i wr => ∃ k : Nat, k ≤ n ∧ i = .int .i64 (k : Int) ∧ ∃ G, Hid (Half F (P + a') W k G) ∧ Hid (RTurn (fun y => S y ∧ y < w.heap.size) b G w2 wr)) (fun i _ => n - (intOf i).toNat)
      case atStart => exact ⟨0, Nat.zero_le _, rfl, F, hid (Half.zero HOK.out), HTU⟩
      case round =>
        obtain ⟨k, hk, rfl, G, hH, hT⟩ := hrel
        clear HTU
        by_cases hlt : k < n
        · obtain ⟨S', hDA, hS', hO⟩ := HDH.out.turn hT.out
          have rW : Reads .u32 wr x n W := reads_only (HR.out.below HB2.out) hO (HSEP.out.imp id fun ⟨y, hy, hn⟩ => ⟨y, hy, fun hs => hn hs.1⟩)
          obtain ⟨wb, wo, rfl, _, cW⟩ := rW.at hlt
          obtain ⟨gW, cW2, hWW⟩ := hDA.words
          have hGl : G.ws.length = F.ws.length := hH.out.st.like.ws HOK.out hH.out.st.ok
          have HWW := hid hWW
          obtain ⟨e0, e1, e2, e3⟩ := hWW wr (Below.refl _ _)
          have e4 := e3 (P + a' + k) (by have := HL.out; omega)
          rw [hH.out.rest k (Nat.le_refl _)] at e4
          rw [hGl] at e2
          have c1 := cW k hlt
          have i1 : (k : Int) < n := by omega
          have i2 : (P : Int) + a' + k < F.ws.length := by have := HL.out; omega
          have hkW : Hid (k < W.length) := hid (by rw [HWL.out]; exact hlt)
          have hx2 : W.getD k 0 < 4294967296 := getD_lt HW.out (by decide) k
          by_cases hxy : F.ws.getD (P + a' + k) 0 = W.getD k 0
          · have hH2 := hid (hH.out.skip hkW.out hxy)
            have HT2 : Hid (∀ m, RTurn (fun y => S y ∧ y < w.heap.size) b G w2 (wr.drewN m)) := hid (fun m => hT.out.later (below_drewN (Below.refl _ _) m))
            rw [hxy] at e4
            clear hH hxy cW rW hDA hS' hO hWW e3 hT hGl
            generalize W.getD k 0 = x1 at *
            generalize hwl : F.ws.length = wl at *
            clear hwl
            go_wp2
            go_quiet (fail)
            go_wp2
            exact ⟨⟨k + 1, by omega, by go_num, G, hH2, hid (HT2.out nq)⟩, by simp [intOf]; omega⟩
          · have cp : ∀ m, Calls Tryz.prog 88 #[.pointer (some ⟨b, 0, none⟩), .int .i64 ((P : Int) + (a' : Int) + (k : Int)), .int .u32 (W.getD k 0 : Nat)] (wr.drewN m) (RDid S' b (G.program ((P + a' + k : Nat) : Int) (W.getD k 0)).2 (.int .i64 (G.program ((P + a' + k : Nat) : Int) (W.getD k 0)).1) (wr.drewN m)) := fun m =>
              refProgram_did (hDA.fl.later (below_drewN (Below.refl _ _) m)) hH.out.st.ok (by have := hH.out.st.c2; have := HCT.out; omega) _ _ hx2
            have HJ : Hid (∀ m w' H, RTurn S' b H (wr.drewN m) w' → RTurn S b H w w' ∧ RTurn (fun y => S y ∧ y < w.heap.size) b H w2 w') := hid (fun m w' H ht => by
              have h1 := RTurn.join hS' hO (RTurn.before (below_drewN (Below.refl _ _) m) ht)
              exact ⟨RTurn.before HB2.out (h1.wide fun y hy => hy.1), h1⟩)
            have hne : ((F.ws.getD (P + a' + k) 0 : Nat) : Int) ≠ ((W.getD k 0 : Nat) : Int) := by omega
            by_cases hpz : (G.program ((P + a' + k : Nat) : Int) (W.getD k 0)).1 = 0
            · have hH2 := hid (hH.out.on HW.out hkW.out hxy hpz)
              rw [hpz] at cp
              clear hH hxy cW rW hDA hS' hO hWW e3 hT hGl hpz
              generalize (G.program ((P + a' + k : Nat) : Int) (W.getD k 0)).2 = G2 at *
              generalize W.getD k 0 = x1 at *
              generalize F.ws.getD (P + a' + k) 0 = x2 at *
              generalize hwl : F.ws.length = wl at *
              clear hwl
              go_wp2
              go_quiet (fail)
              go_wp2
              refine tail.region 11 (by kernel_rfl) (by kernel_rfl) ?_
              simp only [List.take_succ_cons, List.take_zero, List.drop_succ_cons, List.drop_zero]
              repeat (go_big_quiet_step (fail))
              refine wpQuiet_nil ?_
              rintro _ ⟨nq2, rfl⟩
              go_wp2_with (go_at_call 88; (with_reducible refine (cp _).mono ?_); rintro e w4 ⟨rfl, ht⟩)
              exact ⟨⟨k + 1, by omega, by go_num, G2, hH2, hid (HJ.out _ _ _ ht).2⟩, by simp [intOf]; omega⟩
            · have hH2 : Hid (R = G.program ((P + a' + k : Nat) : Int) (W.getD k 0)) := hid (by rw [← hR2.out]; exact hH.out.err hkW.out hxy hpz)
              clear hH hxy cW rW hDA hS' hO hWW e3 hT hGl hR2
              generalize (G.program ((P + a' + k : Nat) : Int) (W.getD k 0)) = R2 at *
              obtain ⟨z, G2⟩ := R2
              simp only at cp hpz
              generalize W.getD k 0 = x1 at *
              generalize F.ws.getD (P + a' + k) 0 = x2 at *
              generalize hwl : F.ws.length = wl at *
              clear hwl
              go_wp2
              go_quiet (fail)
              go_wp2
              refine tail.region 11 (by kernel_rfl) (by kernel_rfl) ?_
              simp only [List.take_succ_cons, List.take_zero, List.drop_succ_cons, List.drop_zero]
              repeat (go_big_quiet_step (fail))
              refine wpQuiet_nil ?_
              rintro _ ⟨nq2, rfl⟩
              go_wp2_with (go_at_call 88; (with_reducible refine (cp _).mono ?_); rintro e w4 ⟨rfl, ht⟩)
              go_ret
              have hfin : RDid S b R.2 (.int .i64 R.1) w (.returned (.int .i64 z)) w4 := by
                rw [hH2.out]
                exact ⟨rfl, (HJ.out _ _ _ ht).1⟩
              exact hfin
        · obtain rfl : n = k := by omega
          have hE : Hid (R = (0, G)) := hid (by have h1 := HWL.out; rw [← hR2.out]; have h2 := hH.out; rw [← h1] at h2; exact h2.done)
          have HF : Hid (RTurn S b G w wr) := hid (RTurn.before HB2.out (hT.out.wide fun y hy => hy.1))
          clear hH hR2
          go_wp2
          go_ret
          have hfin : RDid S b R.2 (.int .i64 R.1) w (.returned (.int .i64 0)) wr := by
            rw [hE.out]
            exact ⟨rfl, HF.out⟩
          exact hfin
theorem refWrite_this {S : Nat → Prop} {d b : Nat} {g : Geo} {F : Fl} {w : World} (h : RDriveAt S d b g F w) (ok : F.Ok) (ft : Fit F g) (hc : F.count < 2305843009213693952) (s a : Int) (ha : a ≤ 9223372036854775807) (x : Option Addr) (n c : Nat) (W : List Nat)
    (hr : Reads .u32 w x n W) (hW : ∀ y ∈ W, y < 4294967296) (hsep : n = 0 ∨ ∃ y, x = some y ∧ ¬ S y.block) :
    Calls Tryz.prog 64 #[.pointer (some ⟨d, 0, none⟩), .int .i64 s, .int .i64 a, .slice x n c] w (RDid S b (write F g s a W).2 (.int .i64 (write F g s a W).1) w) := by
  have hl := hr.1
  unfold write
  rw [hl]
  by_cases hz : bad F g s a n = 0
  · rw [if_neg (fun h => h hz)]
    exact refWrite_good h ok ft hc s a x n c W hr hW hsep hz
  · rw [if_pos hz]
    exact refWrite_bad h ft.right s a ha x n c hz
end Go.Proofs.YtphifanacehppaaGreat.drive
