/- Lemmas of the claim HJournalKeeps. Each says its own conditions. -/
import Derived.Test.YtphifanacehppaaGreatCmG
import Derived.Test.YtphifanacehppaaGreatClHJournalKeepsP
import Derived.Test.YtphifanacehppaaGreatCmC
import Derived.Test.YtphifanacehppaaGreatClHJournalKeepsA
import Derived.Test.YtphifanacehppaaGreatClHJournalKeepsM
import Derived.Deep.RegionHeld3
import Derived.Test.YtphifanacehppaaGreatClHJournalKeepsO
import Derived.Test.YtphifanacehppaaGreatClHJournalKeepsI
import Derived.Test.YtphifanacehppaaGreatClHJournalKeepsN
/- Contract of the reference's New of layer 7, for every argument. No condition. -/
namespace Go.Proofs.YtphifanacehppaaGreat.flash
open Go.RowKit Go.Proofs.YtphifanacehppaaGreat.word
set_option linter.unusedVariables false

theorem refNew_bad (s l : Int) (h : s < 1 ∨ 512 < s ∨ l < 1 ∨ 1024 < l) (w : World) : Calls Tryz.prog 61 #[.int .i64 s, .int .i64 l] w (Quiet (.pointer none) w) := by
  by_cases h1 : s < 1
  · go_enter Tryz.func61, Tryz.ntmps61
    go_wp2
    go_ret
    exact ⟨rfl, 0, rfl⟩
  · by_cases h2 : 512 < s
    · go_enter Tryz.func61, Tryz.ntmps61
      go_wp2
      go_ret
      exact ⟨rfl, 0, rfl⟩
    · by_cases h3 : l < 1
      · clear h
        go_enter Tryz.func61, Tryz.ntmps61
        go_wp2
        go_ret
        exact ⟨rfl, 0, rfl⟩
      · have h4 : 1024 < l := by omega
        clear h
        go_enter Tryz.func61, Tryz.ntmps61
        go_wp2
        go_ret
        exact ⟨rfl, 0, rfl⟩
def ones (n : Nat) : List Nat := List.replicate n 4294967295
theorem ones_succ (n : Nat) : nums .u32 (ones (n + 1)) = nums .u32 (ones n) ++ [.int .u32 4294967295] := by
  unfold nums ones
  rw [List.replicate_succ', List.map_append]
  rfl
/-- the flash while it is made: n words -/
structure Making (w : World) (g gV s l n : Nat) (v : Value) (wr : World) : Prop where
  blk : Block wr g 82 [v, .int .i64 (l : Int), .slice (some ⟨gV, 0, none⟩) s s, .int .i64 0, .bool false, .int .i64 (-1), .slice none 0 0]
  row : wr.ownsRow w.heap.size 43 1 v n (nums .u32 (ones n))
  ne : ∀ x, v.ownBlock = some x → x ≠ g ∧ x ≠ gV
  wn : Row wr 3 .i64 gV s (List.replicate s 0)
  gg : g ≠ gV
  g1 : w.heap.size ≤ g
  g2 : w.heap.size ≤ gV
  below : Below w.heap.size w wr
set_option maxHeartbeats 16000000 in
set_option maxRecDepth 20000 in
theorem refNew_any (s l : Nat) (h1 : 1 ≤ s) (h2 : s ≤ 512) (h3 : 1 ≤ l) (h4 : l ≤ 1024) (w : World) :
    Calls Tryz.prog 61 #[.int .i64 s, .int .i64 l] w fun e w' => ∃ g, e = .returned (.pointer (some ⟨g, 0, none⟩)) ∧ RefAt (fun k => w.heap.size ≤ k) g (Fl.fresh s l) w' ∧ Below w.heap.size w w' := by
  have hsl : s * l ≤ 524288 := Nat.mul_le_mul h2 h4
  have hpos : 1 ≤ s * l := Nat.mul_pos h1 h3
  have hpl : (s : Int) * (l : Int) = ((s * l : Nat) : Int) := by simp
  obtain ⟨N, hN⟩ : ∃ N, N = s * l := ⟨_, rfl⟩
  rw [← hN] at hsl hpos hpl
  obtain ⟨i0, hi, hz0, hz1, hz2⟩ := info_parts int_info
  obtain ⟨j0, hj, hy0, hy1, hy2⟩ := info_parts u32_info
  have HN := hid hN
  clear hN
  go_enter Tryz.func61, Tryz.ntmps61
  go_wp2_with (at_make; refine wpList_make_full _ rfl _ _ 80 rfl w.heap.size 3 i0 (.int .i64 0) 1 Tryz.underlying80 hi hz0 hz1 _ _ _ _ s rfl rfl rfl rfl (by rw [hz2]; omega) (by unfold maxLen; omega) (Nat.le_refl _) ?_)
  intro w1 hown hgrow
  have hB0 := own_block hown
  rw [toList_madeCells_one] at hB0
  have hR : Row w1 3 .i64 w.heap.size s (List.replicate s 0) := ⟨[], by simpa using hB0, by simp, by unfold maxLen; omega⟩
  clear hB0
  have hb1 : Below w.heap.size w w1 := Below.grown (Below.refl _ w) hgrow (Nat.le_refl _) (fun k h => by cases h)
  have hlt := hR.lt
  have hal : Below w1.heap.size w1 (w1.alloc (.cells #[.slice none 0 0, .int .i64 (l : Int), .slice (some ⟨w.heap.size, 0, none⟩) s s, .int .i64 0, .bool false, .int .i64 (-1), .slice none 0 0] 82)) := (Below.refl _ _).alloc (Nat.le_refl _) _
  have HM : Hid (Making w w1.heap.size w.heap.size s l 0 (.slice none 0 0) (w1.alloc (.cells #[.slice none 0 0, .int .i64 (l : Int), .slice (some ⟨w.heap.size, 0, none⟩) s s, .int .i64 0, .bool false, .int .i64 (-1), .slice none 0 0] 82))) :=
    hid ⟨Block.new w1 _ [.slice none 0 0, .int .i64 (l : Int), .slice (some ⟨w.heap.size, 0, none⟩) s s, .int .i64 0, .bool false, .int .i64 (-1), .slice none 0 0], World.ownsRow_nil _ _ _ _, (fun x hx => by cases hx), hR.later hal, by omega, hb1.size, Nat.le_refl _, hb1.trans (hal.mono hb1.size)⟩
  clear hR hown hgrow hb1 hal
  go_wp2
  go_loopw [6] (fun u wr => ∃ i : Nat, i ≤ N ∧ u = .int .i64 (i : Int) ∧ ∃ v, Hid (Making w w1.heap.size w.heap.size s l i v wr)) (fun u _ => N - (intOf u).toNat)
  case atStart => exact ⟨0, Nat.zero_le _, rfl, _, HM⟩
  case round =>
    obtain ⟨i, hiN, rfl, v, hM⟩ := hrel
    by_cases hlt2 : i < N
    · obtain ⟨va, vc, rfl, hvc⟩ := ownsRow_slice hM.out.row
      have d0 := hM.out.blk.cell 0
      have d0' : wr.cell? ⟨w1.heap.size, 0, none⟩ = some (.slice va i vc) := d0
      have hbA : Below wr.heap.size wr (wr.alloc (.cells #[.int .u32 4294967295] 43)) := (Below.refl _ _).alloc (Nat.le_refl _) _
      have HOW : Hid ((wr.alloc (.cells #[.int .u32 4294967295] 43)).ownsRow w.heap.size 43 1 (.slice va i vc) i (nums .u32 (ones i))) := hid (ownsRow_same hM.out.row fun x hx => hbA.block x (World.ownsRow.lt hM.out.row x hx).2)
      have HB2 := hid (hM.out.blk.later hbA)
      have HR2 := hid (hM.out.wn.later hbA)
      have HBA : Hid (Below w.heap.size w (wr.alloc (.cells #[.int .u32 4294967295] 43))) := hid (hM.out.below.trans (hbA.mono hM.out.below.size))
      have i1 : (i : Int) < N := by omega
      clear d0 hbA
      go_wp2_with (at_builtin; refine wpList_append_at_from rfl _ _ 24 rfl w.heap.size 43 j0 (.int .u32 0) 4 Tryz.underlying24 hj hy0 hy1 hy2 rfl (.slice va i vc) i (nums .u32 (ones i)) rfl HOW.out (some ⟨wr.heap.size, 0, none⟩) 1 1 [.int .u32 4294967295] rfl rfl (.inr ⟨_, rfl, one_new wr 43 (.int .u32 4294967295)⟩) (one_cell rfl) (by unfold maxLen; omega) (by omega) HBA.out.size ?_)
      intro v' w3 ho hg ha
      rw [← ones_succ] at ho
      obtain ⟨va', vc', rfl, hvc'⟩ := ownsRow_slice ho
      have hlg := HB2.out.lt
      have hlv := HR2.out.lt
      have B3 : Block w3 w1.heap.size 82 [.slice va i vc, .int .i64 (l : Int), .slice (some ⟨w.heap.size, 0, none⟩) s s, .int .i64 0, .bool false, .int .i64 (-1), .slice none 0 0] := (hg.block _ hlg (fun e => (hM.out.ne _ e.symm).1 rfl)).trans HB2.out
      have R3 : Row w3 3 .i64 w.heap.size s (List.replicate s 0) := HR2.out.heap (hg.block _ hlv (fun e => (hM.out.ne _ e.symm).2 rfl))
      have e3 := B3.cell 0
      have f3 := B3.frozen 0
      have hne' : ∀ x, (Value.slice va' (i + 1) vc').ownBlock = some x → x ≠ w1.heap.size ∧ x ≠ w.heap.size := by
        intro x hx
        rcases ha with e | e
        · rw [e] at hx; exact hM.out.ne x hx
        · rw [e] at hx
          cases hx
          have h1' := hM.out.blk.lt
          have h2' := hM.out.wn.lt
          exact ⟨by omega, by omega⟩
      have HM2 : Hid (Making w w1.heap.size w.heap.size s l (i + 1) (.slice va' (i + 1) vc') (w3.setCell ⟨w1.heap.size, 0, none⟩ (.slice va' (i + 1) vc'))) := hid (by
        refine ⟨B3.setCell 0 _, ownsRow_same ho fun x hx => Below.heap_setCell w3 ⟨w1.heap.size, 0, none⟩ _ x (hne' x hx).1, hne', R3.apart _ _ _ (by omega), hM.out.gg, hM.out.g1, hM.out.g2, ?_⟩
        exact below_setCells (HBA.out.grown hg HBA.out.size (fun k hk => (World.ownsRow.lt HOW.out k hk).1)) hM.out.g1 0 [_])
      clear ho hg ha B3 R3 hne' hM HOW HB2 HR2 HBA
      go_wp2
      exact ⟨⟨i + 1, by omega, by go_num, _, HM2⟩, by simp [intOf]; omega⟩
    · obtain rfl : i = N := by omega
      go_wp2
      go_ret
      have hM' := hM.out
      obtain ⟨q, cq, rfl, hq, hrow⟩ := Row.own hM'.row hpos
      have hqn := hM'.ne q rfl
      have hfl : (Fl.fresh s l).ws = ones i := by rw [HN.out]; rfl
      refine ⟨w1.heap.size, rfl, ⟨.slice none 0 0, q, cq, w.heap.size, s, ?_, trivial, by rw [hfl]; exact hrow, hM'.wn, fun e => hqn.1 e.symm, hM'.gg, hqn.2, hM'.g1, hq, hM'.g2⟩, hM'.below⟩
      have := hM'.blk
      simpa [Fl.fresh, afterOf, ← HN.out] using this
end Go.Proofs.YtphifanacehppaaGreat.flash
/- Contract of the reference's New of layer 9, and of Small of layer 8. No condition. -/
namespace Go.Proofs.YtphifanacehppaaGreat.drive
open Go.RowKit Go.Proofs.YtphifanacehppaaGreat.flash Go.Proofs.YtphifanacehppaaGreat.geom Go.Proofs.YtphifanacehppaaGreat.word
set_option linter.unusedVariables false

theorem map_this (g : Geo) (M : Nat) (hM : (M : Int) = g.sectors) (w0 w : World) (hb : Below w0.heap.size w0 w) : Calls Tryz.prog 29 #[.agg #[.int .i64 g.sector, .int .i64 g.slot, .int .i64 g.data, .int .i64 g.quota, .int .i64 g.tries, .int .i64 g.life]] w fun e w' => ∃ a c, e = .returned (.slice a M c) ∧ Below w0.heap.size w0 w' := by
  refine (map_any g w).mono ?_
  rintro e w' ⟨a, c, n, he, hn, _, hb2⟩
  obtain rfl : n = M := by omega
  exact ⟨a, c, he, hb.trans (hb2.mono hb.size)⟩
set_option maxHeartbeats 4000000 in
theorem refNew_this {g : Geo} (h : g.Right) (w : World) :
    Calls Tryz.prog 34 #[.agg #[.int .i64 g.sector, .int .i64 g.slot, .int .i64 g.data, .int .i64 g.quota, .int .i64 g.tries, .int .i64 g.life]] w fun e w' => ∃ d b S, e = .returned (.pointer (some ⟨d, 0, none⟩)) ∧ RDriveAt S d b g (first g) w' ∧ (∀ x, S x → w.heap.size ≤ x ∧ x < w'.heap.size) ∧ w.heap.size ≤ d ∧ Below w.heap.size w w' := by
  have HS := hid (six g w)
  have HB := hid (belowNew g w)
  have hb0 : Below (w.alloc (.cells #[.int .i64 g.sector, .int .i64 g.slot, .int .i64 g.data, .int .i64 g.quota, .int .i64 g.tries, .int .i64 g.life] 23)).heap.size (w.alloc (.cells #[.int .i64 g.sector, .int .i64 g.slot, .int .i64 g.data, .int .i64 g.quota, .int .i64 g.tries, .int .i64 g.life] 23)) (w.alloc (.cells #[.int .i64 g.sector, .int .i64 g.slot, .int .i64 g.data, .int .i64 g.quota, .int .i64 g.tries, .int .i64 g.life] 23)) := Below.refl _ _
  have hb1' : Below (w.alloc (.cells #[.int .i64 g.sector, .int .i64 g.slot, .int .i64 g.data, .int .i64 g.quota, .int .i64 g.tries, .int .i64 g.life] 23)).heap.size (w.alloc (.cells #[.int .i64 g.sector, .int .i64 g.slot, .int .i64 g.data, .int .i64 g.quota, .int .i64 g.tries, .int .i64 g.life] 23)) (w.alloc (.cells #[.int .i64 g.sector, .int .i64 g.slot, .int .i64 g.data, .int .i64 g.quota, .int .i64 g.tries, .int .i64 g.life] 23)).drew := below_drewN (Below.refl _ _) 1
  have hk0 := HS.out _ hb0
  have hk0' := HS.out _ hb1'
  have hrb := right_bounds h
  have cm := fun w1 hb => map_this g g.sectors.toNat (by omega) (w.alloc (.cells #[.int .i64 g.sector, .int .i64 g.slot, .int .i64 g.data, .int .i64 g.quota, .int .i64 g.tries, .int .i64 g.life] 23)) w1 hb
  have cn : ∀ w1, Below (w.alloc (.cells #[.int .i64 g.sector, .int .i64 g.slot, .int .i64 g.data, .int .i64 g.quota, .int .i64 g.tries, .int .i64 g.life] 23)).heap.size (w.alloc (.cells #[.int .i64 g.sector, .int .i64 g.slot, .int .i64 g.data, .int .i64 g.quota, .int .i64 g.tries, .int .i64 g.life] 23)) w1 → Calls Tryz.prog 61 #[.int .i64 (g.sectors.toNat : Nat), .int .i64 g.sector] w1 fun e w' => ∃ b S, e = .returned (.pointer (some ⟨b, 0, none⟩)) ∧ RefAt S b (first g) w' ∧ (∀ x, S x → w.heap.size ≤ x ∧ x < w'.heap.size) ∧ Below (w.alloc (.cells #[.int .i64 g.sector, .int .i64 g.slot, .int .i64 g.data, .int .i64 g.quota, .int .i64 g.tries, .int .i64 g.life] 23)).heap.size (w.alloc (.cells #[.int .i64 g.sector, .int .i64 g.slot, .int .i64 g.data, .int .i64 g.quota, .int .i64 g.tries, .int .i64 g.life] 23)) w' := fun w1 hb => by
    have := refNew_any g.sectors.toNat g.sector.toNat (by omega) (by omega) (by omega) (by omega) w1
    rw [show ((g.sector.toNat : Nat) : Int) = g.sector by omega] at this
    refine this.mono ?_
    rintro e w' ⟨b, he, hA, hb2⟩
    have hle : w.heap.size ≤ w1.heap.size := (HB.out w1 hb).size
    exact ⟨b, _, he, RefAt.clip hA, fun x hx => ⟨Nat.le_trans hle hx.1, hx.2⟩, hb.trans (hb2.mono hb.size)⟩
  clear h hrb
  generalize hM : g.sectors.toNat = M at *
  clear hM
  go_enter Tryz.func34, Tryz.ntmps34
  go_wp2
  go_region_held3 (fun w' => (w'.cell? ⟨w.heap.size, 0, none⟩ = some (.int .i64 g.sector) ∧ w'.cell? ⟨w.heap.size, 1, none⟩ = some (.int .i64 g.slot) ∧ w'.cell? ⟨w.heap.size, 2, none⟩ = some (.int .i64 g.data) ∧ w'.cell? ⟨w.heap.size, 3, none⟩ = some (.int .i64 g.quota) ∧ w'.cell? ⟨w.heap.size, 4, none⟩ = some (.int .i64 g.tries) ∧ w'.cell? ⟨w.heap.size, 5, none⟩ = some (.int .i64 g.life))) (first | assumption | go_keep) (first
    | (go_at_call 29; (with_reducible refine (cm _ hb1').mono ?_); rintro e w2 ⟨ma, mc, rfl, hb2⟩; have hk2 := HS.out w2 hb2)
    | (go_at_call 61; (with_reducible refine (cn _ hb2).mono ?_); rintro e w3 ⟨b, S, rfl, hA, hSS, hb3⟩; have hk3 := HS.out w3 hb3))
  go_wp2
  go_ret
  have hbw := HB.out _ hb3
  have hbA : Below w3.heap.size w3 (w3.alloc (.cells #[.pointer (some ⟨b, 0, none⟩), .int .i64 g.sector, .int .i64 g.slot, .int .i64 g.data, .int .i64 g.quota, .int .i64 g.tries, .int .i64 g.life] 79)) := (Below.refl _ _).alloc (Nat.le_refl _) _
  exact ⟨w3.heap.size, b, S, rfl, ⟨Block.new w3 _ [.pointer (some ⟨b, 0, none⟩), .int .i64 g.sector, .int .i64 g.slot, .int .i64 g.data, .int .i64 g.quota, .int .i64 g.tries, .int .i64 g.life], hA.later hbA, fun hs => by have := (hSS _ hs).2; omega⟩, fun x hx => ⟨(hSS x hx).1, Nat.lt_of_lt_of_le (hSS x hx).2 hbA.size⟩, hbw.size, hbw.trans (hbA.mono hbw.size)⟩
/-- a geometry that is small -/
def Small (g : Geo) : Prop := g.Right ∧ g.sector ≤ 128 ∧ g.sectors ≤ 60
theorem small_this (g : Geo) (v : Bool) (hv : Hid (v = true ↔ Small g)) (w : World) : Calls Tryz.prog 6 #[.agg #[.int .i64 g.sector, .int .i64 g.slot, .int .i64 g.data, .int .i64 g.quota, .int .i64 g.tries, .int .i64 g.life]] w fun e w' => e = .returned (.bool v) ∧ Below w.heap.size w w' := by
  have HS := hid (six g w)
  have HB := hid (belowNew g w)
  have hb0 : Below (w.alloc (.cells #[.int .i64 g.sector, .int .i64 g.slot, .int .i64 g.data, .int .i64 g.quota, .int .i64 g.tries, .int .i64 g.life] 23)).heap.size (w.alloc (.cells #[.int .i64 g.sector, .int .i64 g.slot, .int .i64 g.data, .int .i64 g.quota, .int .i64 g.tries, .int .i64 g.life] 23)) (w.alloc (.cells #[.int .i64 g.sector, .int .i64 g.slot, .int .i64 g.data, .int .i64 g.quota, .int .i64 g.tries, .int .i64 g.life] 23)) := Below.refl _ _
  have hk0 := HS.out _ hb0
  by_cases hr : g.Right
  · have cr := fun w1 hb => right_yes_at g hr (w.alloc (.cells #[.int .i64 g.sector, .int .i64 g.slot, .int .i64 g.data, .int .i64 g.quota, .int .i64 g.tries, .int .i64 g.life] 23)) w1 hb
    have hrb := right_bounds hr
    have cm := fun w1 hb => map_this g g.sectors.toNat (by omega) (w.alloc (.cells #[.int .i64 g.sector, .int .i64 g.slot, .int .i64 g.data, .int .i64 g.quota, .int .i64 g.tries, .int .i64 g.life] 23)) w1 hb
    by_cases h1 : g.sector ≤ 128
    · by_cases h2 : g.sectors ≤ 60
      · have hvt : Hid (v = true) := hid (hv.out.2 ⟨hr, h1, h2⟩)
        have hM : ((g.sectors.toNat : Nat) : Int) ≤ 60 := by omega
        clear hrb hr hv
        generalize g.sectors.toNat = M at *
        go_enter Tryz.func6, Tryz.ntmps6
        go_wp2_with (first
          | (go_at_call 32; (with_reducible refine (cr _ hb0).mono ?_); rintro e w1 ⟨rfl, hb1⟩; have hk1 := HS.out _ hb1)
          | (go_at_call 29; (with_reducible refine (cm _ hb1).mono ?_); rintro e w2 ⟨ma, mc, rfl, hb2⟩))
        go_ret
        exact ⟨ret_bool hvt.out.symm, HB.out _ hb2⟩
      · have hvt : Hid (v = false) := hid (by cases v with | false => rfl | true => exact absurd (hv.out.1 rfl).2.2 h2)
        have hM : ¬ ((g.sectors.toNat : Nat) : Int) ≤ 60 := by omega
        clear hrb hr hv h2
        generalize g.sectors.toNat = M at *
        go_enter Tryz.func6, Tryz.ntmps6
        go_wp2_with (first
          | (go_at_call 32; (with_reducible refine (cr _ hb0).mono ?_); rintro e w1 ⟨rfl, hb1⟩; have hk1 := HS.out _ hb1)
          | (go_at_call 29; (with_reducible refine (cm _ hb1).mono ?_); rintro e w2 ⟨ma, mc, rfl, hb2⟩))
        go_ret
        exact ⟨ret_bool (by rw [hvt.out]; simpa using hM), HB.out _ hb2⟩
    · have hvt : Hid (v = false) := hid (by cases v with | false => rfl | true => exact absurd (hv.out.1 rfl).2.1 h1)
      clear hrb hr hv cm
      go_enter Tryz.func6, Tryz.ntmps6
      go_wp2_with (first
        | (go_at_call 32; (with_reducible refine (cr _ hb0).mono ?_); rintro e w1 ⟨rfl, hb1⟩; have hk1 := HS.out _ hb1))
      go_ret
      exact ⟨ret_bool hvt.out.symm, HB.out _ hb1⟩
  · have cr := fun w1 hb => right_no_at g hr (w.alloc (.cells #[.int .i64 g.sector, .int .i64 g.slot, .int .i64 g.data, .int .i64 g.quota, .int .i64 g.tries, .int .i64 g.life] 23)) w1 hb
    have hvt : Hid (v = false) := hid (by cases v with | false => rfl | true => exact absurd (hv.out.1 rfl).1 hr)
    clear hr hv
    go_enter Tryz.func6, Tryz.ntmps6
    go_wp2_with (first
      | (go_at_call 32; (with_reducible refine (cr _ hb0).mono ?_); rintro e w1 ⟨rfl, hb1⟩; have hk1 := HS.out _ hb1))
    go_ret
    exact ⟨ret_bool hvt.out.symm, HB.out _ hb1⟩
end Go.Proofs.YtphifanacehppaaGreat.drive
/- Contract of begin of layer 11's statements, over a geometry that may be. No condition. -/
namespace Go.Proofs.YtphifanacehppaaGreat.journal
open Go Go.RowKit Go.Proofs.YtphifanacehppaaGreat.flash Go.Proofs.YtphifanacehppaaGreat.geom Go.Proofs.YtphifanacehppaaGreat.word
set_option linter.unusedVariables false

theorem new_count {F G : Fl} {g : Geo} {V : List Nat} {K : Jv} (ok : F.Ok) (hb : loadB V = true) (hV : ∀ x ∈ V, x < 4294967296) (h : newV F g V = (0, G, some K)) : G.count ≤ F.count + 61 := by
  unfold newV at h
  rw [if_neg (by rw [hb]; decide)] at h
  split at h
  · simp at h
  · split at h
    · simp at h
    · simp only [Prod.mk.injEq, Option.some.injEq, true_and] at h
      have st := drive.clean_step ok g 1
      have st2 := turn_step (J := ⟨1, Part.zero, false⟩) (g := g) st.ok (by decide) hb hV
      rw [← h.1]
      have h1 := st.c2
      have h2 := st2.c2
      omega
/-- a journal of the call's own -/
def JOwn (w0 : World) (j d b : Nat) (g : Geo) (F : Fl) (J : Jv) (w : World) : Prop := ∃ M, JAt M j d b g F J w ∧ (∀ x, M x → w0.heap.size ≤ x) ∧ Below w0.heap.size w0 w
section
variable {w0 w w' : World} {b d e c j : Nat} {g : Geo} {F G : Fl} {J K : Jv}
theorem JOwn.later (h : JOwn w0 j d b g F J w) (k : Below w.heap.size w w') : JOwn w0 j d b g F J w' := by
  obtain ⟨M, h1, h2, h3⟩ := h
  exact ⟨M, h1.later k, h2, h3.trans (k.mono h3.size)⟩
theorem new_jown (h : drive.Own w0 d b g F w) (fits : Fits F g) (hcnt : F.count < 1000000) (y : Option Addr) (m cy : Nat) (V : List Nat) (hr : Reads .u32 w0 y m V) (hV : ∀ y ∈ V, y < 4294967296) (hm : m ≤ 4611686018427387904) (hb : loadB V = true) (hnew : newV F g V = (0, G, some K)) :
    Calls Tryz.prog 31 #[.pointer (some ⟨d, 0, none⟩), .slice y m cy] w fun o w' => ∃ j, o = .returned (.tuple #[.pointer (some ⟨j, 0, none⟩), .int .i64 0]) ∧ JOwn w0 j d b g G K w' := by
  obtain ⟨S, h1, h2, h3, h4⟩ := h
  have hsep : m = 0 ∨ ∃ z, y = some z ∧ ¬ S z.block := by
    rcases hr.2 with h0 | ⟨q, off, hy, hlt, _⟩
    · exact .inl h0
    · exact .inr ⟨_, hy, fun hs => by have := (h2 _ hs).1; simp at this; omega⟩
  refine (new_good h1 (fun x hx => (h2 x hx).2) fits hcnt y m cy V (hr.below h4) hV hm hsep hb hnew).mono ?_
  rintro o w' ⟨j, ho, hj, M', k1, k2, k3⟩
  have hs := h4.size
  have hS : ∀ x, (S x ∨ x = d) → w0.heap.size ≤ x := fun x hx => by
    rcases hx with hx | rfl
    · exact (h2 x hx).1
    · exact h3
  refine ⟨j, ho, M', k1, fun x hx => ?_, h4.trans (k3.below hs hS)⟩
  rcases (k2 x hx).2 with h | h
  · exact hS x h
  · omega
theorem Duo2.base {w0 w1 wr : World} {Q : Nat → Prop} {j d b r e c : Nat} {g : Geo} {F G : Fl} {J K : Jv} (h : Duo2 w1 Q j d b r e c g F J G K wr) (hb : Below w0.heap.size w0 w1) : Duo2 w0 Q j d b r e c g F J G K wr := by
  obtain ⟨M, N, h, hq⟩ := h
  have hs := hb.size
  exact ⟨M, N, ⟨h.pj, h.rj, fun x hx => Nat.le_trans hs (h.ms x hx), fun x hx => Nat.le_trans hs (h.ns x hx), h.ap, hb.trans (h.bl.mono hs)⟩, hq⟩
/-- the reference's beside it -/
def Half (w0 : World) (j d b e c : Nat) (g : Geo) (F : Fl) (J : Jv) (G : Fl) (w : World) : Prop :=
  ∃ M T, JAt M j d b g F J w ∧ (∀ x, M x → w0.heap.size ≤ x) ∧ drive.RDriveAt T e c g G w ∧ (∀ x, T x → w0.heap.size ≤ x ∧ x < w.heap.size) ∧ w0.heap.size ≤ e ∧ (∀ x, M x → ¬ T x) ∧ ¬ M e ∧ Below w0.heap.size w0 w
theorem ref_half (h : JOwn w0 j d b g F J w) (hr : g.Right) : Calls Tryz.prog 34 #[.agg #[.int .i64 g.sector, .int .i64 g.slot, .int .i64 g.data, .int .i64 g.quota, .int .i64 g.tries, .int .i64 g.life]] w fun o w' => ∃ e c, o = .returned (.pointer (some ⟨e, 0, none⟩)) ∧ Half w0 j d b e c g F J (drive.first g) w' := by
  obtain ⟨M, h1, h2, h3⟩ := h
  refine (drive.refNew_this hr w).mono ?_
  rintro o w' ⟨e, c, T, he, hR, hT, hle, hb⟩
  have hs := h3.size
  refine ⟨e, c, he, M, T, h1.later hb, h2, hR, fun x hx => ⟨by have := (hT x hx).1; omega, (hT x hx).2⟩, by omega, fun x hm ht => ?_, fun hm => ?_, h3.trans (hb.mono hs)⟩
  · have := h1.lt x hm; have := (hT x ht).1; omega
  · have := h1.lt e hm; omega
theorem half_duo (h : Half w0 j d b e c g F J G w) (fits : Fits G g) (hcnt : G.count < 1000000) (y : Option Addr) (m cy : Nat) (V : List Nat) (hr : Reads .u32 w0 y m V) (hV : ∀ y ∈ V, y < 4294967296) (hb : loadB V = true) (hnew : newV G g V = (0, F, some J)) :
    Calls Tryz.prog 33 #[.pointer (some ⟨e, 0, none⟩), .slice y m cy] w fun o w' => ∃ r, o = .returned (.tuple #[.pointer (some ⟨r, 0, none⟩), .int .i64 0]) ∧ Duo2 w0 (fun x => x < w0.heap.size) j d b r e c g F J F J w' := by
  obtain ⟨M, T, h1, h2, h3, h4, h5, h6, h7, h8⟩ := h
  have hsep : m = 0 ∨ ∃ z, y = some z ∧ ¬ T z.block := by
    rcases hr.2 with h0 | ⟨q, off, hy, hlt, _⟩
    · exact .inl h0
    · exact .inr ⟨_, hy, fun hs => by have := (h4 _ hs).1; simp at this; omega⟩
  refine (refNew_good h3 (fun x hx => (h4 x hx).2) fits hcnt y m cy V (hr.below h8) hV hsep hb hnew).mono ?_
  rintro o w' ⟨r, ho, hr2, N', k1, k2, k3⟩
  replace k3 := k3.mono (T := fun x => T x ∨ x = e) fun x hx _ => hx.1
  have hs := h8.size
  have hT : ∀ x, (T x ∨ x = e) → w0.heap.size ≤ x := fun x hx => by
    rcases hx with hx | rfl
    · exact (h4 x hx).1
    · exact h5
  have hMT : ∀ x, M x → ¬ (T x ∨ x = e) := fun x hm hx => by
    rcases hx with hx | rfl
    · exact h6 x hm hx
    · exact h7 hm
  have hN : ∀ x, N' x → w0.heap.size ≤ x := fun x hx => by
    rcases (k2 x hx).2 with h | h
    · exact hT x h
    · omega
  have hb2 := h8.trans (k3.below hs hT)
  refine ⟨r, ho, M, N', ⟨h1.only k3 hMT, k1, h2, hN, fun x hm hn => ?_, hb2⟩, fun x hx => ⟨Nat.lt_of_lt_of_le hx hb2.size, fun hm => by have := h2 x hm; omega, fun hn => by have := hN x hn; omega⟩⟩
  rcases (k2 x hn).2 with h | h
  · exact hMT x hm h
  · have := h1.lt x hm; omega
end
theorem eq_self (z : Int) : (z == z) = true := by simp
set_option maxRecDepth 20000 in
set_option maxHeartbeats 6400000 in
theorem begin_this (g : Geo) (hr : g.Right) (x : Option Addr) (n cx : Nat) (V : List Nat) (w : World) (hrd : Reads .u32 w x n V) (hV : ∀ y ∈ V, y < 4294967296) (hn : n ≤ 4611686018427387904) (hb : loadB V = true) :
    Calls Tryz.prog 9 #[.agg #[.int .i64 g.sector, .int .i64 g.slot, .int .i64 g.data, .int .i64 g.quota, .int .i64 g.tries, .int .i64 g.life], .slice x n cx] w fun o w' => ∃ b d j r e c F, o = .returned (.tuple #[.agg #[.pointer (some ⟨b, 0, none⟩), .pointer (some ⟨d, 0, none⟩), .pointer (some ⟨j, 0, none⟩), .pointer (some ⟨r, 0, none⟩)], .bool true]) ∧
      Duo2 w (fun x => x < w.heap.size) j d b r e c g F ⟨0, ⟨1, V, [], V.length + 3⟩, false⟩ F ⟨0, ⟨1, V, [], V.length + 3⟩, false⟩ w' ∧ Inv F g ⟨0, ⟨1, V, [], V.length + 3⟩, false⟩ ∧ F.dark = false ∧ F.count ≤ 100 ∧ F.fuse = none ∧ Below w.heap.size w w' := by
  obtain ⟨F, hnew, hdk, hfz, inv⟩ := new_inv hr hb hV
  have hct := new_count (drive.first_ok hr) hb hV hnew
  have h0c : (drive.first g).count = 0 := rfl
  have ok1 := drive.first_ok hr
  have ft1 := drive.first_fit hr
  have hrb := drive.right_bounds hr
  obtain ⟨w1, hw1⟩ : ∃ z, Hid (((w.alloc (.cells #[.int .i64 g.sector, .int .i64 g.slot, .int .i64 g.data, .int .i64 g.quota, .int .i64 g.tries, .int .i64 g.life] 23))).alloc (.cells #[.pointer none, .pointer none, .pointer none, .pointer none] 34) = z) := ⟨_, rfl⟩
  have hb1 : Below w.heap.size w w1 := by rw [← hw1.out]; exact ((Below.refl _ _).alloc (Nat.le_refl _) _).alloc (by simp) _
  have hGB : Block w1 w.heap.size 23 [.int .i64 g.sector, .int .i64 g.slot, .int .i64 g.data, .int .i64 g.quota, .int .i64 g.tries, .int .i64 g.life] := by
    rw [← hw1.out]
    exact (Block.new w 23 [.int .i64 g.sector, .int .i64 g.slot, .int .i64 g.data, .int .i64 g.quota, .int .i64 g.tries, .int .i64 g.life]).alloc _
  have hRB : Block w1 (w.heap.size + 1) 34 [.pointer none, .pointer none, .pointer none, .pointer none] := by
    rw [← hw1.out]
    have := Block.new ((w.alloc (.cells #[.int .i64 g.sector, .int .i64 g.slot, .int .i64 g.data, .int .i64 g.quota, .int .i64 g.tries, .int .i64 g.life] 23))) 34 [.pointer none, .pointer none, .pointer none, .pointer none]
    simpa using this
  have HSIX : Hid (∀ w', Below w1.heap.size w1 w' → (w'.cell? ⟨w.heap.size, 0, none⟩ = some (.int .i64 g.sector) ∧ w'.cell? ⟨w.heap.size, 1, none⟩ = some (.int .i64 g.slot) ∧ w'.cell? ⟨w.heap.size, 2, none⟩ = some (.int .i64 g.data) ∧ w'.cell? ⟨w.heap.size, 3, none⟩ = some (.int .i64 g.quota) ∧ w'.cell? ⟨w.heap.size, 4, none⟩ = some (.int .i64 g.tries) ∧ w'.cell? ⟨w.heap.size, 5, none⟩ = some (.int .i64 g.life))) := hid fun w' hb => by
    have hB := hGB.later hb
    exact ⟨hB.cell 0, hB.cell 1, hB.cell 2, hB.cell 3, hB.cell 4, hB.cell 5⟩
  have hb11 : Below w1.heap.size w1 w1.drew := below_drewN (Below.refl _ _) 1
  have cm := drive.map_this g g.sectors.toNat (by omega) w1 w1.drew hb11
  have cf : ∀ w', Below w1.heap.size w1 w' → Calls Tryz.prog 28 #[.int .i64 (g.sectors.toNat : Nat), .int .i64 g.sector] w' fun e w' => ∃ b, e = .returned (.tuple #[.pointer (some ⟨b, 0, none⟩), .int .i64 0]) ∧ Live w1 b (drive.first g) w' := fun w' hb => by
    have := drive.flash_own hr hb
    rwa [show g.sectors = ((g.sectors.toNat : Nat) : Int) by omega] at this
  have cd : ∀ b w', Live w1 b (drive.first g) w' → Calls Tryz.prog 30 #[.pointer (some ⟨b, 0, none⟩), .agg #[.int .i64 g.sector, .int .i64 g.slot, .int .i64 g.data, .int .i64 g.quota, .int .i64 g.tries, .int .i64 g.life]] w' fun e w' => ∃ d, e = .returned (.tuple #[.pointer (some ⟨d, 0, none⟩), .int .i64 0]) ∧ drive.Own w1 d b g (drive.first g) w' := fun b w' h => drive.new_own h ft1
  have cj : ∀ d b w', drive.Own w1 d b g (drive.first g) w' → _ := fun d b w' h => new_jown h ⟨ok1, ft1⟩ (by rw [h0c]; decide) x n cx V (hrd.below hb1) hV hn hb hnew
  have crd : ∀ j d b w', JOwn w1 j d b g F ⟨0, ⟨1, V, [], V.length + 3⟩, false⟩ w' → _ := fun j d b w' h => ref_half h hr
  have crj : ∀ j d b e c w', Half w1 j d b e c g F ⟨0, ⟨1, V, [], V.length + 3⟩, false⟩ (drive.first g) w' → _ := fun j d b e c w' h => half_duo h ⟨ok1, ft1⟩ (by rw [h0c]; decide) x n cx V (hrd.below hb1) hV hb hnew
  have HG := hid hGB
  have HR := hid hRB
  have HB1 := hid hb1
  have HCT := hid (show F.count ≤ 100 by omega)
  have HINV := hid inv
  have k1 := HSIX.out _ hb11
  have HML : Hid (∀ a b, Live w1 a (drive.first g) b → Below w1.heap.size w1 b) := hid fun a b h => h.below
  clear hrd hV hn hnew hct ok1 ft1 hGB hRB hb1 inv hrb
  generalize hM : g.sectors.toNat = M at *
  clear hM
  go_enter Tryz.func9, Tryz.ntmps9
  go_wp2_with fail
  rw [hw1.out]
  go_wp2
  go_region_held3 (fun w' => (w'.cell? ⟨w.heap.size, 0, none⟩ = some (.int .i64 g.sector) ∧ w'.cell? ⟨w.heap.size, 1, none⟩ = some (.int .i64 g.slot) ∧ w'.cell? ⟨w.heap.size, 2, none⟩ = some (.int .i64 g.data) ∧ w'.cell? ⟨w.heap.size, 3, none⟩ = some (.int .i64 g.quota) ∧ w'.cell? ⟨w.heap.size, 4, none⟩ = some (.int .i64 g.tries) ∧ w'.cell? ⟨w.heap.size, 5, none⟩ = some (.int .i64 g.life))) (first | assumption | go_keep) (first
    | (go_at_call 29; (with_reducible refine cm.mono ?_); rintro o w2 ⟨ma, mc, rfl, hb2⟩; have k2 := HSIX.out _ hb2)
    | (go_at_call 28; (with_reducible refine (cf _ hb2).mono ?_); rintro o w3 ⟨b, rfl, h3⟩; have k3 := HSIX.out _ h3.below))
  clear cm hb2 k1 k2
  go_wp2_with (first
    | (go_at_call 30; (with_reducible refine (cd _ _ h3).mono ?_); rintro o w4 ⟨d, rfl, h4⟩; have k4 := HSIX.out _ h4.below)
    | (go_at_call 31; (with_reducible refine (cj _ _ _ h4).mono ?_); rintro o w5 ⟨j, rfl, h5⟩; have hb5 : Below w1.heap.size w1 w5 := (by obtain ⟨_, _, _, h⟩ := h5; exact h); have k5 := HSIX.out _ hb5)
    | (go_at_call 34; (with_reducible refine (crd _ _ _ _ h5).mono ?_); rintro o w6 ⟨e, c, rfl, h6⟩)
    | (go_at_call 33; (with_reducible refine (crj _ _ _ _ _ _ h6).mono ?_); rintro o w7 ⟨r, rfl, h7⟩; have R7 := HR.out.later h7.below; have z0 : w7.cell? ⟨w.heap.size + 1, 0, none⟩ = some (.pointer none) := R7.cell 0; have z1 : w7.cell? ⟨w.heap.size + 1, 1, none⟩ = some (.pointer none) := R7.cell 1; have z2 : w7.cell? ⟨w.heap.size + 1, 2, none⟩ = some (.pointer none) := R7.cell 2; have z3 : w7.cell? ⟨w.heap.size + 1, 3, none⟩ = some (.pointer none) := R7.cell 3; have f0 := R7.frozen 0; have f1 := R7.frozen 1; have f2 := R7.frozen 2; have f3 := R7.frozen 3; have HR7 := hid R7; have H7 := hid h7; clear R7 h7 h6 h5 h4 h3 k3 k4 k5))
  obtain ⟨w8, hw8⟩ : ∃ z, Hid ((((w7.setCell ⟨w.heap.size + 1, 0, none⟩ (.pointer (some ⟨b, 0, none⟩))).setCell ⟨w.heap.size + 1, 1, none⟩ (.pointer (some ⟨d, 0, none⟩))).setCell ⟨w.heap.size + 1, 2, none⟩ (.pointer (some ⟨j, 0, none⟩))).setCell ⟨w.heap.size + 1, 3, none⟩ (.pointer (some ⟨r, 0, none⟩)) = z) := ⟨_, rfl⟩
  rw [hw8.out]
  have R9 : Block w8 (w.heap.size + 1) 34 [.pointer (some ⟨b, 0, none⟩), .pointer (some ⟨d, 0, none⟩), .pointer (some ⟨j, 0, none⟩), .pointer (some ⟨r, 0, none⟩)] := by
    rw [← hw8.out]
    exact (((HR7.out.setCell 0 _).setCell 1 _).setCell 2 _).setCell 3 _
  have hO8 : Only (fun x => x = w.heap.size + 1) w7 w8 := by
    rw [← hw8.out]
    exact ((((Only.refl (fun x => x = w.heap.size + 1) w7).setCell (g := w.heap.size + 1) (.inl rfl) 0 _).setCell (g := w.heap.size + 1) (.inl rfl) 1 _).setCell (g := w.heap.size + 1) (.inl rfl) 2 _).setCell (g := w.heap.size + 1) (.inl rfl) 3 _
  have hrl := HR.out.lt
  refine bodyPost_ret (results_pair (b := w.heap.size + 1) (o := 0) rfl rfl rfl R9.whole Tryz.underlying34 rfl pair_size) rfl ?_
  have D7 := Duo2.base H7.out HB1.out
  have D8 := D7.set hO8 (fun y hy => by subst hy; exact ⟨hrl, by omega⟩)
  exact ⟨b, d, j, r, e, c, F, rfl, D8.less fun y hy => Nat.lt_of_lt_of_le hy HB1.out.size, HINV.out, hdk, HCT.out, hfz, D8.below⟩
set_option maxRecDepth 20000 in
set_option maxHeartbeats 6400000 in
theorem begin_bad (g : Geo) (hr : g.Right) (x : Option Addr) (n cx : Nat) (V : List Nat) (w : World) (hrd : Reads .u32 w x n V) (hV : ∀ y ∈ V, y < 4294967296) (hn : n ≤ 4611686018427387904) (hb : loadB V = false) :
    Calls Tryz.prog 9 #[.agg #[.int .i64 g.sector, .int .i64 g.slot, .int .i64 g.data, .int .i64 g.quota, .int .i64 g.tries, .int .i64 g.life], .slice x n cx] w fun o w' => ∃ b d, o = .returned (.tuple #[.agg #[.pointer (some ⟨b, 0, none⟩), .pointer (some ⟨d, 0, none⟩), .pointer none, .pointer none], .bool true]) ∧ Below w.heap.size w w' := by
  have ok1 := drive.first_ok hr
  have ft1 := drive.first_fit hr
  have hrb := drive.right_bounds hr
  obtain ⟨w1, hw1⟩ : ∃ z, Hid (((w.alloc (.cells #[.int .i64 g.sector, .int .i64 g.slot, .int .i64 g.data, .int .i64 g.quota, .int .i64 g.tries, .int .i64 g.life] 23))).alloc (.cells #[.pointer none, .pointer none, .pointer none, .pointer none] 34) = z) := ⟨_, rfl⟩
  have hb1 : Below w.heap.size w w1 := by rw [← hw1.out]; exact ((Below.refl _ _).alloc (Nat.le_refl _) _).alloc (by simp) _
  have hGB : Block w1 w.heap.size 23 [.int .i64 g.sector, .int .i64 g.slot, .int .i64 g.data, .int .i64 g.quota, .int .i64 g.tries, .int .i64 g.life] := by
    rw [← hw1.out]
    exact (Block.new w 23 [.int .i64 g.sector, .int .i64 g.slot, .int .i64 g.data, .int .i64 g.quota, .int .i64 g.tries, .int .i64 g.life]).alloc _
  have hRB : Block w1 (w.heap.size + 1) 34 [.pointer none, .pointer none, .pointer none, .pointer none] := by
    rw [← hw1.out]
    have := Block.new ((w.alloc (.cells #[.int .i64 g.sector, .int .i64 g.slot, .int .i64 g.data, .int .i64 g.quota, .int .i64 g.tries, .int .i64 g.life] 23))) 34 [.pointer none, .pointer none, .pointer none, .pointer none]
    simpa using this
  have HSIX : Hid (∀ w', Below w1.heap.size w1 w' → (w'.cell? ⟨w.heap.size, 0, none⟩ = some (.int .i64 g.sector) ∧ w'.cell? ⟨w.heap.size, 1, none⟩ = some (.int .i64 g.slot) ∧ w'.cell? ⟨w.heap.size, 2, none⟩ = some (.int .i64 g.data) ∧ w'.cell? ⟨w.heap.size, 3, none⟩ = some (.int .i64 g.quota) ∧ w'.cell? ⟨w.heap.size, 4, none⟩ = some (.int .i64 g.tries) ∧ w'.cell? ⟨w.heap.size, 5, none⟩ = some (.int .i64 g.life))) := hid fun w' hb => by
    have hB := hGB.later hb
    exact ⟨hB.cell 0, hB.cell 1, hB.cell 2, hB.cell 3, hB.cell 4, hB.cell 5⟩
  have hb11 : Below w1.heap.size w1 w1.drew := below_drewN (Below.refl _ _) 1
  have cm := drive.map_this g g.sectors.toNat (by omega) w1 w1.drew hb11
  have cf : ∀ w', Below w1.heap.size w1 w' → Calls Tryz.prog 28 #[.int .i64 (g.sectors.toNat : Nat), .int .i64 g.sector] w' fun e w' => ∃ b, e = .returned (.tuple #[.pointer (some ⟨b, 0, none⟩), .int .i64 0]) ∧ Live w1 b (drive.first g) w' := fun w' hb => by
    have := drive.flash_own hr hb
    rwa [show g.sectors = ((g.sectors.toNat : Nat) : Int) by omega] at this
  have cd : ∀ b w', Live w1 b (drive.first g) w' → Calls Tryz.prog 30 #[.pointer (some ⟨b, 0, none⟩), .agg #[.int .i64 g.sector, .int .i64 g.slot, .int .i64 g.data, .int .i64 g.quota, .int .i64 g.tries, .int .i64 g.life]] w' fun e w' => ∃ d, e = .returned (.tuple #[.pointer (some ⟨d, 0, none⟩), .int .i64 0]) ∧ drive.Own w1 d b g (drive.first g) w' := fun b w' h => drive.new_own h ft1
  have cj : ∀ d w', Below w1.heap.size w1 w' → _ := fun d w' h => new_bad d x n cx V w' ((hrd.below hb1).below h) hn hb
  have crd : ∀ w', Below w1.heap.size w1 w' → Calls Tryz.prog 34 #[.agg #[.int .i64 g.sector, .int .i64 g.slot, .int .i64 g.data, .int .i64 g.quota, .int .i64 g.tries, .int .i64 g.life]] w' fun o w2 => (∃ d, o = .returned (.pointer (some ⟨d, 0, none⟩))) ∧ Below w1.heap.size w1 w2 := fun w' h => (drive.refNew_this hr w').mono fun o w2 ⟨d, b, S, h1, _, _, _, h2⟩ => ⟨⟨d, h1⟩, h.trans (h2.mono h.size)⟩
  have crj : ∀ e w', _ := fun e w' => refNew_bad e x n cx V w' hrd.1 hb
  have HG := hid hGB
  have HR := hid hRB
  have HB1 := hid hb1
  have k1 := HSIX.out _ hb11
  have HML : Hid (∀ a b, Live w1 a (drive.first g) b → Below w1.heap.size w1 b) := hid fun a b h => h.below
  clear hrd hV hn ok1 ft1 hGB hRB hb1 hrb
  generalize hM : g.sectors.toNat = M at *
  clear hM
  go_enter Tryz.func9, Tryz.ntmps9
  go_wp2_with fail
  rw [hw1.out]
  go_wp2
  go_region_held3 (fun w' => (w'.cell? ⟨w.heap.size, 0, none⟩ = some (.int .i64 g.sector) ∧ w'.cell? ⟨w.heap.size, 1, none⟩ = some (.int .i64 g.slot) ∧ w'.cell? ⟨w.heap.size, 2, none⟩ = some (.int .i64 g.data) ∧ w'.cell? ⟨w.heap.size, 3, none⟩ = some (.int .i64 g.quota) ∧ w'.cell? ⟨w.heap.size, 4, none⟩ = some (.int .i64 g.tries) ∧ w'.cell? ⟨w.heap.size, 5, none⟩ = some (.int .i64 g.life))) (first | assumption | go_keep) (first
    | (go_at_call 29; (with_reducible refine cm.mono ?_); rintro o w2 ⟨ma, mc, rfl, hb2⟩; have k2 := HSIX.out _ hb2)
    | (go_at_call 28; (with_reducible refine (cf _ hb2).mono ?_); rintro o w3 ⟨b, rfl, h3⟩; have k3 := HSIX.out _ h3.below))
  clear cm hb2 k1 k2
  go_wp2_with (first
    | (go_at_call 30; (with_reducible refine (cd _ _ h3).mono ?_); rintro o w4 ⟨d, rfl, h4⟩; have k4 := HSIX.out _ h4.below)
    | (go_at_call 31; (with_reducible refine (cj _ _ h4.below).mono ?_); rintro o w5 ⟨rfl, hb5⟩; have hb15 := h4.below.trans (hb5.mono h4.below.size); have k5 := HSIX.out _ hb15)
    | (go_at_call 34; (with_reducible refine (crd _ hb15).mono ?_); rintro o w6 ⟨⟨e, rfl⟩, hb16⟩)
    | (go_at_call 33; (with_reducible refine (crj _ _).mono ?_); rintro o w7 ⟨rfl, m7, rfl⟩; have hb17 := below_drewN hb16 m7; have R7 := HR.out.later hb17; have z0 : (w6.drewN m7).cell? ⟨w.heap.size + 1, 0, none⟩ = some (.pointer none) := R7.cell 0; have z1 : (w6.drewN m7).cell? ⟨w.heap.size + 1, 1, none⟩ = some (.pointer none) := R7.cell 1; have z2 : (w6.drewN m7).cell? ⟨w.heap.size + 1, 2, none⟩ = some (.pointer none) := R7.cell 2; have z3 : (w6.drewN m7).cell? ⟨w.heap.size + 1, 3, none⟩ = some (.pointer none) := R7.cell 3; have f0 := R7.frozen 0; have f1 := R7.frozen 1; have f2 := R7.frozen 2; have f3 := R7.frozen 3; have HR7 := hid R7; have H7 := hid hb17; clear R7 hb17 h4 h3 k4 k5))
  obtain ⟨w8, hw8⟩ : ∃ z, Hid (((((w6.drewN m7).setCell ⟨w.heap.size + 1, 0, none⟩ (.pointer (some ⟨b, 0, none⟩))).setCell ⟨w.heap.size + 1, 1, none⟩ (.pointer (some ⟨d, 0, none⟩))).setCell ⟨w.heap.size + 1, 2, none⟩ (.pointer none)).setCell ⟨w.heap.size + 1, 3, none⟩ (.pointer none) = z) := ⟨_, rfl⟩
  rw [hw8.out]
  have R9 : Block w8 (w.heap.size + 1) 34 [.pointer (some ⟨b, 0, none⟩), .pointer (some ⟨d, 0, none⟩), .pointer none, .pointer none] := by
    rw [← hw8.out]
    exact (((HR7.out.setCell 0 _).setCell 1 _).setCell 2 _).setCell 3 _
  have hO8 : Only (fun x => x = w.heap.size + 1) (w6.drewN m7) w8 := by
    rw [← hw8.out]
    exact ((((Only.refl (fun x => x = w.heap.size + 1) (w6.drewN m7)).setCell (g := w.heap.size + 1) (.inl rfl) 0 _).setCell (g := w.heap.size + 1) (.inl rfl) 1 _).setCell (g := w.heap.size + 1) (.inl rfl) 2 _).setCell (g := w.heap.size + 1) (.inl rfl) 3 _
  have hrl := HR.out.lt
  refine bodyPost_ret (results_pair (b := w.heap.size + 1) (o := 0) rfl rfl rfl R9.whole Tryz.underlying34 rfl pair_size) rfl ?_
  have hb8 : Below w.heap.size w w8 := (HB1.out.trans (H7.out.mono HB1.out.size)).trans (hO8.below (Nat.le_trans HB1.out.size H7.out.size) fun y hy => by omega)
  exact ⟨b, d, rfl, hb8⟩
end Go.Proofs.YtphifanacehppaaGreat.journal
