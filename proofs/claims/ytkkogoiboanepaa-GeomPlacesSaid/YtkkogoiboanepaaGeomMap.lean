/- Contract of layer 8's reference: Map. No condition. -/
import Derived.Test.YtkkogoiboanepaaGeomRef
namespace Go.Proofs.Ytkkogoiboanepaa.geom
open Go.RowKit
set_option linter.unusedVariables false

set_option maxHeartbeats 4000000 in
set_option maxRecDepth 8000 in
theorem map_any (g : Geo) (w : World) : Calls Try.prog 8 #[.agg #[.int .i64 g.sector, .int .i64 g.slot, .int .i64 g.data, .int .i64 g.quota, .int .i64 g.tries, .int .i64 g.life]] w (MapRes g w) := by
  have HS := hid (six g w)
  have HB := hid (belowNew g w)
  have hb0 : Below (w.alloc (.cells #[.int .i64 g.sector, .int .i64 g.slot, .int .i64 g.data, .int .i64 g.quota, .int .i64 g.tries, .int .i64 g.life] 23)).heap.size (w.alloc (.cells #[.int .i64 g.sector, .int .i64 g.slot, .int .i64 g.data, .int .i64 g.quota, .int .i64 g.tries, .int .i64 g.life] 23)) (w.alloc (.cells #[.int .i64 g.sector, .int .i64 g.slot, .int .i64 g.data, .int .i64 g.quota, .int .i64 g.tries, .int .i64 g.life] 23)) := Below.refl _ _
  by_cases h : g.Right
  · have cc := fun w1 hb => right_yes_at g h (w.alloc (.cells #[.int .i64 g.sector, .int .i64 g.slot, .int .i64 g.data, .int .i64 g.quota, .int .i64 g.tries, .int .i64 g.life] 23)) w1 hb
    obtain ⟨w0, hw0⟩ : ∃ x, Hid ((w.alloc (.cells #[.int .i64 g.sector, .int .i64 g.slot, .int .i64 g.data, .int .i64 g.quota, .int .i64 g.tries, .int .i64 g.life] 23)) = x) := ⟨_, rfl⟩
    rw [hw0.out] at HS HB hb0 cc
    have HR := hid h
    obtain ⟨_, ⟨h3, h4⟩, ⟨h5, h6⟩, ⟨h7, h8⟩, _⟩ := h
    have hk0 := HS.out w0 hb0
    go_enter Try.func8, Try.ntmps8
    go_wp2_with fail
    rw [hw0.out]
    go_wp2_with (first
      | (go_at_call 6; (with_reducible refine (cc _ hb0).mono ?_); rintro e w1 ⟨rfl, hb1⟩; have hk1 := HS.out w1 hb1))
    have HR3 : Hid (Row3 g w1 2 (.slice (some ⟨w1.heap.size, 0, none⟩) 2 2) (w1.alloc (.cells #[.int .i64 0, .int .i64 0, .int .i64 0, .int .i64 0, .int .i64 0, .int .i64 1] 39))) := hid (row3_start g HR.out w1)
    have HK : Hid (∀ w', Below w1.heap.size w1 w' → (w'.cell? ⟨w.heap.size, 0, none⟩ = some (.int .i64 g.sector) ∧ w'.cell? ⟨w.heap.size, 1, none⟩ = some (.int .i64 g.slot) ∧ w'.cell? ⟨w.heap.size, 2, none⟩ = some (.int .i64 g.data) ∧ w'.cell? ⟨w.heap.size, 3, none⟩ = some (.int .i64 g.quota) ∧ w'.cell? ⟨w.heap.size, 4, none⟩ = some (.int .i64 g.tries) ∧ w'.cell? ⟨w.heap.size, 5, none⟩ = some (.int .i64 g.life))) := hid (fun w' hb => HS.out w' (hb1.trans (hb.mono hb1.size)))
    have HBW : Hid (∀ w', Below w1.heap.size w1 w' → Below w.heap.size w w') := hid (fun w' hb => HB.out w' (hb1.trans (hb.mono hb1.size)))
    clear hk0 hk1 cc hb0 HS HB hw0 hb1
    go_loopw [3, 4] (fun l s wr => ∃ (k : Nat) (si : Int), s = .int .i64 si ∧ 0 ≤ si ∧ si ≤ 2 ∧ Hid ((k : Int) = 2 + si * g.slot) ∧ Hid (Row3 g w1 k l wr)) (fun _ s _ => (2 - intOf s).toNat)
    case atStart => exact ⟨2, 0, rfl, by omega, by omega, hid (by simp), HR3⟩
    case round =>
      obtain ⟨k, si, rfl, hs0, hs2, hk, hrow⟩ := hrel
      clear HR3
      obtain ⟨ra, rc, rfl⟩ := hrow.out.slice
      have HKW := HK.out wr hrow.out.2
      by_cases hlt : si < 2
      · have hs3 : si = 0 ∨ si = 1 := by omega
        have hk64 : k ≤ 66 := by have := hk.out; rcases hs3 with rfl | rfl <;> omega
        have hat : Hid (g.at (k : Int) = (1, si, 0)) := hid (by rw [hk.out]; exact (g.at_ledger HR.out si hs0 (by omega)).1)
        clear HKW hs3
        go_wp2_with (first
          | (at_builtin; refine wpList_append_tri rfl _ _ rfl g k _ rfl rfl hrow (by omega) _ _ _ hat ?_; clear hat hrow; intro v' w2 hrow2; obtain ⟨ra2, rc2, rfl⟩ := hrow2.out.slice))
        go_loopw [3, 5] (fun l i wr => ∃ m : Nat, i = .int .i64 (m : Int) ∧ (m : Int) + 1 ≤ g.slot ∧ Hid (Row3 g w1 (k + 1 + m) l wr)) (fun _ i _ => (g.slot - intOf i).toNat)
        case atStart => exact ⟨0, rfl, by omega, hrow2⟩
        case round =>
          obtain ⟨m, rfl, hm, hrow3⟩ := hrel
          clear hrow2
          obtain ⟨ra3, rc3, rfl⟩ := hrow3.out.slice
          have HKW := HK.out wr hrow3.out.2
          by_cases hlt3 : (m : Int) + 1 < g.slot
          · have hat : Hid (g.at ((k + 1 + m : Nat) : Int) = ((2 : Int), si, (m : Int))) := hid (by
              have := (g.at_chunk HR.out si m hs0 (by omega) (by omega) (by omega)).1
              rw [← this, ← hk.out]; congr 1)
            have hkm : k + 1 + m ≤ 1000 := by omega
            go_wp2_with (first
              | (at_builtin; refine wpList_append_tri rfl _ _ rfl g (k + 1 + m) _ rfl rfl hrow3 hkm _ _ _ hat ?_; clear hat hrow3; intro v' w4 hrow4; obtain ⟨ra4, rc4, rfl⟩ := hrow4.out.slice))
            exact ⟨⟨m + 1, by go_num, by omega, hrow4⟩, by simp [intOf]; omega⟩
          · have hkn : Hid (((k + 1 + m : Nat) : Int) = 2 + (si + 1) * g.slot) := hid (by
              have := hk.out
              rw [Int.add_mul]; omega)
            go_wp2
            exact ⟨⟨k + 1 + m, si + 1, rfl, by omega, by omega, hkn, hrow3⟩, by simp [intOf]; omega⟩
      · obtain rfl : si = 2 := by omega
        have hk2 : Hid ((k : Int) = 2 + 2 * g.slot) := hk
        clear hk
        go_wp2
        go_loopw [3, 6] (fun l p wr => ∃ m : Nat, p = .int .i64 (m : Int) ∧ (m : Int) ≤ g.data ∧ Hid (Row3 g w1 (k + m) l wr)) (fun _ p _ => (g.data - intOf p).toNat)
        case atStart => exact ⟨0, rfl, by omega, hrow⟩
        case round =>
          obtain ⟨m, rfl, hm, hrow3⟩ := hrel
          clear hrow HKW
          obtain ⟨ra3, rc3, rfl⟩ := hrow3.out.slice
          have HKW := HK.out wr hrow3.out.2
          by_cases hlt3 : (m : Int) < g.data
          · have hat : Hid (g.at ((k + m : Nat) : Int) = ((3 : Int), (0 : Int), (m : Int))) := hid (by
              have := (g.at_page HR.out m (by omega) (by omega)).1
              rw [← this, ← hk2.out]; congr 1)
            have hkm : k + m ≤ 1000 := by have := hk2.out; omega
            go_wp2_with (first
              | (at_builtin; refine wpList_append_tri rfl _ _ rfl g (k + m) _ rfl rfl hrow3 hkm _ _ _ hat ?_; clear hat hrow3; intro v' w4 hrow4; obtain ⟨ra4, rc4, rfl⟩ := hrow4.out.slice))
            exact ⟨⟨m + 1, by go_num, by omega, hrow4⟩, by simp [intOf]; omega⟩
          · have hn : Hid (((k + m : Nat) : Int) = g.sectors) := hid (by
              have := hk2.out
              rw [Geo.sectors, if_pos HR.out]; omega)
            go_wp2
            go_ret
            exact ⟨_, _, k + m, rfl, hn.out, hrow3.out.tris, HBW.out _ hrow3.out.2⟩
  · have cc := fun w1 hb => right_no_at g h (w.alloc (.cells #[.int .i64 g.sector, .int .i64 g.slot, .int .i64 g.data, .int .i64 g.quota, .int .i64 g.tries, .int .i64 g.life] 23)) w1 hb
    have hs : g.sectors = 0 := by rw [Geo.sectors, if_neg h]
    have HZ := hid hs
    clear h hs
    go_enter Try.func8, Try.ntmps8
    go_wp2_with (go_at_call 6; (with_reducible refine (cc _ hb0).mono ?_); rintro e w1 ⟨rfl, hb1⟩)
    go_ret
    exact ⟨none, 0, 0, rfl, HZ.out.symm, .inl rfl, HB.out _ hb1⟩
end Go.Proofs.Ytkkogoiboanepaa.geom
