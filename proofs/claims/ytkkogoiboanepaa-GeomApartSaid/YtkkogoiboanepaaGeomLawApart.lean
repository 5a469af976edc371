/- GeomApart: each sector of a geometry that is right is one thing and is found again by what it is; the parts come to the total. No condition. -/
import Derived.Test.YtkkogoiboanepaaGeomAwake
import Derived.Test.YtkkogoiboanepaaGeomOpen
namespace Go.Proofs.Ytkkogoiboanepaa.geomApart
open Go.RowKit Go.Proofs.Ytkkogoiboanepaa.geom
set_option linter.unusedVariables false

theorem part_facts (g : Geo) (t : Int) (m : Nat) (h : (m : Int) < g.chunks t) :
    1 ≤ g.part t m ∧ g.part t m ≤ 4 * g.sector ∧ 0 ≤ g.chunk 1 m ∧ min t ((m : Int) * (4 * g.sector)) + g.part t m = min t (((m + 1 : Nat) : Int) * (4 * g.sector)) := by
  obtain ⟨n0, n1, n2⟩ := Geo.chunks_le g t
  obtain ⟨hr, ⟨t0, t1⟩, b0, b1, b2⟩ := n2 (by omega)
  have hr' := hr
  unfold Geo.Right at hr'
  have hi : (m : Int) * (4 * g.sector) ≤ (g.chunks t - 1) * (4 * g.sector) := Int.mul_le_mul_of_nonneg_right (by omega) (by omega)
  have hs : ((m + 1 : Nat) : Int) * (4 * g.sector) = (m : Int) * (4 * g.sector) + 4 * g.sector := by rw [Int.natCast_add, Int.add_mul]; simp
  have hp : g.part t m = min (4 * g.sector) (t - (m : Int) * (4 * g.sector)) := by rw [Geo.part, if_pos ⟨by omega, by omega⟩]
  have hc : g.chunk 1 m = 2 + 1 * g.slot + 1 + m := by rw [Geo.chunk, if_pos ⟨hr, ⟨by omega, by omega⟩, by omega, by omega⟩]
  rw [hp, hs, hc]
  generalize (m : Int) * (4 * g.sector) = M at *
  omega
set_option maxHeartbeats 4000000 in
set_option maxRecDepth 20000 in
theorem walk0 (g : Geo) (t : Int) (w : World) : Calls Try.prog 4 #[.agg #[.int .i64 g.sector, .int .i64 g.slot, .int .i64 g.data, .int .i64 g.quota, .int .i64 g.tries, .int .i64 g.life], .int .i64 t] w (Yes w) := by
  have HS := hid (six g w)
  have HB := hid (belowNew g w)
  have hb0 : Below (w.alloc (.cells #[.int .i64 g.sector, .int .i64 g.slot, .int .i64 g.data, .int .i64 g.quota, .int .i64 g.tries, .int .i64 g.life] 23)).heap.size (w.alloc (.cells #[.int .i64 g.sector, .int .i64 g.slot, .int .i64 g.data, .int .i64 g.quota, .int .i64 g.tries, .int .i64 g.life] 23)) (w.alloc (.cells #[.int .i64 g.sector, .int .i64 g.slot, .int .i64 g.data, .int .i64 g.quota, .int .i64 g.tries, .int .i64 g.life] 23)) := Below.refl _ _
  obtain ⟨w0, hw0⟩ : ∃ x, Hid ((w.alloc (.cells #[.int .i64 g.sector, .int .i64 g.slot, .int .i64 g.data, .int .i64 g.quota, .int .i64 g.tries, .int .i64 g.life] 23)) = x) := ⟨_, rfl⟩
  rw [hw0.out] at HS HB hb0
  have hk := HS.out _ hb0
  have c7 := fun w1 hb => sectors_at g w0 w1 hb
  have c15 := fun w1 hb => awake_at w0 w1 hb
  by_cases h : g.Right
  · have c5 := fun w1 hb => check_yes_at g h w0 w1 hb
    have c8 := fun w1 hb => chunks_at g t w0 w1 hb
    have hr := hid h
    have hZ : 1 ≤ g.sectors ∧ g.sectors ≤ 194 := by
      rw [Geo.sectors, if_pos h]; unfold Geo.Right at h; omega
    obtain ⟨hZ1, hZ2⟩ := hZ
    clear h
    go_enter Try.func4, Try.ntmps4
    go_wp2_with fail
    rw [hw0.out]
    go_wp2_with (first
      | (go_at_call 5; (with_reducible refine (c5 _ hb0).mono ?_); clear hb0 hk; rintro e w1 ⟨rfl, hb1⟩; have hk := HS.out w1 hb1)
      | (go_at_call 7; (with_reducible refine (c7 _ hb1).mono ?_); clear hk hb1; rintro e w2 ⟨rfl, hb2⟩; have HB2 := hid hb2; clear hb2))
    go_loopw [6] (fun s wr => ∃ k : Nat, s = .int .i64 (k : Int) ∧ (k : Int) ≤ g.sectors ∧ Hid (Below w0.heap.size w0 wr)) (fun s _ => (g.sectors - intOf s).toNat)
    case atStart => exact ⟨0, rfl, by omega, HB2⟩
    case round =>
      obtain ⟨k, rfl, hkn, hbr⟩ := hrel
      clear HB2 c5 c7 hw0
      have hb3 := hbr.out
      have hk := HS.out _ hb3
      by_cases hlt : (k : Int) < g.sectors
      · have cw := fun w1 hb => where_at g hr.out k (by omega) hlt w0 w1 hb
        have hd : ∀ r : Int, r ≤ g.sectors → r ≤ 194 := fun r hr => by omega
        rcases g.at_cases hr.out k (by omega) hlt with ⟨_, e⟩ | ⟨b1, b2, e⟩ | ⟨a, a0, a1, hka, e⟩ | ⟨a, i, a0, a1, i0, i1, hka, e⟩
        · have cw' : ∀ w1, Below w0.heap.size w0 w1 → Calls Try.prog 14 #[.agg #[.int .i64 g.sector, .int .i64 g.slot, .int .i64 g.data, .int .i64 g.quota, .int .i64 g.tries, .int .i64 g.life], .int .i64 (k : Int)] w1 fun e w' => e = .returned (.tuple #[.int .i64 0, .int .i64 0, .int .i64 (k : Int)]) ∧ Below w0.heap.size w0 w' := by rw [e] at cw; exact cw
          clear cw e c8 c15
          generalize g.sectors = Z at *
          go_wp2_with (first
            | (go_at_call 14; (with_reducible refine (cw' _ hb3).mono ?_); clear hk hb3 hbr; rintro e w4 ⟨rfl, hb4⟩; have hk := HS.out w4 hb4))
          exact ⟨⟨k + 1, by go_num, by omega, hid hb4⟩, by simp [intOf]; omega⟩
        · have cw' : ∀ w1, Below w0.heap.size w0 w1 → Calls Try.prog 14 #[.agg #[.int .i64 g.sector, .int .i64 g.slot, .int .i64 g.data, .int .i64 g.quota, .int .i64 g.tries, .int .i64 g.life], .int .i64 (k : Int)] w1 fun e w' => e = .returned (.tuple #[.int .i64 3, .int .i64 0, .int .i64 ((k : Int) - (2 + 2 * g.slot))]) ∧ Below w0.heap.size w0 w' := by rw [e] at cw; exact cw
          have cp : ∀ w1, Below w0.heap.size w0 w1 → Calls Try.prog 12 #[.agg #[.int .i64 g.sector, .int .i64 g.slot, .int .i64 g.data, .int .i64 g.quota, .int .i64 g.tries, .int .i64 g.life], .int .i64 ((k : Int) - (2 + 2 * g.slot))] w1 fun e w' => e = .returned (.int .i64 (k : Int)) ∧ Below w0.heap.size w0 w' := fun w1 hb => by
            have := page_any g ((k : Int) - (2 + 2 * g.slot)) w1
            rw [Geo.page, if_pos ⟨hr.out, by omega, by omega⟩, show 2 + 2 * g.slot + ((k : Int) - (2 + 2 * g.slot)) = k by omega] at this
            exact this.mono fun _ _ ⟨he, hw⟩ => ⟨he, hb.trans (hw.mono hb.size)⟩
          clear cw e c8 c15 b1 b2
          generalize (k : Int) - (2 + 2 * g.slot) = q at *
          generalize g.sectors = Z at *
          go_wp2_with (first
            | (go_at_call 14; (with_reducible refine (cw' _ hb3).mono ?_); clear hk hb3 hbr; rintro e w4 ⟨rfl, hb4⟩; have hk := HS.out w4 hb4)
            | (go_at_call 12; (with_reducible refine (cp _ hb4).mono ?_); clear hk hb4; rintro e w5 ⟨rfl, hb5⟩; have hk := HS.out w5 hb5))
          exact ⟨⟨k + 1, by go_num, by omega, hid hb5⟩, by simp [intOf]; omega⟩
        · have cw' : ∀ w1, Below w0.heap.size w0 w1 → Calls Try.prog 14 #[.agg #[.int .i64 g.sector, .int .i64 g.slot, .int .i64 g.data, .int .i64 g.quota, .int .i64 g.tries, .int .i64 g.life], .int .i64 (k : Int)] w1 fun e w' => e = .returned (.tuple #[.int .i64 1, .int .i64 a, .int .i64 0]) ∧ Below w0.heap.size w0 w' := by rw [e] at cw; exact cw
          have cp : ∀ w1, Below w0.heap.size w0 w1 → Calls Try.prog 9 #[.agg #[.int .i64 g.sector, .int .i64 g.slot, .int .i64 g.data, .int .i64 g.quota, .int .i64 g.tries, .int .i64 g.life], .int .i64 a] w1 fun e w' => e = .returned (.int .i64 (k : Int)) ∧ Below w0.heap.size w0 w' := fun w1 hb => by
            have := ledger_at g a w0 w1 hb
            rw [Geo.ledger, if_pos ⟨hr.out, a0, a1⟩, ← hka] at this
            exact this
          clear cw e c8 c15 hka
          generalize g.sectors = Z at *
          go_wp2_with (first
            | (go_at_call 14; (with_reducible refine (cw' _ hb3).mono ?_); clear hk hb3 hbr; rintro e w4 ⟨rfl, hb4⟩; have hk := HS.out w4 hb4)
            | (go_at_call 9; (with_reducible refine (cp _ hb4).mono ?_); clear hk hb4; rintro e w5 ⟨rfl, hb5⟩; have hk := HS.out w5 hb5))
          exact ⟨⟨k + 1, by go_num, by omega, hid hb5⟩, by simp [intOf]; omega⟩
        · have cw' : ∀ w1, Below w0.heap.size w0 w1 → Calls Try.prog 14 #[.agg #[.int .i64 g.sector, .int .i64 g.slot, .int .i64 g.data, .int .i64 g.quota, .int .i64 g.tries, .int .i64 g.life], .int .i64 (k : Int)] w1 fun e w' => e = .returned (.tuple #[.int .i64 2, .int .i64 a, .int .i64 i]) ∧ Below w0.heap.size w0 w' := by rw [e] at cw; exact cw
          have cp : ∀ w1, Below w0.heap.size w0 w1 → Calls Try.prog 11 #[.agg #[.int .i64 g.sector, .int .i64 g.slot, .int .i64 g.data, .int .i64 g.quota, .int .i64 g.tries, .int .i64 g.life], .int .i64 a, .int .i64 i] w1 fun e w' => e = .returned (.int .i64 (k : Int)) ∧ Below w0.heap.size w0 w' := fun w1 hb => by
            have := chunk_any g a i w1
            rw [Geo.chunk, if_pos ⟨hr.out, ⟨a0, a1⟩, i0, i1⟩, ← hka] at this
            exact this.mono fun _ _ ⟨he, hw⟩ => ⟨he, hb.trans (hw.mono hb.size)⟩
          clear cw e c8 c15 hka
          generalize g.sectors = Z at *
          go_wp2_with (first
            | (go_at_call 14; (with_reducible refine (cw' _ hb3).mono ?_); clear hk hb3 hbr; rintro e w4 ⟨rfl, hb4⟩; have hk := HS.out w4 hb4)
            | (go_at_call 11; (with_reducible refine (cp _ hb4).mono ?_); clear hk hb4; rintro e w5 ⟨rfl, hb5⟩; have hk := HS.out w5 hb5))
          exact ⟨⟨k + 1, by go_num, by omega, hid hb5⟩, by simp [intOf]; omega⟩
      · have hke : ¬ (k : Int) < g.sectors := hlt
        have hC := Geo.chunks_le g t
        have hPF := hid (fun (m : Nat) h => part_facts g t m h)
        have cl : ∀ w1, Below w0.heap.size w0 w1 → Calls Try.prog 17 #[.agg #[.int .i64 g.sector, .int .i64 g.slot, .int .i64 g.data, .int .i64 g.quota, .int .i64 g.tries, .int .i64 g.life]] w1 fun e w' => e = .returned (.int .i64 (4 * g.sector)) ∧ Below w0.heap.size w0 w' := fun w1 hb => by
          have := long_at g w0 w1 hb
          rw [Geo.long, if_pos hr.out] at this
          exact this
        obtain ⟨n0, n1, n2⟩ := hC
        have hL : 256 ≤ 4 * g.sector ∧ 4 * g.sector ≤ 4096 := by
          have := hr.out
          unfold Geo.Right at this
          omega
        obtain ⟨hL1, hL2⟩ := hL
        obtain ⟨L, hLe⟩ : ∃ L, 4 * g.sector = L := ⟨_, rfl⟩
        rw [hLe] at cl hPF n2 hL1 hL2
        obtain ⟨C, hCe⟩ : ∃ C, g.chunks t = C := ⟨_, rfl⟩
        rw [hCe] at c8 hPF n0 n1 n2
        clear hLe hCe hlt
        have hke' := hid hke
        by_cases hz : C = 0
        · subst hz
          clear n0 n1 n2 hPF cl hL1 hL2 L hke'
          go_wp2_with (first
            | (go_at_call 15; (with_reducible refine (c8 _ hb3).mono ?_); clear hk hb3 hbr; rintro e w4 ⟨rfl, hb4⟩; have HB4 := hid hb4; clear hb4))
          go_loopw [13] (fun i wr => i = .int .i64 0 ∧ Hid (Below w0.heap.size w0 wr)) (fun _ _ => 0)
          case atStart => exact ⟨rfl, HB4⟩
          case round =>
            obtain ⟨rfl, hbr⟩ := hrel
            have hb4 := hbr.out
            go_wp2_with (first
              | (go_at_call 13; (with_reducible refine (c15 _ hb4).mono ?_); rintro e w5 ⟨rfl, hb5⟩))
            go_ret
            exact ⟨rfl, HB.out _ hb5⟩
        · obtain ⟨_, ⟨t0, t1⟩, _, _, hCt⟩ := n2 (by omega)
          have HC := hid hCt
          have hn0 : (0 : Int) < C := by omega
          clear n2 hCt
          go_wp2_with (first
            | (go_at_call 15; (with_reducible refine (c8 _ hb3).mono ?_); clear hk hb3 hbr; rintro e w4 ⟨rfl, hb4⟩; have HB4 := hid hb4; clear hb4))
          clear hke hke'
          go_loopw [12, 13] (fun u i wr => ∃ (m : Nat) (S : Int), i = .int .i64 (m : Int) ∧ u = .int .i64 S ∧ (m : Int) ≤ C ∧ Hid (S = min t ((m : Int) * L)) ∧ Hid (Below w0.heap.size w0 wr)) (fun _ i _ => (C - intOf i).toNat)
          case atStart => exact ⟨0, 0, rfl, rfl, by omega, hid (by simp; omega), HB4⟩
          case round =>
            obtain ⟨m, S, rfl, rfl, hm, hS, hbr⟩ := hrel
            clear HB4 c8
            have hb5 := hbr.out
            have hk := HS.out _ hb5
            have hmL : 0 ≤ (m : Int) * L := Int.mul_nonneg (by omega) (by omega)
            have s0 : 0 ≤ S ∧ S ≤ 126976 := by rw [hS.out]; omega
            obtain ⟨s0, s1⟩ := s0
            clear hmL
            by_cases hlt : (m : Int) < C
            · obtain ⟨p1, p2, p3, p4⟩ := hPF.out m hlt
              have cp := fun w1 hb => part_at g t m w0 w1 hb
              have cc : ∀ w1, Below w0.heap.size w0 w1 → Calls Try.prog 11 #[.agg #[.int .i64 g.sector, .int .i64 g.slot, .int .i64 g.data, .int .i64 g.quota, .int .i64 g.tries, .int .i64 g.life], .int .i64 1, .int .i64 (m : Int)] w1 fun e w' => e = .returned (.int .i64 (g.chunk 1 m)) ∧ Below w0.heap.size w0 w' := fun w1 hb =>
                (chunk_any g 1 m w1).mono fun _ _ ⟨he, hw⟩ => ⟨he, hb.trans (hw.mono hb.size)⟩
              generalize g.part t m = P at *
              generalize g.chunk 1 m = Q at *
              have hS2 : Hid (S + P = min t (((m + 1 : Nat) : Int) * L)) := hid (by rw [hS.out]; exact p4)
              have m40 : (m : Int) < 40 := by omega
              clear p4
              go_wp2_with (first
                | (go_at_call 16; (with_reducible refine (cp _ hb5).mono ?_); clear hk hb5 hbr; rintro e w6 ⟨rfl, hb6⟩; have hk := HS.out w6 hb6)
                | (go_at_call 17; (with_reducible refine (cl _ hb6).mono ?_); clear hk hb6; rintro e w7 ⟨rfl, hb7⟩; have hk := HS.out w7 hb7)
                | (go_at_call 11; (with_reducible refine (cc _ hb7).mono ?_); clear hk hb7; rintro e w8 ⟨rfl, hb8⟩; have hk := HS.out w8 hb8))
              exact ⟨⟨m + 1, S + P, by go_num, rfl, by omega, hS2, hid hb8⟩, by simp [intOf]; omega⟩
            · obtain rfl : C = (m : Int) := by omega
              have hSt : S = t := by have := HC.out; rw [hS.out]; omega
              have hne : ¬ (m : Int) = 0 := by omega
              have hmp : 0 < m := by omega
              clear hS
              subst hSt
              go_wp2_with (first
                | (go_at_call 13; (with_reducible refine (c15 _ hb5).mono ?_); rintro e w6 ⟨rfl, hb6⟩))
              go_ret
              exact ⟨rfl, HB.out _ hb6⟩
  · have c5 := fun w1 hb => check_no_at g h w0 w1 hb
    have hZ : g.sectors = 0 := by rw [Geo.sectors, if_neg h]
    rw [hZ] at c7
    clear h hZ
    go_enter Try.func4, Try.ntmps4
    go_wp2_with fail
    rw [hw0.out]
    go_wp2_with (first
      | (go_at_call 5; (with_reducible refine (c5 _ hb0).mono ?_); clear hb0 hk; rintro e w1 ⟨rfl, hb1⟩; have hk := HS.out w1 hb1)
      | (go_at_call 7; (with_reducible refine (c7 _ hb1).mono ?_); clear hk hb1; rintro e w2 ⟨rfl, hb2⟩)
      | (go_at_call 13; (with_reducible refine (c15 _ hb2).mono ?_); rintro e w3 ⟨rfl, hb3⟩))
    go_ret
    exact ⟨rfl, HB.out _ hb3⟩
theorem walk (g : Geo) (t : Int) (w : World) (hg : g.Fits) (a0 : -9223372036854775808 ≤ t) (a1 : t ≤ 9223372036854775807) : Calls Try.prog 4 #[.agg #[.int .i64 g.sector, .int .i64 g.slot, .int .i64 g.data, .int .i64 g.quota, .int .i64 g.tries, .int .i64 g.life], .int .i64 t] w (Yes w) := walk0 g t w
end Go.Proofs.Ytkkogoiboanepaa.geomApart
