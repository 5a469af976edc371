/- Contract of the reference's Bytes of layer 1, for every slice of words of at most 2^47 - 4096 bytes and every number. -/
import Derived.Test.YtghkphlmbmelhaaWordBytes
import Derived.Test.YtghkphlmbmelhaaOpen
namespace Go.Proofs.Ytghkphlmbmelhaa.word
open Go.RowKit
set_option linter.unusedVariables false

theorem refBytes_neg (a : Option Addr) (len cap : Nat) (w : World) (n : Int) (hn : n < 0) (h1 : -9223372036854775808 ≤ n) :
    Calls Try.prog 8 #[.slice a len cap, .int .i64 n] w (Gives w.heap.size 5 .u8 .i64 w (2, [])) := by
  go_enter Try.func8, Try.ntmps8
  go_wp2
  go_ret2
  exact ⟨_, rfl, World.ownsRow_nil _ _ _ _, Below.refl _ _⟩

theorem range4 (f : Nat → Nat) (k : Nat) : (List.range (4 * (k + 1))).map f = (List.range (4 * k)).map f ++ [f (4 * k), f (4 * k + 1), f (4 * k + 2), f (4 * k + 3)] := by
  rw [show 4 * (k + 1) = 4 * k + 1 + 1 + 1 + 1 from by omega]
  simp only [List.range_succ, List.map_append, List.map_cons, List.map_nil, List.append_assoc, List.cons_append, List.nil_append]
theorem byte4 (xs : List Nat) (k : Nat) (hx : ∀ x ∈ xs, x < 4294967296) : byteOf xs (4 * k) = xs.getD k 0 / 16777216 ∧ byteOf xs (4 * k + 1) = xs.getD k 0 / 65536 % 256 ∧ byteOf xs (4 * k + 2) = xs.getD k 0 / 256 % 256 ∧ byteOf xs (4 * k + 3) = xs.getD k 0 % 256 := by
  have hlt : xs.getD k 0 < 4294967296 := by
    rw [List.getD_eq_getElem?_getD]
    by_cases h : k < xs.length
    · rw [List.getElem?_eq_getElem h]; exact hx _ (List.getElem_mem _)
    · rw [List.getElem?_eq_none (by omega)]; decide
  unfold byteOf
  rw [show 4 * k / 4 = k from by omega, show (4 * k + 1) / 4 = k from by omega, show (4 * k + 2) / 4 = k from by omega, show (4 * k + 3) / 4 = k from by omega,
    show 8 * (3 - 4 * k % 4) = 24 from by omega, show 8 * (3 - (4 * k + 1) % 4) = 16 from by omega, show 8 * (3 - (4 * k + 2) % 4) = 8 from by omega, show 8 * (3 - (4 * k + 3) % 4) = 0 from by omega]
  generalize xs.getD k 0 = y at *
  refine ⟨?_, ?_, ?_, ?_⟩ <;> omega
set_option maxHeartbeats 1600000 in
theorem refBytes_pos (a : Option Addr) (len cap : Nat) (xs : List Nat) (w : World) (hr : Reads .u32 w a len xs) (hx : ∀ x ∈ xs, x < 4294967296) (hl : len * 4 ≤ 140737488351232) (n : Nat) (h2 : n ≤ 9223372036854775807) :
    Calls Try.prog 8 #[.slice a len cap, .int .i64 n] w (Gives w.heap.size 5 .u8 .i64 w (bytesOf xs n)) := by
  obtain ⟨i0, hi, hz0, hz1, hz2⟩ := info_parts Tryinfo5
  have hlen := hr.1
  have hneed := need_nat n
  have c1 : ∀ w', Calls Try.prog 13 #[.int .i64 n] w' (Quiet (.int .i64 (need n)) w') := fun w' => refNeed_any n (by omega) (by omega) _
  have hNe : ∃ N : Nat, need n = N ∧ (n : Int) ≤ 4 * N ∧ 4 * (N : Int) ≤ n + 3 := ⟨_, hneed, by omega, by omega⟩
  obtain ⟨N, hN, hN1, hN2⟩ := hNe
  rw [hN] at c1
  unfold bytesOf
  rw [if_neg (by omega : ¬ ((n : Int) < 0)), hN, hlen, Int.toNat_natCast]
  clear hneed hN
  by_cases hs : (len : Int) < N
  · rw [if_pos hs]
    go_enter Try.func8, Try.ntmps8
    go_wp2_with (go_at_call 13; refine (c1 _).mono ?_; rintro e w' ⟨rfl, m2, rfl⟩)
    go_ret2
    exact ⟨_, rfl, World.ownsRow_nil _ _ _ _, below_drewN (Below.refl _ _) _⟩
  · rw [if_neg hs]
    by_cases hg : (N : Int) < len
    · rw [if_pos hg]
      go_enter Try.func8, Try.ntmps8
      go_wp2_with (go_at_call 13; refine (c1 _).mono ?_; rintro e w' ⟨rfl, m2, rfl⟩)
      all_goals go_ret2
      all_goals exact ⟨_, rfl, World.ownsRow_nil _ _ _ _, by repeat (first | exact Below.refl _ _ | apply below_drewN)⟩
    · rw [if_neg hg]
      obtain rfl : N = len := by omega
      have HX := hid hx
      clear hx hs hg
      generalize hR : (if blank xs n = false then ((6, []) : Nat × List Nat) else (0, (List.range n).map (byteOf xs))) = R
      have HR := hid hR
      clear hR
      have hn0 : decide ((n : Int) < 0) = false := by simp
      go_enter Try.func8, Try.ntmps8
      go_wp2_with (go_at_call 13; refine (c1 _).mono ?_; rintro e w' ⟨rfl, m2, rfl⟩)
      go_loopw [6, 7] (fun v i wr => ∃ k : Nat, k ≤ N ∧ i = .int .i64 k ∧ wr.ownsRow w.heap.size 5 1 v (4 * k) (((List.range (4 * k)).map (byteOf xs)).map fun x : Nat => Value.int .u8 (x : Int)) ∧ Below w.heap.size w wr)
        (fun _ i _ => N - (intOf i).toNat)
      case atStart => exact ⟨0, Nat.zero_le _, rfl, World.ownsRow_nil _ _ _ _, by repeat (first | exact Below.refl _ _ | apply below_drewN)⟩
      case round =>
        obtain ⟨k, hk, rfl, ho, hb⟩ := hrel
        by_cases hlt : k < N
        · obtain ⟨b, off, rfl, hbs, hc⟩ := hr.at hlt
          have c2 : wr.cell? ⟨b, off + k, none⟩ = some (.int .u32 ((xs.getD k 0 : Nat) : Int)) := (hb.cell (p := ⟨b, off + k, none⟩) hbs).trans (hc k hlt)
          obtain ⟨b0, b1, b2, b3⟩ := byte4 xs k HX.out
          have hxl : xs.getD k 0 < 4294967296 := HX.out _ (by rw [List.getD_eq_getElem?_getD, List.getElem?_eq_getElem (by omega)]; exact List.getElem_mem _)
          have i1 : (k : Int) < N := by omega
          have HB := hid b0
          have HB1 := hid b1
          have HB2 := hid b2
          have HB3 := hid b3
          have HO := hid ho
          clear ho hc b0 b1 b2 b3
          generalize xs.getD k 0 = x1 at *
          go_wp2
          refine tail.regionFrom 1 27 (by kernel_rfl) (by kernel_rfl) ?_
          simp only [List.take_succ_cons, List.take_zero, List.drop_succ_cons, List.drop_zero]
          repeat (go_big_quiet_step (fail))
          refine wpQuiet_nil ?_
          rintro _ ⟨nq, rfl⟩
          go_wp2_with (at_builtin; refine wpList_append_own _ rfl _ _ 22 rfl w.heap.size 5 i0 (.int .u8 0) 1 1 Try.underlying22 hi hz0 hz1 hz2 rfl (by decide) _ _ _ rfl ((HO.out.drewN nq).alloc _) ⟨wr.heap.size, 0, none⟩ 4 4 [.int .u8 ((x1 : Int) / 16777216), .int .u8 ((x1 : Int) / 65536 % 256), .int .u8 ((x1 : Int) / 256 % 256), .int .u8 ((x1 : Int) % 256)] rfl rfl (cells_new _ _ _) (by intro u hu; simp at hu; rcases hu with rfl | rfl | rfl | rfl <;> rfl) (by unfold maxLen; omega) (by omega) (by have := hb.size; simp; omega) ?_)
          intro v' w1 ho1 hg1 _
          go_wp2
          refine NoPanic.normal ?_
          go_wp2
          refine ⟨⟨k + 1, by omega, by go_num, ?_, ((below_drewN hb nq).alloc hb.size _).grown hg1 (by have := hb.size; simp; omega) (fun k hk => (HO.out.lt k hk).1)⟩, by simp [intOf]; omega⟩
          rw [range4, HB.out, HB1.out, HB2.out, HB3.out, List.map_append]
          simpa [Nat.mul_add] using ho1
        · obtain rfl : k = N := by omega
          go_wp2
          obtain ⟨va, vc, rfl, hvc⟩ := ownsRow_slice ho
          have rv := Reads.own ho
          have HO := hid ho
          clear ho
          go_loopw [8] (fun i w2 => ∃ j : Nat, n ≤ j ∧ j ≤ 4 * k ∧ i = .int .i64 j ∧ (∃ m, w2 = wr.drewN m) ∧ Hid (∀ q, n ≤ q → q < j → byteOf xs q = 0))
            (fun i _ => 4 * k - (intOf i).toNat)
          case atStart => exact ⟨n, Nat.le_refl _, by omega, rfl, ⟨0, rfl⟩, fun q h1 h2 => by omega⟩
          case round =>
            obtain ⟨j, hnj, hjk, rfl, ⟨m, rfl⟩, hz⟩ := hrel
            by_cases hlt2 : j < 4 * k
            · obtain ⟨g, off, rfl, hgs, hc⟩ := rv.at hlt2
              have c2 : wr.cell? ⟨g, off + j, none⟩ = some (.int .u8 ((byteOf xs j : Nat) : Int)) := by
                have h1 := hc j hlt2
                rw [List.getD_eq_getElem?_getD, List.getElem?_map, List.getElem?_range hlt2] at h1
                exact h1
              have i1 : (j : Int) < 4 * k := by omega
              clear hc
              by_cases h0 : byteOf xs j = 0
              · have hq : (((byteOf xs j : Nat) : Int) != 0) = false := by rw [h0]; rfl
                have H0 := hid h0
                clear h0
                go_wp2
                exact ⟨⟨j + 1, by omega, by omega, by go_num, ⟨_, rfl⟩, fun q h1 h2 => by
                  by_cases h : q = j
                  · rw [h]; exact H0.out
                  · exact hz.out q h1 (by omega)⟩, by simp [intOf]; omega⟩
              · have hq : (((byteOf xs j : Nat) : Int) != 0) = true := by rw [bne_iff_ne]; omega
                have H0 := hid h0
                clear h0
                go_wp2
                go_ret2
                have hR := HR.out
                have hb6 : blank xs n = false := blank_false (i := j - n) (by rw [hlen]; omega) (by rw [show n + (j - n) = j from by omega]; exact H0.out)
                rw [if_pos hb6] at hR
                subst hR
                exact ⟨_, rfl, World.ownsRow_nil _ _ _ _, below_drewN hb _⟩
            · obtain rfl : j = 4 * k := by omega
              have i1 : (n : Int) ≤ vc := by omega
              have i2 : (n : Int) ≤ 4 * k := by omega
              go_wp2
              go_ret2
              have hR := HR.out
              have hb6 : blank xs n = true := blank_true fun i hi => hz.out (n + i) (by omega) (by rw [hlen] at hi; omega)
              rw [hb6, if_neg (by decide)] at hR
              subst hR
              refine ⟨_, rfl, ?_, below_drewN hb _⟩
              have hp := ownsRow_prefix (m := n) (HO.out.drewN m) (by omega)
              rw [← List.map_take, ← List.map_take, List.take_range, Nat.min_eq_left (by omega)] at hp
              simpa using hp
theorem refBytes_any (a : Option Addr) (len cap : Nat) (xs : List Nat) (w : World) (hr : Reads .u32 w a len xs) (hx : ∀ x ∈ xs, x < 4294967296) (hl : len * 4 ≤ 140737488351232) (n : Int) (h1 : -9223372036854775808 ≤ n) (h2 : n ≤ 9223372036854775807) :
    Calls Try.prog 8 #[.slice a len cap, .int .i64 n] w (Gives w.heap.size 5 .u8 .i64 w (bytesOf xs n)) := by
  by_cases h : n < 0
  · rw [bytesOf, if_pos h]; exact refBytes_neg a len cap w n h h1
  · obtain ⟨m, rfl⟩ := Int.eq_ofNat_of_zero_le (by omega : 0 ≤ n)
    exact refBytes_pos a len cap xs w hr hx hl m (by omega)
set_option maxHeartbeats 1600000 in
theorem same_any (a b : Option Addr) (len ca cb : Nat) (xs : List Nat) (w : World) (ha : Reads .u32 w a len xs) (hb : Reads .u32 w b len xs) (hl : len * 4 ≤ 140737488355328) :
    Calls Try.prog 9 #[.slice a len ca, .slice b len cb] w (Quiet (.bool true) w) := by
  have hq : ((len : Int) != len) = false := by simp
  go_enter Try.func9, Try.ntmps9
  go_wp2
  go_loopw [5] (fun i wr => ∃ k : Nat, k ≤ len ∧ i = .int .i64 k ∧ ∃ m, wr = w.drewN m) (fun i _ => len - (intOf i).toNat)
  case atStart => exact ⟨0, Nat.zero_le _, rfl, 0, rfl⟩
  case round =>
    obtain ⟨k, hk, rfl, m, rfl⟩ := hrel
    by_cases hlt : k < len
    · obtain ⟨b1, o1, rfl, _, hc1⟩ := ha.at hlt
      obtain ⟨b2, o2, rfl, _, hc2⟩ := hb.at hlt
      have c1 := hc1 k hlt
      have c2 := hc2 k hlt
      have i1 : (k : Int) < len := by omega
      clear hc1 hc2
      generalize xs.getD k 0 = x1 at *
      have hn : ((x1 : Int) != x1) = false := by simp
      have c1' : (w.drewN m).cell? ⟨b1, o1 + k, none⟩ = some (.int .u32 (x1 : Int)) := c1
      have c2' : (w.drewN m).cell? ⟨b2, o2 + k, none⟩ = some (.int .u32 (x1 : Int)) := c2
      go_wp2
      go_quiet (fail)
      go_wp2
      exact ⟨⟨k + 1, by omega, by go_num, ⟨_, rfl⟩⟩, by simp [intOf]; omega⟩
    · go_wp2
      go_ret
      exact ⟨rfl, _, rfl⟩
end Go.Proofs.Ytghkphlmbmelhaa.word
