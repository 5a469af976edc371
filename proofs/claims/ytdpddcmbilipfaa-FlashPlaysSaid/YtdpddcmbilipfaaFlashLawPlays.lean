/- FlashPlays: whatever is done with a flash, each answer, and all that can be seen of it, is as the reference says. No condition. -/
import Derived.Test.YtdpddcmbilipfaaFlashPlaysA
import Derived.Deep.RegionHeld3
namespace Go.Proofs.Ytdpddcmbilipfaa.flashPlays
open Go.RowKit Go.Proofs.Ytdpddcmbilipfaa.flash Go.Proofs.Ytdpddcmbilipfaa.word
set_option linter.unusedVariables false

set_option maxHeartbeats 16000000 in
set_option maxRecDepth 20000 in
theorem walk_main (s n : Nat) (hs1 : 1 ≤ s) (hs2 : s ≤ 16) (hn1 : 1 ≤ n) (hn2 : n ≤ 32) (a0 : Option Addr) (cap : Nat) (l : List FAct) (w : World) (ac : FActs w a0 l) (fp : ∀ q ∈ l, q.Good w) (hcap : l.length ≤ maxLen) (hbig : bigL l = false) :
    Calls Try.prog 3 #[.agg #[.int .i64 (s : Int), .int .i64 (n : Int)], .slice a0 l.length cap] w (Yes w) := by
  obtain ⟨hl1, hl2⟩ := not_big hbig
  have hal : Below w.heap.size w (w.alloc (.cells #[.int .i64 (s : Int), .int .i64 (n : Int)] 22)) := (Below.refl _ _).alloc (Nat.le_refl _) _
  have hB := Block.new w 22 [.int .i64 (s : Int), .int .i64 (n : Int)]
  obtain ⟨w0, hw0⟩ : ∃ x, Hid (w.alloc (.cells #[.int .i64 (s : Int), .int .i64 (n : Int)] 22) = x) := ⟨_, rfl⟩
  have hgr := great_any a0 cap l _ (ac.below hal) hcap
  rw [hbig] at hgr
  have e0 := hB.cell 0
  have e1 := hB.cell 1
  have H0 : Hid (w0.heap.size = w.heap.size + 1) := hid (by rw [← hw0.out]; simp)
  have HB0 : Hid (Block w0 w.heap.size 22 [.int .i64 (s : Int), .int .i64 (n : Int)]) := hid (by rw [← hw0.out]; exact hB)
  have HAL : Hid (Below w.heap.size w w0) := hid (by rw [← hw0.out]; exact hal)
  have hnew : ∀ m, Calls Try.prog 8 #[.int .i64 (s : Int), .int .i64 (n : Int)] ((w.alloc (.cells #[.int .i64 (s : Int), .int .i64 (n : Int)] 22)).drewN m) fun e w' => ∃ b, e = .returned (.tuple #[.pointer (some ⟨b, 0, none⟩), .int .i64 0]) ∧ Live w0 b (Fl.fresh s n) w' :=
    fun m => new_live (w0 := w0) s n hs1 (by omega) hn1 (by omega) (by rw [hw0.out]; exact below_drewN (Below.refl _ _) m)
  have hnew2 : ∀ b w', Live w0 b (Fl.fresh s n) w' → Calls Try.prog 9 #[.int .i64 (s : Int), .int .i64 (n : Int)] w' fun e w2 => ∃ g, e = .returned (.pointer (some ⟨g, 0, none⟩)) ∧ Play w0 b g (Fl.fresh s n) (Fl.fresh s n) w2 := by
    rintro b w' ⟨S, h1, h2, h3⟩
    exact play_start hs1 (by omega) hn1 (by omega) h1 h2 h3
  have HAC := hid ac
  have HFP := hid fp
  have HL1 := hid hl1
  have HL2 := hid hl2
  have HSZ : Hid (∀ w', Below w0.heap.size w0 w' → w'.cell? ⟨w.heap.size, 0, none⟩ = some (.int .i64 (s : Int)) ∧ w'.cell? ⟨w.heap.size, 1, none⟩ = some (.int .i64 (n : Int))) := hid (fun w' hb => by
    have hB := HB0.out.below hb (by have := H0.out; omega)
    exact ⟨hB.cell 0, hB.cell 1⟩)
  have i16 : (s : Int) ≤ 16 := by omega
  have i32 : (n : Int) ≤ 32 := by omega
  have hml : (l.length : Int) ≤ 100 := by omega
  have HFR := hid (Fl.Ok.fresh (s := s) (l := n) hs1 (by omega) hn1 (by omega))
  clear hB hal hw0 hbig hl2 fp ac hl1 hcap
  go_enter Try.func3, Try.ntmps3
  go_wp2_with (first
    | (go_at_call 6; (with_reducible refine hgr.mono ?_); rintro e w1 ⟨rfl, m, rfl⟩)
    | (go_at_call 8; (with_reducible refine (hnew _).mono ?_); rintro e w2 ⟨b, rfl, hL⟩; have hb2 := (show Below w0.heap.size w0 w2 from by obtain ⟨_, _, _, h⟩ := hL; exact h); obtain ⟨e0', e1'⟩ := HSZ.out w2 hb2)
    | (go_at_call 9; (with_reducible refine (hnew2 _ _ hL).mono ?_); clear hL; rintro e w3 ⟨g, rfl, hP⟩))
  clear e0 e1 hgr hnew hnew2
  go_loopw [5, 8] (fun f i wr => ∃ k : Nat, k ≤ l.length ∧ i = .int .i64 (k : Int) ∧ ∃ b F, Hid (f = .pointer (some ⟨b, 0, none⟩)) ∧ Hid (Play w0 b g F F wr) ∧ Hid F.Ok ∧ Hid (F.count ≤ k) ∧ Hid (Shape (Fl.fresh s n) F)) (fun _ i _ => l.length - (intOf i).toNat)
  case atStart => exact ⟨0, Nat.zero_le _, rfl, b, _, hid rfl, hid hP, HFR, hid (Nat.zero_le _), hid ⟨rfl, rfl, rfl⟩⟩
  case round =>
    obtain ⟨k, hk, rfl, b, F, hf, hP, ok, hc, hsh⟩ := hrel
    have hf' := hf.out
    subst hf'
    clear hf
    by_cases hlt : k < l.length
    · have hbw : ∀ w', Below w0.heap.size w0 w' → Below w.heap.size w w' := fun w' hb => HAL.out.trans (hb.mono (by have := H0.out; omega))
      have hb0 := hP.out.below
      obtain ⟨b2, off, q, ha0, hb2, hq2, c0, c1, c2, c3⟩ := HAC.out.at hlt
      have hqg := HFP.out q (List.mem_of_getElem? hq2)
      have HK : Hid (∀ w', Below w0.heap.size w0 w' → w'.cell? ⟨b2, off + k * 4, none⟩ = some (.int .i64 q.k) ∧ w'.cell? ⟨b2, off + k * 4 + 1, none⟩ = some (.int .i64 q.A) ∧ w'.cell? ⟨b2, off + k * 4 + 2, none⟩ = some (.int .u32 q.X) ∧ w'.cell? ⟨b2, off + k * 4 + 3, none⟩ = some (.slice q.a q.len q.cap)) := hid (fun w' hb => by
        have h := hbw w' hb
        rw [h.cell (p := ⟨b2, off + k * 4, none⟩) hb2, h.cell (p := ⟨b2, off + k * 4 + 1, none⟩) hb2, h.cell (p := ⟨b2, off + k * 4 + 2, none⟩) hb2, h.cell (p := ⟨b2, off + k * 4 + 3, none⟩) hb2]
        exact ⟨c0, c1, c2, c3⟩)
      have hqlen : q.len ≤ 100 := HL2.out q (List.mem_of_getElem? hq2)
      have hcF : F.count < 4611686018427387904 := by have := hc.out; have := HL1.out; omega
      obtain ⟨G, hG⟩ : ∃ G, Hid ((flash.step F q.k q.A q.X q.M).2 = G) := ⟨_, rfl⟩
      obtain ⟨z1, hz1⟩ : ∃ z, Hid ((flash.step F q.k q.A q.X q.M).1.1 = z) := ⟨_, rfl⟩
      obtain ⟨z2, hz2⟩ : ∃ z, Hid ((flash.step F q.k q.A q.X q.M).1.2 = z) := ⟨_, rfl⟩
      have hdo : ∀ c w', Play w0 c g F F w' → Calls Try.prog 12 #[.pointer (some ⟨c, 0, none⟩), .agg #[.int .i64 q.k, .int .i64 q.A, .int .u32 q.X, .slice q.a q.len q.cap]] w' fun e w2 => e = .returned (.tuple #[.int .u32 (z1 : Nat), .int .i64 z2]) ∧ Play w0 c g G F w2 := fun c w' h => by
        have := h.do ok.out hcF q.k q.A q.X q.a q.len q.cap q.M hqg.a2 hqg.x (hqg.r.below (hbw _ h.below)) hqg.c1 (by omega) hqg.c2 (hqg.sep.imp id fun ⟨x, hx, hlt⟩ => ⟨x, hx, by have := H0.out; omega⟩)
        unfold actV at this
        rwa [hG.out, hz1.out, hz2.out] at this
      have htold : ∀ c w', Play w0 c g G F w' → Calls Try.prog 13 #[.pointer (some ⟨g, 0, none⟩), .agg #[.int .i64 q.k, .int .i64 q.A, .int .u32 q.X, .slice q.a q.len q.cap]] w' fun e w2 => e = .returned (.tuple #[.int .u32 (z1 : Nat), .int .i64 z2]) ∧ Play w0 c g G G w2 := fun c w' h => by
        have := h.told ok.out hcF q.k q.A q.X q.a q.len q.cap q.M hqg.a2 hqg.a1 hqg.x (hqg.r.below (hbw _ h.below)) (by omega) (hqg.sep.imp id fun ⟨x, hx, hlt⟩ => ⟨x, hx, by have := H0.out; omega⟩)
        unfold actV at this
        rwa [hG.out, hz1.out, hz2.out] at this
      have hcp : ∀ w', Play w0 b g F F w' → Calls Try.prog 10 #[.pointer (some ⟨b, 0, none⟩)] w' fun e w2 => ∃ c, e = .returned (.pointer (some ⟨c, 0, none⟩)) ∧ flash.Both w0 b c g F F w2 := fun w' h => h.copy ok.out
      have her : ∀ c w', flash.Both w0 b c g F F w' → Calls Try.prog 11 #[.pointer (some ⟨b, 0, none⟩), .int .i64 0] w' fun e w2 => e = .returned (.int .i64 (F.erase 0).1) ∧ Play w0 c g F F w2 := fun c w' h => h.erase ok.out hcF 0
      have HN : Hid (G.Ok ∧ G.count ≤ k + 1 ∧ Shape (Fl.fresh s n) G) := hid (by
        rw [← hG.out]
        refine ⟨step_ok ok.out hqg.a2 hqg.x (by rw [hqg.r.1]; omega) hqg.m, by have := (step_count F q.k q.A q.X q.M).2; have := hc.out; omega, ?_⟩
        have h1 := hsh.out
        have h2 := step_shape F q.k q.A q.X q.M
        exact ⟨h2.1.trans h1.1, h2.2.1.trans h1.2.1, h2.2.2.trans h1.2.2⟩)
      have hseen : ∀ c w', Play w0 c g G G w' → ∃ gW cW, Seen c g G gW cW w' := fun c w' h => h.seen HN.out.1
      obtain ⟨c0', c1', c2', c3'⟩ := HK.out wr hb0
      have i1 : (k : Int) < l.length := by omega
      have hP' := hP.out
      subst ha0
      clear hqg hq2 c0 c1 c2 c3 hG hz1 hz2 hb0 ok hc hsh hP hcF
      generalize (F.erase 0).1 = z3 at *
      by_cases k6 : q.k = 6
      · rw [k6] at hdo htold c0' HK
        clear k6
        go_wp2_with (first
          | (go_at_call 10; (with_reducible refine (hcp _ hP').mono ?_); clear hcp; rintro e w4 ⟨c, rfl, hBo⟩)
          | (go_at_call 11; (with_reducible refine (her _ _ hBo).mono ?_); clear her hBo; rintro e w4 ⟨rfl, hP4⟩; clear c0' c1' c2' c3'; obtain ⟨c0', c1', c2', c3'⟩ := HK.out w4 hP4.below)
          | (go_at_call 12; (with_reducible refine (hdo _ _ hP4).mono ?_); rintro e w5 ⟨rfl, hP5⟩; clear c0' c1' c2' c3'; obtain ⟨d0, d1, d2, d3⟩ := HK.out w5 hP5.below)
          | (go_at_call 13; (with_reducible refine (htold _ _ hP5).mono ?_); rintro e w6 ⟨rfl, hP6⟩; clear d0 d1 d2 d3; obtain ⟨gW, cW, hS⟩ := hseen _ w6 hP6; have HP6 := hid hP6; clear hP6))
        have cg := hS.gone
        have cw := hS.writes
        have cv := hS.wear q.A
        have cv2 := hS.wear2 q.A
        have cwo := hS.words
        have csa := hS.same
        have HKS : Hid (∀ w', Below w6.heap.size w6 w' → w'.cell? ⟨b2, off + k * 4 + 1, none⟩ = some (.int .i64 q.A) ∧ w'.cell? ⟨g, 0, none⟩ = some (.slice (some ⟨gW, 0, none⟩) G.ws.length cW) ∧ w'.cell? ⟨g, 3, none⟩ = some (.int .i64 (G.count : Int)) ∧ w'.cell? ⟨g, 4, none⟩ = some (.bool G.dark)) :=
          hid fun w' hb => ⟨(HK.out w' (HP6.out.below.trans (hb.mono HP6.out.below.size))).2.1, hS.cells w' hb⟩
        have hB0 : Below w6.heap.size w6 w6.drew := below_drewN (Below.refl _ _) 1
        have hk0 := HKS.out w6.drew hB0
        clear hS hdo htold hseen hbw
        generalize G.ws.length = wl at *
        generalize (wearAt G.worn q.A) = wv at *
        go_region_held3 (fun w' => w'.cell? ⟨b2, off + k * 4 + 1, none⟩ = some (.int .i64 q.A) ∧ w'.cell? ⟨g, 0, none⟩ = some (.slice (some ⟨gW, 0, none⟩) wl cW) ∧ w'.cell? ⟨g, 3, none⟩ = some (.int .i64 (G.count : Int)) ∧ w'.cell? ⟨g, 4, none⟩ = some (.bool G.dark)) (first | assumption | go_keep) (first
          | (go_at_call 14; (with_reducible refine (cg _ hB0).mono ?_); rintro e w7 ⟨rfl, hB1⟩; have hk1 := HKS.out w7 hB1)
          | (go_at_call 15; (with_reducible refine (cw _ hB1).mono ?_); rintro e w8 ⟨rfl, hB2⟩; have hk2 := HKS.out w8 hB2)
          | (go_at_call 16; (with_reducible refine (cv _ hB2).mono ?_); rintro e w9 ⟨rfl, hB3⟩; have hk3 := HKS.out w9 hB3)
          | (go_at_call 17; (with_reducible refine (cv2 _ hB3).mono ?_); rintro e w10 ⟨rfl, hB4⟩; have hk4 := HKS.out w10 hB4)
          | (go_at_call 19; (with_reducible refine (cwo _ hB4).mono ?_); rintro e w11 ⟨qq, cc, rfl, hqr, hB5⟩; have hk5 := HKS.out w11 hB5)
          | (go_at_call 18; (with_reducible refine (csa _ _ _ hqr hB5).mono ?_); rintro e w12 ⟨rfl, hB6⟩; have hk6 := HKS.out w12 hB6))
        clear cg cw cv cv2 cwo csa hk0 hk1 hk2 hk3 hk4 hk5 hk6
        go_wp2
        exact ⟨⟨k + 1, by omega, by go_num, c, G, hid rfl, hid (HP6.out.later hB6), hid HN.out.1, hid HN.out.2.1, hid HN.out.2.2⟩, by simp [intOf]; omega⟩
      · go_wp2_with (first
          | (go_at_call 12; (with_reducible refine (hdo _ _ hP').mono ?_); rintro e w5 ⟨rfl, hP5⟩; clear c0' c1' c2' c3'; obtain ⟨d0, d1, d2, d3⟩ := HK.out w5 hP5.below)
          | (go_at_call 13; (with_reducible refine (htold _ _ hP5).mono ?_); rintro e w6 ⟨rfl, hP6⟩; clear d0 d1 d2 d3; obtain ⟨gW, cW, hS⟩ := hseen _ w6 hP6; have HP6 := hid hP6; clear hP6))
        have cg := hS.gone
        have cw := hS.writes
        have cv := hS.wear q.A
        have cv2 := hS.wear2 q.A
        have cwo := hS.words
        have csa := hS.same
        have HKS : Hid (∀ w', Below w6.heap.size w6 w' → w'.cell? ⟨b2, off + k * 4 + 1, none⟩ = some (.int .i64 q.A) ∧ w'.cell? ⟨g, 0, none⟩ = some (.slice (some ⟨gW, 0, none⟩) G.ws.length cW) ∧ w'.cell? ⟨g, 3, none⟩ = some (.int .i64 (G.count : Int)) ∧ w'.cell? ⟨g, 4, none⟩ = some (.bool G.dark)) :=
          hid fun w' hb => ⟨(HK.out w' (HP6.out.below.trans (hb.mono HP6.out.below.size))).2.1, hS.cells w' hb⟩
        have hB0 : Below w6.heap.size w6 w6.drew := below_drewN (Below.refl _ _) 1
        have hk0 := HKS.out w6.drew hB0
        clear hS hdo htold hcp her hseen hbw
        generalize G.ws.length = wl at *
        generalize (wearAt G.worn q.A) = wv at *
        go_region_held3 (fun w' => w'.cell? ⟨b2, off + k * 4 + 1, none⟩ = some (.int .i64 q.A) ∧ w'.cell? ⟨g, 0, none⟩ = some (.slice (some ⟨gW, 0, none⟩) wl cW) ∧ w'.cell? ⟨g, 3, none⟩ = some (.int .i64 (G.count : Int)) ∧ w'.cell? ⟨g, 4, none⟩ = some (.bool G.dark)) (first | assumption | go_keep) (first
          | (go_at_call 14; (with_reducible refine (cg _ hB0).mono ?_); rintro e w7 ⟨rfl, hB1⟩; have hk1 := HKS.out w7 hB1)
          | (go_at_call 15; (with_reducible refine (cw _ hB1).mono ?_); rintro e w8 ⟨rfl, hB2⟩; have hk2 := HKS.out w8 hB2)
          | (go_at_call 16; (with_reducible refine (cv _ hB2).mono ?_); rintro e w9 ⟨rfl, hB3⟩; have hk3 := HKS.out w9 hB3)
          | (go_at_call 17; (with_reducible refine (cv2 _ hB3).mono ?_); rintro e w10 ⟨rfl, hB4⟩; have hk4 := HKS.out w10 hB4)
          | (go_at_call 19; (with_reducible refine (cwo _ hB4).mono ?_); rintro e w11 ⟨qq, cc, rfl, hqr, hB5⟩; have hk5 := HKS.out w11 hB5)
          | (go_at_call 18; (with_reducible refine (csa _ _ _ hqr hB5).mono ?_); rintro e w12 ⟨rfl, hB6⟩; have hk6 := HKS.out w12 hB6))
        clear cg cw cv cv2 cwo csa hk0 hk1 hk2 hk3 hk4 hk5 hk6
        go_wp2
        exact ⟨⟨k + 1, by omega, by go_num, b, G, hid rfl, hid (HP6.out.later hB6), hid HN.out.1, hid HN.out.2.1, hid HN.out.2.2⟩, by simp [intOf]; omega⟩
    · obtain rfl : k = l.length := by omega
      have hbx := hP.out.below
      obtain ⟨e0, e1⟩ := HSZ.out wr hbx
      have hsz := hP.out.size
      obtain ⟨sh1, sh2, sh3⟩ := hsh.out
      rw [show F.worn.length = s from sh3.trans (by simp [Fl.fresh]), show F.long = n from sh1] at hsz
      have HBX : Hid (Below w.heap.size w wr) := hid (HAL.out.trans (hbx.mono (by have := H0.out; omega)))
      clear sh1 sh2 sh3 hbx
      go_wp2_with (first
        | (go_at_call 20; (with_reducible refine hsz.mono ?_); rintro e w5 ⟨rfl, m5, rfl⟩)
        | (go_at_call 7; (with_reducible refine (awake_any _).mono ?_); rintro e w8 ⟨rfl, hb8⟩))
      go_ret
      exact ⟨rfl, (below_drewN HBX.out _).trans (hb8.mono HBX.out.size)⟩
theorem walk (x y : Int) (a0 : Option Addr) (cap : Nat) (l : List FAct) (w : World) (bx : -9223372036854775808 ≤ x ∧ x ≤ 9223372036854775807) (by_ : -9223372036854775808 ≤ y ∧ y ≤ 9223372036854775807) (ac : FActs w a0 l) (fp : ∀ q ∈ l, q.Good w) (lc : l.length ≤ cap) (cm : cap ≤ maxLen) :
    Calls Try.prog 3 #[.agg #[.int .i64 x, .int .i64 y], .slice a0 l.length cap] w (Yes w) := by
  cases hb : bigL l with
  | true => exact walk_awake x y a0 cap l w ac (by omega) (.inl hb)
  | false =>
    by_cases h1 : 16 < x ∧ x ≤ 512
    · exact walk_awake x y a0 cap l w ac (by omega) (.inr (.inl ⟨hb, h1⟩))
    by_cases h2 : 32 < y ∧ y ≤ 1024
    · exact walk_awake x y a0 cap l w ac (by omega) (.inr (.inr ⟨hb, h1, h2⟩))
    by_cases h3 : x < 1 ∨ 512 < x ∨ y < 1 ∨ 1024 < y
    · exact walk_none x y a0 cap l w ac (by omega) hb h1 h2 h3
    · obtain ⟨s, rfl⟩ := Int.eq_ofNat_of_zero_le (show 0 ≤ x by omega)
      obtain ⟨n, rfl⟩ := Int.eq_ofNat_of_zero_le (show 0 ≤ y by omega)
      exact walk_main s n (by omega) (by omega) (by omega) (by omega) a0 cap l w ac fp (by omega) hb
end Go.Proofs.Ytdpddcmbilipfaa.flashPlays
