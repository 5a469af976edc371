/- FlashOnly: the act is a Program and is done. No condition. -/
import Derived.Test.YtdpddcmbilipfaaFlashOnlyA
namespace Go.Proofs.Ytdpddcmbilipfaa.flashOnly
open Go.RowKit Go.Proofs.Ytdpddcmbilipfaa.flash Go.Proofs.Ytdpddcmbilipfaa.word
set_option linter.unusedVariables false

set_option maxHeartbeats 16000000 in
set_option maxRecDepth 20000 in
theorem word_0 (a0 : Option Addr) (cap : Nat) (l : List FAct) (p : FAct) (w : World) (ac : FActs w a0 l) (fp : ∀ q ∈ l, q.Good w) (lc : l.length ≤ cap) (cm : cap ≤ maxLen) (hp : p.Good w) (hbig : bigL l = false) (hpl : ¬ 100 < p.len) (F G : Fl) (z : Int) (hFd : F = runF l) (hdoes : (flash.step F p.k p.A p.X p.M).2 = G ∧ (flash.step F p.k p.A p.X p.M).1.2 = z) (a v : Nat) (hc'X : Hid (G.count = F.count + 1)) (hdX : Hid (F.dark = false)) (hkX : Hid (p.k = 0 ∨ p.k = 1)) (hAX : Hid (p.A = (a : Int))) (haX : Hid (a < F.ws.length)) (hwX : Hid (G.ws = F.ws.set a v)) (hclX : Hid (clr v (F.ws.getD a 0) = 0)) (hxX : Hid (z = 0 → v = p.X)) (hzX : Hid (z = 0)) : Calls Try.prog 4 #[.slice a0 l.length cap, p.val] w (Yes w) := by
  have hal : Below w.heap.size w (w.alloc (.cells #[.int .i64 p.k, .int .i64 p.A, .int .u32 p.X, .slice p.a p.len p.cap] 35)) := (Below.refl _ _).alloc (Nat.le_refl _) _
  have hB := Block.new w 35 [.int .i64 p.k, .int .i64 p.A, .int .u32 p.X, .slice p.a p.len p.cap]
  obtain ⟨w0, hw0⟩ : ∃ x, Hid ((w.alloc (.cells #[.int .i64 p.k, .int .i64 p.A, .int .u32 p.X, .slice p.a p.len p.cap] 35)) = x) := ⟨_, rfl⟩
  have hgr := great_any a0 cap l w0 (by rw [← hw0.out]; exact ac.below hal) (by omega)
  rw [hbig] at hgr
  obtain ⟨hl1, hl2⟩ := not_big hbig
  unfold FAct.val actV
  have e0 := hB.cell 0
  have e3 := hB.cell 3
  have hq : (p.len : Int) ≤ 100 := by omega
  have H0 : Hid (w0.heap.size = w.heap.size + 1) := hid (by rw [← hw0.out]; simp)
  have HB0 : Hid (Block w0 w.heap.size 35 [.int .i64 p.k, .int .i64 p.A, .int .u32 p.X, .slice p.a p.len p.cap]) := hid (by rw [← hw0.out]; exact hB)
  have HAL : Hid (Below w.heap.size w w0) := hid (by rw [← hw0.out]; exact hal)
  have hnew : ∀ n, Calls Try.prog 8 #[.int .i64 4, .int .i64 5] ((w.alloc (.cells #[.int .i64 p.k, .int .i64 p.A, .int .u32 p.X, .slice p.a p.len p.cap] 35)).drewN n) fun e w' => ∃ b, e = .returned (.tuple #[.pointer (some ⟨b, 0, none⟩), .int .i64 0]) ∧ Live w0 b (Fl.fresh 4 5) w' :=
    fun n => new_live (w0 := w0) 4 5 (by decide) (by decide) (by decide) (by decide) (by rw [hw0.out]; exact below_drewN (Below.refl _ _) n)
  rw [← hw0.out] at hgr
  have HP := hid hp
  have HAC := hid ac
  have HFP := hid fp
  have HL1 := hid hl1
  have HRF := hid (runF_good fp hl2)
  have HFD := hid hFd
  have HDO := hid hdoes
  have HL2 := hid hl2
  have hml : (l.length : Int) ≤ 100 := by omega
  clear hB hal hw0 hbig hl2 hp fp ac hl1 cm hpl hFd hdoes
  go_enter Try.func4, Try.ntmps4
  go_wp2_with (first
    | (go_at_call 6; (with_reducible refine hgr.mono ?_); rintro e w1 ⟨rfl, m, rfl⟩)
    | (go_at_call 8; (with_reducible refine (hnew _).mono ?_); rintro e w2 ⟨b, rfl, hL⟩))
  go_loopw [7] (fun i wr => ∃ k : Nat, k ≤ l.length ∧ i = .int .i64 (k : Int) ∧ Hid (Live w0 b (runF (l.take k)) wr)) (fun i _ => l.length - (intOf i).toNat)
  case atStart => exact ⟨0, Nat.zero_le _, rfl, hid hL⟩
  case round =>
    obtain ⟨k, hk, rfl, hL'⟩ := hrel
    have hbw : Below w.heap.size w wr := by
      obtain ⟨S, _, _, hb⟩ := hL'.out
      exact HAL.out.trans (hb.mono (by have := H0.out; omega))
    by_cases hlt : k < l.length
    · obtain ⟨b2, off, q, ha0, hb2, hq2, c0, c1, c2, c3⟩ := (HAC.out.below hbw).at hlt
      have hqg := HFP.out q (List.mem_of_getElem? hq2)
      obtain ⟨g1, g2, g3⟩ := HRF.out k hk
      have hdo := hL'.out.do g1 (by have := HL1.out; omega) q.k q.A q.X q.a q.len q.cap q.M hqg.a2 hqg.x (hqg.r.below hbw) hqg.c1 (by have := HL2.out q (List.mem_of_getElem? hq2); omega) hqg.c2 (hqg.sep.imp id fun ⟨x, hx, hlt⟩ => ⟨x, hx, by have := H0.out; omega⟩)
      unfold actV at hdo
      rw [← runF_step hq2] at hdo
      subst ha0
      have i1 : (k : Int) < l.length := by omega
      clear hqg hq2 hbw hL' g1 g2 g3
      generalize (flash.step (runF (l.take k)) q.k q.A q.X q.M).1.1 = z1 at *
      generalize (flash.step (runF (l.take k)) q.k q.A q.X q.M).1.2 = z2 at *
      go_wp2_with (go_at_call 12; (with_reducible refine hdo.mono ?_); rintro e w3 ⟨rfl, hL3⟩)
      exact ⟨⟨k + 1, by omega, by go_num, hid hL3⟩, by simp [intOf]; omega⟩
    · obtain rfl : k = l.length := by omega
      have hLF : Live w0 b F wr := by
        have := hL'.out
        rw [List.take_length] at this
        rw [HFD.out]
        exact this
      clear hL'
      obtain ⟨q1', q2', q3'⟩ := HRF.out l.length (Nat.le_refl _)
      rw [List.take_length, ← HFD.out] at q1' q2' q3'
      have ok := hid q1'
      have hL' := hid hLF
      obtain ⟨S, hF, hS, hb⟩ := hLF
      obtain ⟨sh1, sh2, sh3⟩ := q3'
      have hl5 : F.long = 5 := sh1
      have hn20 : F.ws.length = 20 := sh2.trans (by simp [Fl.fresh])
      have hn4 : F.worn.length = 4 := sh3.trans (by simp [Fl.fresh])
      have hp := HP.out
      have hcF : F.count ≤ 100 := by have := HL1.out; omega
      have hML : p.M.length ≤ 140737488355328 := by rw [hp.r.1]; omega
      have hG : Hid ((flash.step F p.k p.A p.X p.M).2 = G) := hid HDO.out.1
      obtain ⟨z1, hz1⟩ : ∃ z, Hid ((flash.step F p.k p.A p.X p.M).1.1 = z) := ⟨_, rfl⟩
      have hz : Hid ((flash.step F p.k p.A p.X p.M).1.2 = z) := hid HDO.out.2
      have hog := step_ok ok.out (k := p.k) hp.a2 hp.x hML hp.m
      have hshg := step_shape F p.k p.A p.X p.M
      rw [hG.out] at hog hshg
      have HOG := hid hog
      have HLF : Hid (F.ws.length = 20) := hid hn20
      have HLG : Hid (G.ws.length = 20) := hid (hshg.2.1.trans hn20)
      have HS5 : Hid (F.long = 5) := hid hl5
      have HS4 : Hid (F.worn.length = 4) := hid hn4
      have hwords : Calls Try.prog 19 #[.pointer (some ⟨b, 0, none⟩)] wr fun e w' => ∃ g c, e = .returned (.slice (some ⟨g, 0, none⟩) 20 c) ∧ wr.heap.size ≤ g ∧ Row w' 32 .u32 g c F.ws ∧ Below wr.heap.size wr w' := by
        refine (hL'.out.words ok.out).mono ?_
        rintro e w' ⟨g, c, rfl, h1, h2, h3, _⟩
        exact ⟨g, c, by rw [hn20], h1, h2, h3⟩
      have hwords2 : ∀ S' w', FlashAt S' b G w' → Calls Try.prog 19 #[.pointer (some ⟨b, 0, none⟩)] w' fun e w2 => ∃ g c, e = .returned (.slice (some ⟨g, 0, none⟩) 20 c) ∧ w'.heap.size ≤ g ∧ Row w2 32 .u32 g c G.ws ∧ Below w'.heap.size w' w2 := by
        rintro S' w' ⟨ca, cb, cm, bw, cw, bv, cv, hA⟩
        refine (words_any hA hog).mono ?_
        rintro e w2 ⟨g, c, rfl, h1, h2, h3⟩
        exact ⟨g, c, by rw [hshg.2.1.trans hn20], h1, h2, h3⟩
      have HWR : Hid (∀ S' w', FlashAt S' b G w' → Calls Try.prog 15 #[.pointer (some ⟨b, 0, none⟩)] w' (Quiet (.int .i64 (G.count : Int)) w')) := hid (by
        rintro S' w' ⟨ca, cb, cm, bw, cw, bv, cv, hA⟩
        exact writes_any b _ w' hA.cell.2.2.2.2.2.2.1)
      have hwr : w0.heap.size ≤ wr.heap.size := hb.size
      have HGS : Hid (∀ g, wr.heap.size ≤ g → ¬ S g) := hid fun g hg hs => by have := (hS g hs).2; omega
      have HK4 : Hid (∀ w4, Below wr.heap.size wr w4 → w4.cell? ⟨w.heap.size, 0, none⟩ = some (.int .i64 p.k) ∧ w4.cell? ⟨w.heap.size, 1, none⟩ = some (.int .i64 p.A) ∧ w4.cell? ⟨w.heap.size, 2, none⟩ = some (.int .u32 p.X) ∧ w4.cell? ⟨w.heap.size, 3, none⟩ = some (.slice p.a p.len p.cap) ∧
          Calls Try.prog 14 #[.pointer (some ⟨b, 0, none⟩)] w4 (Quiet (.bool F.dark) w4) ∧
          (∀ n, Calls Try.prog 15 #[.pointer (some ⟨b, 0, none⟩)] (w4.drewN n) (Quiet (.int .i64 (F.count : Int)) (w4.drewN n))) ∧
          (∀ n, Calls Try.prog 12 #[.pointer (some ⟨b, 0, none⟩), .agg #[.int .i64 p.k, .int .i64 p.A, .int .u32 p.X, .slice p.a p.len p.cap]] (w4.drewN n) (Did S b G (.tuple #[.int .u32 (z1 : Nat), .int .i64 z]) (w4.drewN n)))) := hid (by
        intro w4 hb4
        have hB := (HB0.out.later (hb.mono (Nat.le_refl _))).later hb4
        have hF4 := hF.later hb4
        have hbw4 : Below w.heap.size w w4 := hbw.trans (hb4.mono hbw.size)
        refine ⟨hB.cell 0, hB.cell 1, hB.cell 2, hB.cell 3, ?_, fun n => ?_, fun n => ?_⟩
        · obtain ⟨ca, cb, cm, bw, cw, bv, cv, hA⟩ := hF4
          exact gone_any b _ _ hA.cell.2.2.2.2.2.2.2
        · obtain ⟨ca, cb, cm, bw, cw, bv, cv, hA⟩ := hF4
          exact writes_any b _ _ (hA.drewN n).cell.2.2.2.2.2.2.1
        · have := do_any (hF4.later (below_drewN (Below.refl _ _) n)) ok.out (by omega) p.k p.A p.X p.a p.len p.cap p.M hp.a2 hp.x ((hp.r.below hbw4).drewN n) hp.c1 (by omega) hp.c2 (hp.sep.imp id fun ⟨x, hx, hlt⟩ => ⟨x, hx, fun hs => by have := (hS _ hs).1; have := H0.out; omega⟩)
          unfold actV at this
          rwa [hG.out, hz1.out, hz.out] at this)
      have HKB : Hid (∀ w4 w5 w6 n, Below wr.heap.size wr w4 → Only S (w4.drewN n) w5 → Below w5.heap.size w5 w6 → Block w6 w.heap.size 35 [.int .i64 p.k, .int .i64 p.A, .int .u32 p.X, .slice p.a p.len p.cap] ∧ Below w.heap.size w w6) := hid (by
        intro w4 w5 w6 n hb4 hO hb6
        have hB := (HB0.out.later (hb.mono (Nat.le_refl _))).later hb4
        have h1 : Below w0.heap.size (w4.drewN n) w5 := hO.below (Nat.le_trans hwr hb4.size) (fun x hx => (hS x hx).1)
        have h2 : Block w5 w.heap.size 35 [.int .i64 p.k, .int .i64 p.A, .int .u32 p.X, .slice p.a p.len p.cap] := (hB.drewN n).below h1 (by have := H0.out; omega)
        refine ⟨h2.later hb6, ?_⟩
        have h3 : Below w.heap.size w w4 := hbw.trans (hb4.mono hbw.size)
        have h4 : Below w.heap.size w w5 := (below_drewN h3 n).trans (h1.mono (by have := H0.out; omega))
        exact h4.trans (hb6.mono h4.size))
      have HC := hid hcF
      clear hbw sh1 sh2 sh3 hl5 hn20 hn4 hp hML hog hshg hF hS hb hL' hnew HL1 HL2 HFP HAC HP HAL HB0 hwr q1' q2' HRF HFD HDO
      have hc' := hc'X.out
      have hd := hdX.out
      have hk := hkX.out
      have hA := hAX.out
      have ha := haX.out
      have hw := hwX.out
      have hcl := hclX.out
      have hx := hxX.out
      clear hc'X hdX hkX hAX haX hwX hclX hxX
      have hz := hzX.out
      subst hz
      clear hzX
      have hwrites2 : ∀ S' w', FlashAt S' b G w' → Calls Try.prog 15 #[.pointer (some ⟨b, 0, none⟩)] w' (Quiet (.int .i64 ((F.count : Int) + 1)) w') := fun S' w' h => by have := HWR.out S' w' h; rwa [show (G.count : Int) = (F.count : Int) + 1 by omega] at this
      have hsub : (F.count : Int) + 1 - (F.count : Int) = 1 := by omega
      rw [hd] at HK4
      clear hd
      have q1 : ¬ (2 < p.k) := by omega
      have q2 : ¬ (p.k = 2) := by omega
      have q3 : (p.k == 2) = false := by simpa using q2
      have q4 : p.k < 2 := by omega
      have HW := hid hw
      have HA := hid hA
      have HCL := hid hcl
      have HLA := hid ha
      have HX := hid (hx rfl)
      clear hw hA hcl ha hx hk hc'

      clear HC
      go_wp2_with (first
        | (go_at_call 19; (with_reducible refine hwords.mono ?_); clear hwords; rintro e w4 ⟨g1, c1, rfl, hg1, hr1, hb4⟩; have h4 := HK4.out w4 hb4; have d0 := h4.1; have d1 := h4.2.1; have d2 := h4.2.2.1; have d3 := h4.2.2.2.1; have hgone4 := h4.2.2.2.2.1; have hwrites4 := h4.2.2.2.2.2.1; have hdo4 := h4.2.2.2.2.2.2; have HR1 := hid hr1; have HG1 := hid hg1; have HB4 := hid hb4; clear h4 hr1 hg1 hb4)
        | (go_at_call 14; (with_reducible refine hgone4.mono ?_); clear hgone4; rintro e w5 ⟨rfl, m5, rfl⟩)
        | (go_at_call 15; (with_reducible refine (hwrites4 _).mono ?_); clear hwrites4; rintro e w5 ⟨rfl, m6, rfl⟩)
        | (go_at_call 12; (with_reducible refine (hdo4 _).mono ?_); clear hdo4; rintro e w5 ⟨rfl, S', hF5, hS5, hO5⟩; have hwords5 := hwords2 S' w5 hF5; clear d0 d1 d2 d3)
        | (go_at_call 19; (with_reducible refine hwords5.mono ?_); clear hwords5; rintro e w6 ⟨g2, c2, rfl, hg2, hr2, hb6⟩; have hwrites6 := hwrites2 S' w6 (hF5.later hb6); have hB6 := HKB.out w4 w5 w6 _ HB4.out hO5 hb6; have d0 := hB6.1.cell 0; have d1 := hB6.1.cell 1; have d2 := hB6.1.cell 2; have HR1' := hid (((HR1.out.later (below_drewN (Below.refl _ _) _)).only hO5 (HGS.out _ HG1.out)).later hb6); have HR2 := hid hr2; have HB6 := hid hB6; clear hr2 hB6)
        | (go_at_call 15; (with_reducible refine hwrites6.mono ?_); clear hwrites6; rintro e w7 ⟨rfl, m7, rfl⟩))
      clear d0 d1 d2
      go_loopw [15] (fun u wz => ∃ i : Nat, i ≤ 20 ∧ u = .int .i64 (i : Int) ∧ Hid (Below w6.heap.size w6 wz)) (fun u _ => 20 - (intOf u).toNat)
      case atStart => exact ⟨0, Nat.zero_le _, rfl, hid (below_drewN (Below.refl _ _) _)⟩
      case round =>
        obtain ⟨i, hi, rfl, hbz⟩ := hrel
        have hB7 := HB6.out.1.later hbz.out
        have d0 := hB7.cell 0
        have d1 := hB7.cell 1
        have d2 := hB7.cell 2
        clear hB7
        by_cases hlt : i < 20
        · have hi1 : (i : Int) < 20 := by omega
          have x1 : wr.cell? ⟨g1, i, none⟩ = some (.int .u32 ((F.ws.getD i 0 : Nat) : Int)) := (HR1'.out.later hbz.out).get (by rw [HLF.out]; exact hlt)
          have x2 : wr.cell? ⟨g2, i, none⟩ = some (.int .u32 ((G.ws.getD i 0 : Nat) : Int)) := (HR2.out.later hbz.out).get (by rw [HLG.out]; exact hlt)
          have y1 : F.ws.getD i 0 < 4294967296 := getD_lt ok.out.w (by decide) i
          have y2 : G.ws.getD i 0 < 4294967296 := getD_lt HOG.out.w (by decide) i
          have k1 := fun w' => refClr_any (F.ws.getD i 0) (G.ws.getD i 0) y1 y2 w'
          have k2 := fun w' => refClr_any (G.ws.getD i 0) (F.ws.getD i 0) y2 y1 w'
          by_cases hia : i = a
          · have ho : ((i : Int) == p.A) = true := by rw [HA.out, hia]; simp
            have hgv : G.ws.getD i 0 = v := by rw [HW.out, hia, List.getD_eq_getElem?_getD, List.getElem?_set, if_pos rfl, if_pos HLA.out]; rfl
            have z2 : ((clr (G.ws.getD i 0) (F.ws.getD i 0) : Nat) : Int) = 0 := by
              rw [hgv, hia, HCL.out]; rfl
            rw [hgv, HX.out] at x2 y2 k1 k2 z2
            clear hgv hia
            have HI : Hid (((clr (F.ws.getD i 0) p.X : Nat) : Int) = 0 ∨ ((((clr (F.ws.getD i 0) p.X : Nat) : Int) != 0) = true ∧ ¬ ((clr (F.ws.getD i 0) p.X : Nat) : Int) = 0)) := hid (by by_cases hh : ((clr (F.ws.getD i 0) p.X : Nat) : Int) = 0; exact .inl hh; exact .inr ⟨by simpa using hh, hh⟩)
            rcases HI.out with ho1 | ⟨ho1, ho2⟩
            · clear HI
              have HX1 := hid x1
              generalize F.ws.getD i 0 = vx at *
              generalize clr vx p.X = cx at *
              generalize clr p.X vx = cy at *
              go_wp2
              go_quiet ((go_at_call 21; (with_reducible exact quietAt (k1 _))))
              go_wp2
              go_quiet ((go_at_call 21; (with_reducible exact quietAt2 (k2 _))))
              go_wp2
              go_quiet (fail)
              go_wp2
              exact ⟨⟨i + 1, by omega, by go_num, hid (below_drewN hbz.out _)⟩, by simp [intOf]; omega⟩
            · clear HI
              have HX1 := hid x1
              generalize F.ws.getD i 0 = vx at *
              generalize clr vx p.X = cx at *
              generalize clr p.X vx = cy at *
              go_wp2
              go_quiet ((go_at_call 21; (with_reducible exact quietAt (k1 _))))
              go_wp2
              go_quiet ((go_at_call 21; (with_reducible exact quietAt2 (k2 _))))
              go_wp2
              go_quiet (fail)
              go_wp2
              exact ⟨⟨i + 1, by omega, by go_num, hid (below_drewN hbz.out _)⟩, by simp [intOf]; omega⟩
          · have ho : ((i : Int) == p.A) = false := by rw [HA.out]; simp; omega
            have hwx : G.ws.getD i 0 = F.ws.getD i 0 := by
              rw [HW.out, List.getD_eq_getElem?_getD, List.getElem?_set, if_neg (fun e => hia e.symm), ← List.getD_eq_getElem?_getD]
            have z1 : ((clr (F.ws.getD i 0) (G.ws.getD i 0) : Nat) : Int) = 0 := by rw [hwx, clr_self y1]; rfl
            have z2 : ((clr (G.ws.getD i 0) (F.ws.getD i 0) : Nat) : Int) = 0 := by rw [hwx, clr_self y1]; rfl
            clear hwx
            have HX1 := hid x1
            generalize F.ws.getD i 0 = vx at *
            generalize G.ws.getD i 0 = vy at *
            generalize clr vx vy = cx at *
            generalize clr vy vx = cy at *
            go_wp2
            go_quiet ((go_at_call 21; (with_reducible exact quietAt (k1 _))))
            go_wp2
            go_quiet ((go_at_call 21; (with_reducible exact quietAt2 (k2 _))))
            go_wp2
            go_quiet (fail)
            go_wp2
            exact ⟨⟨i + 1, by omega, by go_num, hid (below_drewN hbz.out _)⟩, by simp [intOf]; omega⟩

        · obtain rfl : i = 20 := by omega
          go_wp2_with (go_at_call 7; (with_reducible refine (awake_any _).mono ?_); rintro e w8 ⟨rfl, hb8⟩)
          go_ret
          exact ⟨rfl, (HB6.out.2.trans (hbz.out.mono HB6.out.2.size)).trans (hb8.mono (Nat.le_trans HB6.out.2.size hbz.out.size))⟩
end Go.Proofs.Ytdpddcmbilipfaa.flashOnly
