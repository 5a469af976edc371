/- DriveStands: behind a Write that is OK the run is what was written, and all else is as it was; behind Fresh all behind it is ones; what is refused writes nothing, and what was written is not written again. No condition. -/
import Derived.Test.YtcigijhoeghnnaaClHDriveStandsA
import Derived.Test.YtcigijhoeghnnaaCmG
import Derived.Test.YtcigijhoeghnnaaCmA
import Derived.Test.YtcigijhoeghnnaaCmF
/- DriveStands: behind a Write that is OK the run is what was written, and all else is as it was; behind Fresh all behind it is ones; what is refused writes nothing, and what was written is not written again. No condition. Here: the acts that become a Fresh. -/
namespace Go.Proofs.Ytcigijhoeghnnaa.driveStands
open Go.RowKit Go.Proofs.Ytcigijhoeghnnaa.drive Go.Proofs.Ytcigijhoeghnnaa.geom Go.Proofs.Ytcigijhoeghnnaa.flash
set_option linter.unusedVariables false

set_option maxHeartbeats 16000000 in
set_option maxRecDepth 20000 in
theorem walk5 (g : Geo) (a0 : Option Addr) (cap : Nat) (l : List DAct) (k s a n : Int) (pw : Option Addr) (len pcap : Nat) (w : World) (ac : DActs w a0 l) (fp : ∀ p ∈ l, p.Good w) (hsm : Small g) (hbig : bigL l = false) (h200 : ¬ 200 < len) (W : List Nat) (hr : Reads .u32 w pw len W) (hW : ∀ y ∈ W, y < 4294967296) (hlc : len ≤ pcap) (hcap : pcap ≤ maxLen) (hsep : len = 0 ∨ ∃ y, pw = some y ∧ y.block < w.heap.size)
    (ha : a ≤ 9223372036854775807) (hn : n ≤ 9223372036854775807) (hand : bits .and .i64 k 1 = 1) : Calls Try.prog 4 #[.agg #[.int .i64 g.sector, .int .i64 g.slot, .int .i64 g.data, .int .i64 g.quota, .int .i64 g.tries, .int .i64 g.life], .slice a0 l.length cap, .agg #[.int .i64 k, .int .i64 s, .int .i64 a, .int .i64 n, .slice pw len pcap]] w (Yes w) := by
  obtain ⟨hl1, hl2⟩ := not_big hbig
  have hcapl : l.length ≤ maxLen := by unfold maxLen; omega
  have HS := held g k s a n pw len pcap w
  obtain ⟨w0, hw0⟩ : ∃ z, Hid (((w.alloc (.cells #[.int .i64 g.sector, .int .i64 g.slot, .int .i64 g.data, .int .i64 g.quota, .int .i64 g.tries, .int .i64 g.life] 23)).alloc (.cells #[.int .i64 k, .int .i64 s, .int .i64 a, .int .i64 n, .slice pw len pcap] 43)) = z) := ⟨_, rfl⟩
  rw [hw0.out] at HS
  have hb0 : Below w0.heap.size w0 w0 := Below.refl _ _
  have hac := ac.below (HS.out w0 hb0).2.2.2.2
  have hgr := fun w' (hb : Below w0.heap.size w0 w') => great_any a0 cap l w' (hac.below hb) hcapl
  rw [hbig] at hgr
  have cs := small_from g true (hid ⟨fun _ => hsm, fun _ => rfl⟩) w0 w0 hb0
  have hrb := right_bounds hsm.1
  have cm := fun w1 hb => map_this g g.sectors.toNat (by omega) w0 w1 hb
  have cf : ∀ w', Below w0.heap.size w0 w' → Calls Try.prog 10 #[.int .i64 (g.sectors.toNat : Nat), .int .i64 g.sector] w' fun e w' => ∃ b, e = .returned (.tuple #[.pointer (some ⟨b, 0, none⟩), .int .i64 0]) ∧ Live w0 b (first g) w' := fun w' hb => by
    have := flash_own hsm.1 hb
    rwa [show g.sectors = ((g.sectors.toNat : Nat) : Int) by omega] at this
  have cd : ∀ b w', Live w0 b (first g) w' → Calls Try.prog 11 #[.pointer (some ⟨b, 0, none⟩), .agg #[.int .i64 g.sector, .int .i64 g.slot, .int .i64 g.data, .int .i64 g.quota, .int .i64 g.tries, .int .i64 g.life]] w' fun e w' => ∃ d, e = .returned (.tuple #[.pointer (some ⟨d, 0, none⟩), .int .i64 0]) ∧ Own w0 d b g (first g) w' := fun b w' h => new_own h (first_fit hsm.1)
  have HOK := hid (first_ok hsm.1)
  have HFT := hid (first_fit hsm.1)
  have HAC := hid ac
  have HFP := hid fp
  have HL2 := hid hl2
  have HL1 := hid hl1
  have HR := hid hr
  have HW := hid hW
  have HSEP := hid hsep
  have HLC := hid hlc
  have HCAP := hid hcap
  have HSM := hid hsm
  have hlen : len ≤ 200 := by omega
  clear hac ac fp hsm hbig hrb hl2 hr hW hsep hlc hcap hcapl
  generalize hM : g.sectors.toNat = M at *
  clear hM
  go_enter Try.func4, Try.ntmps4
  go_wp2_with fail
  rw [hw0.out]
  obtain ⟨hk0, hx0, _⟩ := HS.out w0 hb0
  go_wp2_with (first
    | (go_at_call 6; (with_reducible refine cs.mono ?_); rintro o w1 ⟨rfl, hb1⟩; obtain ⟨hk1, hx1, _⟩ := HS.out w1 hb1)
    | (go_at_call 7; (with_reducible refine (hgr _ hb1).mono ?_); rintro o w2 ⟨rfl, m, rfl⟩; have hb2 := below_drewN hb1 m; obtain ⟨hk2, hx2, _⟩ := HS.out _ hb2))
  obtain ⟨w2, hw2⟩ : ∃ z, Hid (w1.drewN m = z) := ⟨_, rfl⟩
  rw [hw2.out] at hb2 ⊢
  have hB0 : Below w0.heap.size w0 w2.drew := below_drewN hb2 1
  obtain ⟨hk3, _⟩ := HS.out w2.drew hB0
  clear hk0 hk1 hk2 hx0 hx1 hx2 hb1 cs hgr
  go_region_held3 (fun w' => (w'.cell? ⟨w.heap.size, 0, none⟩ = some (.int .i64 g.sector) ∧ w'.cell? ⟨w.heap.size, 1, none⟩ = some (.int .i64 g.slot) ∧ w'.cell? ⟨w.heap.size, 2, none⟩ = some (.int .i64 g.data) ∧ w'.cell? ⟨w.heap.size, 3, none⟩ = some (.int .i64 g.quota) ∧ w'.cell? ⟨w.heap.size, 4, none⟩ = some (.int .i64 g.tries) ∧ w'.cell? ⟨w.heap.size, 5, none⟩ = some (.int .i64 g.life))) (first | assumption | go_keep) (first
    | (go_at_call 9; (with_reducible refine (cm _ hB0).mono ?_); rintro o w3 ⟨ma, mc, rfl, hb3⟩; obtain ⟨hk4, _⟩ := HS.out w3 hb3)
    | (go_at_call 10; (with_reducible refine (cf _ hb3).mono ?_); rintro o w4 ⟨b, rfl, h4⟩; obtain ⟨hk5, _⟩ := HS.out w4 h4.below))
  go_wp2_with (first
    | (go_at_call 11; (with_reducible refine (cd _ _ h4).mono ?_); clear h4; rintro o w5 ⟨d, rfl, h5⟩))
  obtain ⟨_, _, hB5, hC5, hbl5⟩ := HS.out w5 h5.below
  obtain ⟨_, _, hB6, hC6, hbl6⟩ := HS.out w0 hb0
  have HKR : Hid (KR w d b g (first g) w.heap.size (w.heap.size + 1) [.int .i64 k, .int .i64 s, .int .i64 a, .int .i64 n, .slice pw len pcap] [] w5) := hid (kr_start h5 hB5 hC5 hB6.lt hC6.lt (by omega) (by omega) hbl6)
  clear h5 hB5 hC5 hbl5 hB6 hC6 hbl6 cm cf cd hb0 hb2 hB0 hb3 hk3 hk4 hk5 hw0 hw2 HS
  go_loopw [11] (fun i wr => ∃ j : Nat, j ≤ l.length ∧ i = .int .i64 (j : Int) ∧ ∃ F, Hid (KR w d b g F w.heap.size (w.heap.size + 1) [.int .i64 k, .int .i64 s, .int .i64 a, .int .i64 n, .slice pw len pcap] [] wr) ∧ Hid F.Ok ∧ Hid (Fit F g) ∧ Hid (F.count ≤ j * 201)) (fun i _ => l.length - (intOf i).toNat)
  case atStart => exact ⟨0, Nat.zero_le _, rfl, first g, HKR, HOK, HFT, hid (Nat.le_refl _)⟩
  case round =>
    obtain ⟨j, hj, rfl, F, hP, ok, ft, hc⟩ := hrel
    clear HKR
    by_cases hlt : j < l.length
    · obtain ⟨b2, off, q, rfl, hb2, hq2, c0, c1, c2, c3, c4⟩ := (HAC.out.below hP.out.below).at hlt
      have hqg := HFP.out q (List.mem_of_getElem? hq2)
      have hqlen : q.wLen ≤ 200 := HL2.out q (List.mem_of_getElem? hq2)
      have hcF : F.count < 1152921504606846976 := by have := hc.out; have := HL1.out; omega
      have hst := step_step ok.out g (k := q.k) (s := q.s) (a := q.a) (n := q.n) (W := q.wW) hqg.bn.2 (by have := hqg.rw.1; omega) hqg.mw
      have hdo := kr_do hP.out ok.out ft.out hcF q.k q.s q.a q.n q.w q.wLen q.wCap q.wW hqg.ba.2 hqg.bn.2 hqg.rw hqg.mw hqg.cw hqg.dw (by omega) hqg.sepw
      obtain ⟨H, hH⟩ : ∃ H, H = (drive.step F g q.k q.s q.a q.n q.wW).2 := ⟨_, rfl⟩
      rw [← hH] at hst hdo
      have HN : Hid (H.Ok ∧ Fit H g ∧ H.count ≤ (j + 1) * 201) := hid ⟨hst.ok, ft.out.like hst.like, by have h1 := hst.c2; have h2 := hc.out; have h3 := hqg.rw.1; omega⟩
      have i1 : (j : Int) < l.length := by omega
      generalize (drive.step F g q.k q.s q.a q.n q.wW).1.2.2 = z at *
      clear hqg hq2 hst hH ok ft hc hP hcF
      go_wp2_with (first
        | (go_at_call 13; (with_reducible refine hdo.mono ?_); clear hdo; rintro o w7 ⟨x7, m7, c7, v7, rfl, h7⟩))
      exact ⟨⟨j + 1, by omega, by go_num, H, hid h7, hid HN.out.1, hid HN.out.2.1, hid HN.out.2.2⟩, by simp [intOf]; omega⟩
    · obtain rfl : j = l.length := by omega
      have hpw := kr_power hP.out
      obtain ⟨P, hPd⟩ : ∃ P, P = F.power := ⟨_, rfl⟩
      have hpow : Pow P := by rw [hPd]; exact power_pow F
      have okP : P.Ok := by rw [hPd]; exact ok.out.power
      have ftP : Fit P g := by rw [hPd]; exact ft.out.like ⟨rfl, rfl⟩
      have hpc : P.count ≤ 12060 := by have h1 := hc.out; have h2 := HL1.out; rw [hPd]; show F.count ≤ _; omega
      rw [← hPd] at hpw
      have hwl := HR.out.1
      have hstep : drive.step P g 5 s 0 n W = (([], false, (fresh P g s W).1), (fresh P g s W).2) := by
        rw [drive.step, if_neg (by decide), if_neg (by decide), if_neg (by decide), if_neg (by decide), if_pos rfl]
      have hst : Step P (fresh P g s W).2 (W.length + 1) := fresh_step okP g s HW.out
      have hD : ∀ rows w', KR w d b g P w.heap.size (w.heap.size + 1) [.int .i64 5, .int .i64 s, .int .i64 0, .int .i64 n, .slice pw len pcap] rows w' → Calls Try.prog 13 #[.pointer (some ⟨b, 0, none⟩), .pointer (some ⟨d, 0, none⟩), .agg #[.int .i64 5, .int .i64 s, .int .i64 0, .int .i64 n, .slice pw len pcap]] w' fun o w2 => ∃ x m c v, o = .returned (.tuple #[.slice x m c, .bool v, .int .i64 (fresh P g s W).1]) ∧ KR w d b g (fresh P g s W).2 w.heap.size (w.heap.size + 1) [.int .i64 5, .int .i64 s, .int .i64 0, .int .i64 n, .slice pw len pcap] rows w2 := fun rows w' h => by
        have := kr_do h okP ftP (by omega) 5 s 0 n pw len pcap W (by decide) hn HR.out HW.out HLC.out HCAP.out (by omega) HSEP.out
        rwa [hstep] at this
      obtain ⟨N, hN⟩ : ∃ N, Hid (P.ws.length = N) := ⟨_, rfl⟩
      have hNle : N ≤ 524288 := by rw [← hN.out]; exact okP.ws_le
      obtain ⟨pc, hpcd⟩ : ∃ pc, Hid (P.count = pc) := ⟨_, rfl⟩
      rw [hpcd.out] at hpc
      have hW1 : ∀ rows w', KR w d b g P w.heap.size (w.heap.size + 1) [.int .i64 5, .int .i64 s, .int .i64 0, .int .i64 n, .slice pw len pcap] rows w' → Calls Try.prog 17 #[.pointer (some ⟨b, 0, none⟩)] w' fun o w2 => ∃ q c, o = .returned (.slice (some ⟨q, 0, none⟩) N c) ∧ KR w d b g P w.heap.size (w.heap.size + 1) [.int .i64 5, .int .i64 s, .int .i64 0, .int .i64 n, .slice pw len pcap] ((q, P.ws) :: rows) w2 := fun rows w' h => by
        have := kr_words h okP
        rwa [hN.out] at this
      have hN1 : ∀ rows w', KR w d b g P w.heap.size (w.heap.size + 1) [.int .i64 5, .int .i64 s, .int .i64 0, .int .i64 n, .slice pw len pcap] rows w' → Calls Try.prog 16 #[.pointer (some ⟨b, 0, none⟩)] w' fun o w2 => o = .returned (.int .i64 (pc : Int)) ∧ KR w d b g P w.heap.size (w.heap.size + 1) [.int .i64 5, .int .i64 s, .int .i64 0, .int .i64 n, .slice pw len pcap] rows w2 := fun rows w' h => by
        have := kr_writes h
        rwa [hpcd.out] at this
      have hqN : ((N : Int) != (N : Int)) = false := by simp
      have ca := fun w' hb => awake_at w w' hb
      rcases fresh_stands okP ftP hpow s W with ⟨hz, hG⟩ | ⟨hz, hbad, hget⟩
      · have hS : ∀ q1 q2 c1 c2 w', KR w d b g P w.heap.size (w.heap.size + 1) [.int .i64 5, .int .i64 s, .int .i64 0, .int .i64 n, .slice pw len pcap] [(q2, P.ws), (q1, P.ws)] w' → Calls Try.prog 15 #[.slice (some ⟨q1, 0, none⟩) N c1, .slice (some ⟨q2, 0, none⟩) N c2] w' fun o w2 => o = .returned (.bool true) ∧ KR w d b g P w.heap.size (w.heap.size + 1) [.int .i64 5, .int .i64 s, .int .i64 0, .int .i64 n, .slice pw len pcap] [(q2, P.ws), (q1, P.ws)] w2 := fun q1 q2 c1 c2 w' h => by
          have := kr_same h (q1 := q1) (q2 := q2) (xs := P.ws) (by simp) (by simp) (by rw [hN.out]; omega) c1 c2
          rwa [hN.out] at this
        rw [hz, hG] at hD
        clear hst hstep hz hG hpow okP ftP hPd hP ok ft hc
        go_wp2_with (first
                | (go_at_call 18; (with_reducible refine hpw.mono ?_); clear hpw; rintro o w8 ⟨rfl, h8⟩; obtain ⟨e0, e1, e2, e3, e4⟩ := h8.act; have f0 := h8.frozen 0; have f2 := h8.frozen 2; have h9 : KR w d b g P w.heap.size (w.heap.size + 1) [.int .i64 5, .int .i64 s, .int .i64 0, .int .i64 n, .slice pw len pcap] [] ((w8.setCell ⟨w.heap.size + 1, 0, none⟩ (.int .i64 5)).setCell ⟨w.heap.size + 1, 2, none⟩ (.int .i64 0)) := (h8.store 0 (.int .i64 5)).store 2 (.int .i64 0))
                | (go_at_call 17; (with_reducible refine (hW1 _ _ h9).mono ?_); clear h9; rintro o w10 ⟨q1, c1, rfl, h10⟩)
                | (go_at_call 16; (with_reducible refine (hN1 _ _ h10).mono ?_); clear h10; rintro o w11 ⟨rfl, h11⟩; clear e0 e1 e2 e3 e4 f0 f2 h8; obtain ⟨e0, e1, e2, e3, e4⟩ := h11.act)
                | (go_at_call 13; (with_reducible refine (hD _ _ h11).mono ?_); clear h11; rintro o w12 ⟨x12, m12, c12, v12, rfl, h12⟩)
                | (go_at_call 17; (with_reducible refine (hW1 _ _ h12).mono ?_); clear h12; rintro o w13 ⟨q2, c2, rfl, h13⟩)
                | (go_at_call 16; (with_reducible refine (hN1 _ _ h13).mono ?_); clear h13; rintro o w14 ⟨rfl, h14⟩; clear e0 e1 e2 e3 e4; obtain ⟨e0, e1, e2, e3, e4⟩ := h14.act; have hgeo := h14.geo)
                | (go_at_call 15; (with_reducible refine (hS _ _ _ _ _ h14).mono ?_); clear h14; rintro o w15 ⟨rfl, h15⟩; clear e0 e1 e2 e3 e4 hgeo; obtain ⟨e0, e1, e2, e3, e4⟩ := h15.act)
                | (go_at_call 8; (with_reducible refine (ca _ h15.below).mono ?_); rintro o w16 ⟨rfl, hb16⟩))
        go_ret
        exact ⟨rfl, hb16⟩
      · obtain ⟨hin, hd⟩ := bad_zero hbad
        obtain ⟨hA, hlenW, p0, p1, n1, a1⟩ := addr_in okP ftP hin
        rw [Int.toNat_natCast] at hlenW
        obtain ⟨i1, i2, i3, i4, i5⟩ := hin
        obtain ⟨A0, hA0⟩ := Int.eq_ofNat_of_zero_le p0
        have hadd : addr g s 0 = A0 := by omega
        rw [hadd] at hget hlenW
        rw [hwl] at hget hlenW n1 i4 i5
        rw [hz] at hD
        obtain ⟨Gf, hGd⟩ : ∃ Gf, Gf = (fresh P g s W).2 := ⟨_, rfl⟩
        rw [← hGd] at hD hst hget
        have okG := hst.ok
        have ftG := ftP.like hst.like
        have hGl : Gf.ws.length = N := by rw [← hN.out]; exact hst.like.ws okP okG
        obtain ⟨gc, hgcd⟩ : ∃ gc, Hid (Gf.count = gc) := ⟨_, rfl⟩
        have hgc1 : pc ≤ gc := by have := hst.c1; rw [hpcd.out, hgcd.out] at this; exact this
        have hgc2 : gc ≤ pc + (len + 1) := by have := hst.c2; rw [hpcd.out, hgcd.out, hwl] at this; exact this
        have hW2 : ∀ rows w', KR w d b g Gf w.heap.size (w.heap.size + 1) [.int .i64 5, .int .i64 s, .int .i64 0, .int .i64 n, .slice pw len pcap] rows w' → Calls Try.prog 17 #[.pointer (some ⟨b, 0, none⟩)] w' fun o w2 => ∃ q c, o = .returned (.slice (some ⟨q, 0, none⟩) N c) ∧ KR w d b g Gf w.heap.size (w.heap.size + 1) [.int .i64 5, .int .i64 s, .int .i64 0, .int .i64 n, .slice pw len pcap] ((q, Gf.ws) :: rows) w2 := fun rows w' h => by
          have := kr_words h okG
          rwa [hGl] at this
        have hN2 : ∀ rows w', KR w d b g Gf w.heap.size (w.heap.size + 1) [.int .i64 5, .int .i64 s, .int .i64 0, .int .i64 n, .slice pw len pcap] rows w' → Calls Try.prog 16 #[.pointer (some ⟨b, 0, none⟩)] w' fun o w2 => o = .returned (.int .i64 (gc : Int)) ∧ KR w d b g Gf w.heap.size (w.heap.size + 1) [.int .i64 5, .int .i64 s, .int .i64 0, .int .i64 n, .slice pw len pcap] rows w2 := fun rows w' h => by
          have := kr_writes h
          rwa [hgcd.out] at this
        have HG := hid hget
        have HGL := hid hGl
        have hsec : g.sector ≤ 1024 := HSM.out.1.1.2
        have hsec2 : 64 ≤ g.sector := HSM.out.1.1.1
        clear hst hstep hz hGd hpow okP ftP hPd hP ok ft hc hget okG ftG hGl hA hd hbad hadd
        go_wp2_with (first
        | (go_at_call 18; (with_reducible refine hpw.mono ?_); clear hpw; rintro o w8 ⟨rfl, h8⟩; obtain ⟨e0, e1, e2, e3, e4⟩ := h8.act; have f0 := h8.frozen 0; have f2 := h8.frozen 2; have h9 : KR w d b g P w.heap.size (w.heap.size + 1) [.int .i64 5, .int .i64 s, .int .i64 0, .int .i64 n, .slice pw len pcap] [] ((w8.setCell ⟨w.heap.size + 1, 0, none⟩ (.int .i64 5)).setCell ⟨w.heap.size + 1, 2, none⟩ (.int .i64 0)) := (h8.store 0 (.int .i64 5)).store 2 (.int .i64 0))
        | (go_at_call 17; (with_reducible refine (hW1 _ _ h9).mono ?_); clear h9; rintro o w10 ⟨q1, c1, rfl, h10⟩)
        | (go_at_call 16; (with_reducible refine (hN1 _ _ h10).mono ?_); clear h10; rintro o w11 ⟨rfl, h11⟩; clear e0 e1 e2 e3 e4 f0 f2 h8; obtain ⟨e0, e1, e2, e3, e4⟩ := h11.act)
        | (go_at_call 13; (with_reducible refine (hD _ _ h11).mono ?_); clear h11; rintro o w12 ⟨x12, m12, c12, v12, rfl, h12⟩)
        | (go_at_call 17; (with_reducible refine (hW2 _ _ h12).mono ?_); clear h12; rintro o w13 ⟨q2, c2, rfl, h13⟩)
        | (go_at_call 16; (with_reducible refine (hN2 _ _ h13).mono ?_); clear h13; rintro o w14 ⟨rfl, h14⟩; clear e0 e1 e2 e3 e4; obtain ⟨e0, e1, e2, e3, e4⟩ := h14.act; have hgeo := h14.geo))
        have H14 := hid h14
        clear h14 hD hW1 hW2 hN1
        go_loopw [20] (fun i wr => ∃ j : Nat, j ≤ N ∧ i = .int .i64 (j : Int) ∧ w14 = wr) (fun i _ => N - (intOf i).toNat)
        case atStart => exact ⟨0, Nat.zero_le _, rfl, rfl⟩
        case round =>
          obtain ⟨j, hjN, rfl, rfl⟩ := hrel
          by_cases hlt2 : j < N
          · have cq1 := kr_cell H14.out (q := q1) (xs := P.ws) (by simp) (j := j) (by rw [hN.out]; exact hlt2)
            have cq2 := kr_cell H14.out (q := q2) (xs := Gf.ws) (by simp) (j := j) (by rw [HGL.out]; exact hlt2)
            have hg := HG.out j
            have i0 : (j : Int) < N := by omega
            have hsn : ((g.sector.toNat : Nat) : Int) = g.sector := by omega
            by_cases b1 : j < A0
            · rw [if_neg (by omega), if_neg (by omega)] at hg
              clear hsn
              rw [hg] at cq2
              generalize P.ws.getD j 0 = x1 at *
              have hxx : ((x1 : Int) != (x1 : Int)) = false := by simp
              clear hg HG
              go_wp2
              exact ⟨⟨j + 1, by omega, by go_num, trivial⟩, by simp [intOf]; omega⟩
            · obtain ⟨u, hu⟩ : ∃ u, j = A0 + u := ⟨j - A0, by omega⟩
              have e5 : (j : Int) - (A0 : Int) = (u : Int) := by omega
              have k1 : (A0 : Int) ≤ j := by omega
              by_cases b2 : (u : Int) < g.sector
              · by_cases b3 : u < len
                · rw [if_pos (by omega), show j - A0 = u by omega] at hg
                  clear hu hsn
                  obtain ⟨wb, wo, rfl, _, cW⟩ := (HR.out.below H14.out.below).at b3
                  have cw := cW u b3
                  rw [hg] at cq2
                  clear cW
                  generalize P.ws.getD j 0 = y1 at *
                  generalize W.getD u 0 = x1 at *
                  have hxx : ((x1 : Int) != (x1 : Int)) = false := by simp
                  clear hg HG
                  go_wp2
                  exact ⟨⟨j + 1, by omega, by go_num, trivial⟩, by simp [intOf]; omega⟩
                · rw [if_neg (by omega), if_pos (by omega)] at hg
                  have k3 : ¬ (u : Int) < len := by omega
                  rw [hg] at cq2
                  generalize P.ws.getD j 0 = y1 at *
                  clear hg HG hu hsn
                  go_wp2
                  exact ⟨⟨j + 1, by omega, by go_num, trivial⟩, by simp [intOf]; omega⟩
              · rw [if_neg (by omega), if_neg (by omega)] at hg
                have k3 : ¬ (u : Int) < len := by omega
                clear hu hsn
                rw [hg] at cq2
                generalize P.ws.getD j 0 = x1 at *
                have hxx : ((x1 : Int) != (x1 : Int)) = false := by simp
                clear hg HG
                go_wp2
                exact ⟨⟨j + 1, by omega, by go_num, trivial⟩, by simp [intOf]; omega⟩
          · obtain rfl : N = j := by omega
            clear HG
            go_wp2_with (first
              | (go_at_call 8; (with_reducible refine (ca _ H14.out.below).mono ?_); rintro o w17 ⟨rfl, hb17⟩))
            go_ret
            exact ⟨rfl, hb17⟩
end Go.Proofs.Ytcigijhoeghnnaa.driveStands
/- DriveStands: behind a Write that is OK the run is what was written, and all else is as it was; behind Fresh all behind it is ones; what is refused writes nothing, and what was written is not written again. No condition. -/
namespace Go.Proofs.Ytcigijhoeghnnaa.driveStands
open Go.RowKit Go.Proofs.Ytcigijhoeghnnaa.drive Go.Proofs.Ytcigijhoeghnnaa.geom Go.Proofs.Ytcigijhoeghnnaa.flash
set_option linter.unusedVariables false

theorem walk (g : Geo) (a0 : Option Addr) (cap : Nat) (l : List DAct) (p : DAct) (w : World) (hg : g.Fits) (ac : DActs w a0 l) (fp : ∀ p ∈ l, p.Good w) (lc : l.length ≤ cap) (cm : cap ≤ maxLen) (hp : p.Good w) :
    Calls Try.prog 4 #[.agg #[.int .i64 g.sector, .int .i64 g.slot, .int .i64 g.data, .int .i64 g.quota, .int .i64 g.tries, .int .i64 g.life], .slice a0 l.length cap, p.val] w (Yes w) := by
  have hd : Small g ∨ ¬ Small g := Classical.em _
  rcases hd with hs | hs
  · cases hb : bigL l with
    | true => exact awake1 g a0 cap l p.k p.s p.a p.n p.w p.wLen p.wCap w ac (by omega) hs hb
    | false =>
      by_cases h2 : 200 < p.wLen
      · exact awake2 g a0 cap l p.k p.s p.a p.n p.w p.wLen p.wCap w ac (by omega) hs hb h2
      · rcases and_one p.k with h | h
        · exact walk1 g a0 cap l p.k p.s p.a p.n p.w p.wLen p.wCap w ac fp hs hb h2 p.wW hp.rw hp.mw hp.cw hp.dw hp.sepw hp.ba.2 hp.bn.2 h
        · exact walk5 g a0 cap l p.k p.s p.a p.n p.w p.wLen p.wCap w ac fp hs hb h2 p.wW hp.rw hp.mw hp.cw hp.dw hp.sepw hp.ba.2 hp.bn.2 h
  · exact awake0 g a0 cap l p.k p.s p.a p.n p.w p.wLen p.wCap w ac (by omega) hs
end Go.Proofs.Ytcigijhoeghnnaa.driveStands
/- DriveStands: behind a Write that is OK the run is what was written, and all else is as it was; behind Fresh all behind it is ones; what is refused writes nothing, and what was written is not written again. No condition. -/
namespace Go.Proofs.Ytcigijhoeghnnaa.driveStands
open Go.ChangeShapes Go.WideShapes Go.ChangeAt Go.RowKit Go.Proofs.Ytcigijhoeghnnaa.geom Go.Proofs.Ytcigijhoeghnnaa.drive
open Go.ChangeMaps (open_string shut_string)
set_option linter.unusedVariables false
set_option maxRecDepth 100000 in
theorem lifted (os : Os) (started : os.Started) (H : Type) (enc : TypeId × Value → H) :
    ReturnsInHanded {} Try.checked os 4 .any (Rows.driveStandsSpec.pre6 enc Try.prog Try.f4 Rows.driveStandsRow.domain false) (Rows.driveStandsSpec.post enc Try.prog Try.f4 false true false false) := by
  refine returnsInHanded_of_change_sized (C := Try.checked) own started (by kernel_rfl) Try.func4
    (ChangeSpec.witness6 (enc := enc) (C := Try.checked) false ⟨#[], #[.agg #[.int .i64 0, .int .i64 0, .int .i64 0, .int .i64 0, .int .i64 0, .int .i64 0], .slice none 0 0, .agg #[.int .i64 0, .int .i64 0, .int .i64 0, .int .i64 0, .slice none 0 0]], []⟩ 8 (by kernel_rfl) (by kernel_rfl) (by kernel_rfl) (by kernel_rfl)) ?_
  intro W base args ds gs before hval0 hW hcnd hsz0 _
  have hsz : (DataW.weightsEach Try.prog (Try.f4.params.toList ++ Rows.driveStandsSpec.plain.varTypes Try.prog) (ds ++ gs)).all (· ≤ reachBytes) = true := hsz0
  clear hsz0
  have hval : ∀ (j : Nat) t v, Try.f4.params[j]? = some t → args[j]? = some v → Value.okWide Try.prog W .any base t v := hval0
  have hW' := hW
  obtain ⟨p, q, hA0, hV, rfl, hfz, hnd⟩ := hW
  have hA : DataW.TrodAll enc Try.prog W 0 (fun _ => true) true Try.f4.params.toList args.toList ds p := hA0
  rw [Try.params4] at hA hval hsz
  obtain ⟨v0, vs0, d0, ds0, p0, q0, hargs, rfl, rfl, h0, r0⟩ := trodAll_cons hA
  obtain ⟨v1, vs1, d1, ds1, p1, q1, rfl, rfl, rfl, h1, r1⟩ := trodAll_cons r0
  obtain ⟨v2, vs2, d2, ds2, p2, q2, rfl, rfl, rfl, h2, r2⟩ := trodAll_cons r1
  obtain ⟨rfl, rfl, rfl⟩ := trodAll_nil r2
  obtain rfl : args = #[v0, v1, v2] := by cases args; simp_all
  obtain ⟨rfl, rfl⟩ := trodVars_none hV
  have k0 := h0
  have lt0 : ∀ x ∈ p0, x.block < W.heap.size := by obtain ⟨m, hm⟩ := k0; exact DataW.trod_lt m _ _ _ hm
  obtain ⟨pc0, fp0, rfl⟩ := open_geo_arg Try.underlying23 (by kernel_rfl) (by kernel_rfl) (fun f hf => by simp only [List.mem_cons, List.not_mem_nil, or_false] at hf; rcases hf with rfl | rfl | rfl | rfl | rfl | rfl <;> exact Try.underlying3) (hval 0 23 v0 rfl rfl) h0
  obtain ⟨a1, len1, cap1, rfl⟩ := okWide_slice Try.underlying24 (hval 1 24 v1 rfl rfl)
  have k1 := h1
  have lt1 : ∀ x ∈ p1, x.block < W.heap.size := by obtain ⟨m, hm⟩ := k1; exact DataW.trod_lt m _ _ _ hm
  obtain ⟨l1, rfl, ac1, fp1, lc1, cm1⟩ := open_DActs Try.underlying24 Try.underlying43 (by kernel_rfl) (by kernel_rfl) (by kernel_rfl) (by kernel_rfl) (by kernel_rfl) (by kernel_rfl) Try.underlying39 Try.underlying55 (by kernel_rfl) h1
  have k2 := h2
  have lt2 : ∀ x ∈ p2, x.block < W.heap.size := by obtain ⟨m, hm⟩ := k2; exact DataW.trod_lt m _ _ _ hm
  obtain ⟨pc2, fp2, rfl⟩ := open_DAct_arg Try.underlying43 (by kernel_rfl) (by kernel_rfl) (by kernel_rfl) (by kernel_rfl) (by kernel_rfl) (by kernel_rfl) Try.underlying39 Try.underlying55 (by kernel_rfl) (hval 2 43 v2 rfl rfl) h2
  clear hA0 hval0
  refine (walk pc0 a1 cap1 l1 pc2 W fp0 ac1 fp1 lc1 cm1 fp2).mono fun e W' ⟨he, bel⟩ => ?_
  subst he
  exact ⟨_, rfl, _, _, _, [], _, [], hW', trodAll_mk1 (shut_bool Try.underlying4 _), (trodAll_cons_mk (Below.trod laidOut (by kernel_rfl) (of_decide_eq_true (by kernel_rfl)) k0 bel lt0) (trodAll_cons_mk (Below.trod laidOut (by kernel_rfl) (of_decide_eq_true (by kernel_rfl)) k1 bel lt1) (trodAll_cons_mk (Below.trod laidOut (by kernel_rfl) (of_decide_eq_true (by kernel_rfl)) k2 bel lt2) trodAll_mk0))), rfl, bel.frame _, fun h => by cases h⟩

theorem holds : Rows.DriveStandsSaid :=
  OpenClaim.holds_of_wide 4 Try.f4 rfl rfl rfl rfl rfl rfl rfl ⟨rfl, rfl, rfl, rfl, rfl⟩ rfl rfl rfl rfl rfl (by kernel_rfl) Try.func4 (by kernel_rfl)
    (of_decide_eq_true (by kernel_rfl)) (by unfold Func.isWrapper; first | (rw [if_pos (by decide +kernel)]; kernel_rfl) | (rw [if_neg (by decide +kernel)]; exact ⟨rfl, rfl⟩))
    (fun os started H enc _ => lifted os started H enc)
#print axioms holds
end Go.Proofs.Ytcigijhoeghnnaa.driveStands
