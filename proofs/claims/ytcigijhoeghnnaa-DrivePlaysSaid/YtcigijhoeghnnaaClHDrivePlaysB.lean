/- DrivePlays: whatever is done with a drive, each answer, and all words, are as the reference says. No condition. -/
import Derived.Test.YtcigijhoeghnnaaClHDrivePlaysA
import Derived.Test.YtcigijhoeghnnaaCmG
import Derived.Test.YtcigijhoeghnnaaCmA
import Derived.Test.YtcigijhoeghnnaaCmF
/- DrivePlays: whatever is done with a drive, each answer, and all words, are as the reference says. No condition. -/
namespace Go.Proofs.Ytcigijhoeghnnaa.drivePlays
open Go.RowKit Go.Proofs.Ytcigijhoeghnnaa.drive Go.Proofs.Ytcigijhoeghnnaa.geom Go.Proofs.Ytcigijhoeghnnaa.flash
set_option linter.unusedVariables false

theorem small_from (g : Geo) (v : Bool) (hv : Hid (v = true ↔ Small g)) (w0 w : World) (hb : Below w0.heap.size w0 w) : Calls Try.prog 6 #[.agg #[.int .i64 g.sector, .int .i64 g.slot, .int .i64 g.data, .int .i64 g.quota, .int .i64 g.tries, .int .i64 g.life]] w fun e w' => e = .returned (.bool v) ∧ Below w0.heap.size w0 w' :=
  (small_this g v hv w).mono fun _ _ ⟨he, hw⟩ => ⟨he, hb.trans (hw.mono hb.size)⟩
set_option maxHeartbeats 4000000 in
set_option maxRecDepth 20000 in
/-- where the awake function decides -/
theorem walk_awake (g : Geo) (a0 : Option Addr) (cap : Nat) (l : List DAct) (w : World) (ac : DActs w a0 l) (hcap : l.length ≤ maxLen) (h : ¬ Small g ∨ (Small g ∧ bigL l = true)) :
    Calls Try.prog 3 #[.agg #[.int .i64 g.sector, .int .i64 g.slot, .int .i64 g.data, .int .i64 g.quota, .int .i64 g.tries, .int .i64 g.life], .slice a0 l.length cap] w (Yes w) := by
  have HS := hid (six g w)
  have HB := hid (belowNew g w)
  have hal : Below w.heap.size w (w.alloc (.cells #[.int .i64 g.sector, .int .i64 g.slot, .int .i64 g.data, .int .i64 g.quota, .int .i64 g.tries, .int .i64 g.life] 23)) := (Below.refl _ _).alloc (Nat.le_refl _) _
  have hac := ac.below hal
  obtain ⟨w0, hw0⟩ : ∃ x, Hid ((w.alloc (.cells #[.int .i64 g.sector, .int .i64 g.slot, .int .i64 g.data, .int .i64 g.quota, .int .i64 g.tries, .int .i64 g.life] 23)) = x) := ⟨_, rfl⟩
  rw [hw0.out] at HS HB hac
  have hgr := fun w' (hb : Below w0.heap.size w0 w') => great_any a0 cap l w' (hac.below hb) hcap
  have hb0 : Below w0.heap.size w0 w0 := Below.refl _ _
  have ca := fun w' hb => awake_at w0 w' hb
  clear hal ac hac
  rcases h with h | ⟨h, h1⟩
  · have cs := small_from g false (hid ⟨fun k => (by cases k), fun k => absurd k h⟩) w0 w0 hb0
    clear h hgr
    have hk0 := HS.out w0 hb0
    go_enter Try.func3, Try.ntmps3
    go_wp2_with fail
    rw [hw0.out]
    go_wp2_with (first
      | (go_at_call 6; (with_reducible refine cs.mono ?_); rintro e w1 ⟨rfl, hb1⟩; have hk1 := HS.out w1 hb1)
      | (go_at_call 8; (with_reducible refine (ca _ hb1).mono ?_); rintro e w2 ⟨rfl, hb2⟩))
    go_ret
    exact ⟨rfl, HB.out _ hb2⟩
  · have cs := small_from g true (hid ⟨fun _ => h, fun _ => rfl⟩) w0 w0 hb0
    rw [h1] at hgr
    clear h h1
    have hk0 := HS.out w0 hb0
    go_enter Try.func3, Try.ntmps3
    go_wp2_with fail
    rw [hw0.out]
    go_wp2_with (first
      | (go_at_call 6; (with_reducible refine cs.mono ?_); rintro e w1 ⟨rfl, hb1⟩; have hk1 := HS.out w1 hb1)
      | (go_at_call 7; (with_reducible refine (hgr _ hb1).mono ?_); rintro e w2 ⟨rfl, m, rfl⟩)
      | (go_at_call 8; (with_reducible refine (ca _ (below_drewN hb1 m)).mono ?_); rintro e w3 ⟨rfl, hb3⟩))
    go_ret
    exact ⟨rfl, HB.out _ hb3⟩
theorem hq_bool (v : Bool) : (v != v) = false := by simp
set_option maxHeartbeats 16000000 in
set_option maxRecDepth 20000 in
theorem walk_main (g : Geo) (a0 : Option Addr) (cap : Nat) (l : List DAct) (w : World) (ac : DActs w a0 l) (fp : ∀ p ∈ l, p.Good w) (hsm : Small g) (hbig : bigL l = false) :
    Calls Try.prog 3 #[.agg #[.int .i64 g.sector, .int .i64 g.slot, .int .i64 g.data, .int .i64 g.quota, .int .i64 g.tries, .int .i64 g.life], .slice a0 l.length cap] w (Yes w) := by
  obtain ⟨hl1, hl2⟩ := not_big hbig
  have HS := hid (six g w)
  have HB := hid (belowNew g w)
  have hal : Below w.heap.size w (w.alloc (.cells #[.int .i64 g.sector, .int .i64 g.slot, .int .i64 g.data, .int .i64 g.quota, .int .i64 g.tries, .int .i64 g.life] 23)) := (Below.refl _ _).alloc (Nat.le_refl _) _
  have hac := ac.below hal
  have hfp : ∀ p ∈ l, p.Good (w.alloc (.cells #[.int .i64 g.sector, .int .i64 g.slot, .int .i64 g.data, .int .i64 g.quota, .int .i64 g.tries, .int .i64 g.life] 23)) := fun p hp => (fp p hp).below hal
  obtain ⟨w0, hw0⟩ : ∃ x, Hid ((w.alloc (.cells #[.int .i64 g.sector, .int .i64 g.slot, .int .i64 g.data, .int .i64 g.quota, .int .i64 g.tries, .int .i64 g.life] 23)) = x) := ⟨_, rfl⟩
  rw [hw0.out] at HS HB hac hfp
  have hgr := fun w' (hb : Below w0.heap.size w0 w') => great_any a0 cap l w' (hac.below hb) (by unfold maxLen; omega)
  rw [hbig] at hgr
  have hb0 : Below w0.heap.size w0 w0 := Below.refl _ _
  have ca := fun w' hb => awake_at w0 w' hb
  have cs := small_from g true (hid ⟨fun _ => hsm, fun _ => rfl⟩) w0 w0 hb0
  have hrb := right_bounds hsm.1
  have cm := fun w1 hb => map_this g g.sectors.toNat (by omega) w0 w1 hb
  have cf : ∀ w', Below w0.heap.size w0 w' → Calls Try.prog 10 #[.int .i64 (g.sectors.toNat : Nat), .int .i64 g.sector] w' fun e w' => ∃ b, e = .returned (.tuple #[.pointer (some ⟨b, 0, none⟩), .int .i64 0]) ∧ Live w0 b (first g) w' := fun w' hb => by
    have := flash_own hsm.1 hb
    rwa [show g.sectors = ((g.sectors.toNat : Nat) : Int) by omega] at this
  have cd : ∀ b w', Live w0 b (first g) w' → Calls Try.prog 11 #[.pointer (some ⟨b, 0, none⟩), .agg #[.int .i64 g.sector, .int .i64 g.slot, .int .i64 g.data, .int .i64 g.quota, .int .i64 g.tries, .int .i64 g.life]] w' fun e w' => ∃ d, e = .returned (.tuple #[.pointer (some ⟨d, 0, none⟩), .int .i64 0]) ∧ Own w0 d b g (first g) w' := fun b w' h => new_own h (first_fit hsm.1)
  have cr : ∀ d b w', Own w0 d b g (first g) w' → Calls Try.prog 12 #[.agg #[.int .i64 g.sector, .int .i64 g.slot, .int .i64 g.data, .int .i64 g.quota, .int .i64 g.tries, .int .i64 g.life]] w' fun o w' => ∃ e c, o = .returned (.pointer (some ⟨e, 0, none⟩)) ∧ Play w0 d b e c g (first g) (first g) w' := fun d b w' h => play_start h hsm.1
  have HOK := hid (first_ok hsm.1)
  have HFT := hid (first_fit hsm.1)
  have HAC := hid hac
  have HFP := hid hfp
  have HL2 := hid hl2
  have HL1 := hid hl1
  clear hal ac fp hac hfp hsm hbig hrb hl2
  have hk0 := HS.out w0 hb0
  generalize hM : g.sectors.toNat = M at *
  clear hM
  go_enter Try.func3, Try.ntmps3
  go_wp2_with fail
  rw [hw0.out]
  go_wp2_with (first
    | (go_at_call 6; (with_reducible refine cs.mono ?_); rintro o w1 ⟨rfl, hb1⟩; have hk1 := HS.out w1 hb1)
    | (go_at_call 7; (with_reducible refine (hgr _ hb1).mono ?_); rintro o w2 ⟨rfl, m, rfl⟩; have hb2 := below_drewN hb1 m; have hk2 := HS.out _ hb2)
    | (go_at_call 9; (with_reducible refine (cm _ hb2).mono ?_); rintro o w3 ⟨ma, mc, rfl, hb3⟩; have hk3 := HS.out _ hb3)
    | (go_at_call 10; (with_reducible refine (cf _ hb3).mono ?_); rintro o w4 ⟨b, rfl, h4⟩; have hk4 := HS.out _ h4.below)
    | (go_at_call 11; (with_reducible refine (cd _ _ h4).mono ?_); rintro o w5 ⟨d, rfl, h5⟩; have hk5 := HS.out _ h5.below)
    | (go_at_call 12; (with_reducible refine (cr _ _ _ h5).mono ?_); rintro o w6 ⟨e, c, rfl, h6⟩))
  have H6 := hid h6
  clear h4 h5 h6 cs cm cf cd cr hgr hk0 hk1 hk2 hk3 hk4 hk5 hb1 hb2 hb3 hb0
  go_loopw [11] (fun i wr => ∃ k : Nat, k ≤ l.length ∧ i = .int .i64 (k : Int) ∧ ∃ F, Hid (Play w0 d b e c g F F wr) ∧ Hid F.Ok ∧ Hid (Fit F g) ∧ Hid (F.count ≤ k * 201)) (fun i _ => l.length - (intOf i).toNat)
  case atStart => exact ⟨0, Nat.zero_le _, rfl, first g, H6, HOK, HFT, hid (Nat.le_refl _)⟩
  case round =>
    obtain ⟨k, hk, rfl, F, hP, ok, ft, hc⟩ := hrel
    clear H6
    by_cases hlt : k < l.length
    · obtain ⟨b2, off, q, rfl, hb2, hq2, c0, c1, c2, c3, c4⟩ := HAC.out.at hlt
      have hqg := HFP.out q (List.mem_of_getElem? hq2)
      have hqlen : q.wLen ≤ 200 := HL2.out q (List.mem_of_getElem? hq2)
      have HK : Hid (∀ w', Below w0.heap.size w0 w' → w'.cell? ⟨b2, off + k * 5, none⟩ = some (.int .i64 q.k) ∧ w'.cell? ⟨b2, off + k * 5 + 1, none⟩ = some (.int .i64 q.s) ∧ w'.cell? ⟨b2, off + k * 5 + 2, none⟩ = some (.int .i64 q.a) ∧ w'.cell? ⟨b2, off + k * 5 + 3, none⟩ = some (.int .i64 q.n) ∧ w'.cell? ⟨b2, off + k * 5 + 4, none⟩ = some (.slice q.w q.wLen q.wCap)) := hid (fun w' hb => by
        rw [hb.cell (p := ⟨b2, off + k * 5, none⟩) hb2, hb.cell (p := ⟨b2, off + k * 5 + 1, none⟩) hb2, hb.cell (p := ⟨b2, off + k * 5 + 2, none⟩) hb2, hb.cell (p := ⟨b2, off + k * 5 + 3, none⟩) hb2, hb.cell (p := ⟨b2, off + k * 5 + 4, none⟩) hb2]
        exact ⟨c0, c1, c2, c3, c4⟩)
      have hcF : F.count < 1152921504606846976 := by have := hc.out; have := HL1.out; omega
      obtain ⟨G, hG⟩ : ∃ G, Hid ((drive.step F g q.k q.s q.a q.n q.wW).2 = G) := ⟨_, rfl⟩
      obtain ⟨zs, hz1⟩ : ∃ z, Hid ((drive.step F g q.k q.s q.a q.n q.wW).1.1 = z) := ⟨_, rfl⟩
      obtain ⟨v, hz2⟩ : ∃ z, Hid ((drive.step F g q.k q.s q.a q.n q.wW).1.2.1 = z) := ⟨_, rfl⟩
      obtain ⟨z, hz3⟩ : ∃ z, Hid ((drive.step F g q.k q.s q.a q.n q.wW).1.2.2 = z) := ⟨_, rfl⟩
      have hdo : ∀ w', Play w0 d b e c g F F w' → Calls Try.prog 13 #[.pointer (some ⟨b, 0, none⟩), .pointer (some ⟨d, 0, none⟩), .agg #[.int .i64 q.k, .int .i64 q.s, .int .i64 q.a, .int .i64 q.n, .slice q.w q.wLen q.wCap]] w' fun o w2 => ∃ x cx, o = .returned (.tuple #[.slice x zs.length cx, .bool v, .int .i64 z]) ∧ Half1 w0 d b e c g G F x zs w2 := fun w' h => by
        have := h.do ok.out ft.out hcF q.k q.s q.a q.n q.w q.wLen q.wCap q.wW hqg.ba.2 hqg.bn.2 (hqg.rw.below h.below) hqg.mw hqg.cw hqg.dw (by omega) hqg.sepw
        rwa [hG.out, hz1.out, hz2.out, hz3.out] at this
      have htold : ∀ x w', Half1 w0 d b e c g G F x zs w' → Calls Try.prog 14 #[.pointer (some ⟨e, 0, none⟩), .agg #[.int .i64 q.k, .int .i64 q.s, .int .i64 q.a, .int .i64 q.n, .slice q.w q.wLen q.wCap]] w' fun o w2 => ∃ y cy, o = .returned (.tuple #[.slice y zs.length cy, .bool v, .int .i64 z]) ∧ Play w0 d b e c g G G w2 ∧ Reads .u32 w2 x zs.length zs ∧ Reads .u32 w2 y zs.length zs := fun x w' h => by
        have := h.told ok.out ft.out hcF q.k q.s q.a q.n q.w q.wLen q.wCap q.wW hqg.ba.2 hqg.bn.2 hqg.bn.1 (hqg.rw.below h.below) hqg.mw (by omega) hqg.sepw
        rwa [hG.out, hz1.out, hz2.out, hz3.out] at this
      have HN : Hid (G.Ok ∧ Fit G g ∧ G.count ≤ (k + 1) * 201 ∧ zs.length * 4 ≤ 140737488355328) := hid (by
        have hst := step_step ok.out g (k := q.k) (s := q.s) (a := q.a) (n := q.n) (W := q.wW) hqg.bn.2 (by have := hqg.rw.1; omega) hqg.mw
        rw [hG.out] at hst
        refine ⟨hst.ok, ft.out.like hst.like, ?_, ?_⟩
        · have h1 := hst.c2; have h2 := hc.out; have h3 := hqg.rw.1; omega
        · rw [← hz1.out]
          unfold drive.step
          split
          · unfold drive.read
            split
            · simp
            · rename_i hbz
              have hbz2 := (bad_zero (by simpa using hbz : bad F g q.s q.a q.n = 0)).1
              have := (addr_in ok.out ft.out hbz2).2.2.2.2.1
              simp only [span_length]; omega
          · split
            · simp
            · split
              · simp
              · split
                · simp
                · split
                  · simp
                  · split
                    · simp
                    · split <;> simp)
      have hP' := hP.out
      obtain ⟨c0', c1', c2', c3', c4'⟩ := HK.out wr hP'.below
      have i1 : (k : Int) < l.length := by omega
      clear hqg hq2 c0 c1 c2 c3 c4 hG hz1 hz2 hz3 ok ft hc hP hcF
      go_wp2_with (first
        | (go_at_call 13; (with_reducible refine (hdo _ hP').mono ?_); rintro o w7 ⟨x, cx, rfl, h7⟩; obtain ⟨d0, d1, d2, d3, d4⟩ := HK.out w7 h7.below)
        | (go_at_call 14; (with_reducible refine (htold _ _ h7).mono ?_); rintro o w8 ⟨y, cy, rfl, h8, hr1, hr2⟩))
      obtain ⟨gW, cW, hSe⟩ := h8.seen HN.out.1
      have hcs := fun m => Go.Proofs.Ytcigijhoeghnnaa.word.same_any x y zs.length cx cy zs (w8.drewN m) (hr1.drewN m) (hr2.drewN m) HN.out.2.2.2
      have hwr := fun m => hSe.writes (w8.drewN m) (below_drewN (Below.refl _ _) m)
      obtain ⟨f0, f1, f2⟩ := hSe.cells w8 (Below.refl _ _)
      have HP8 := hid h8
      have hqv := hq_bool v
      have hqz : (z != z) = false := by simp
      have hqc : (((G.count : Nat) : Int) != ((G.count : Nat) : Int)) = false := by simp
      clear hdo htold h7 h8 hP' hSe hr1 hr2 f1 c0' c1' c2' c3' c4' d0 d1 d2 d3 d4
      generalize (G.count : Int) = gc at *
      go_quiet (first
        | (go_at_call 15; (with_reducible exact quietAt (hcs _)))
        | (go_at_call 16; (with_reducible exact quietAt (hwr _))))
      go_wp2
      exact ⟨⟨k + 1, by omega, by go_num, G, hid (HP8.out.later (below_drewN (Below.refl _ _) nq)), hid HN.out.1, hid HN.out.2.1, hid HN.out.2.2.1⟩, by simp [intOf]; omega⟩
    · obtain rfl : k = l.length := by omega
      obtain ⟨gW, cW, hSe⟩ := hP.out.seen ok.out
      have cwo := hSe.words
      have csa := hSe.same
      have HC := hid hSe.cells
      have ca2 : ∀ w', Below wr.heap.size wr w' → Calls Try.prog 8 #[] w' fun e w2 => e = .returned (.bool true) ∧ Below wr.heap.size wr w2 := fun w' hb => awake_at wr w' hb
      have HBX : Hid (∀ w', Below wr.heap.size wr w' → Below w.heap.size w w') := hid (fun w' hb => HB.out w' (hP.out.below.trans (hb.mono hP.out.below.size)))
      have hB0 : Below wr.heap.size wr wr.drew := below_drewN (Below.refl _ _) 1
      have hk0 := HC.out wr.drew hB0
      clear hSe ok ft hc hP ca
      generalize F.ws.length = wl at *
      generalize (F.count : Int) = gc at *
      go_wp2
      go_region_held3 (fun w' => w'.cell? ⟨e, 0, none⟩ = some (.pointer (some ⟨c, 0, none⟩)) ∧ w'.cell? ⟨c, 0, none⟩ = some (.slice (some ⟨gW, 0, none⟩) wl cW) ∧ w'.cell? ⟨c, 3, none⟩ = some (.int .i64 gc)) (first | assumption | go_keep) (first
        | (go_at_call 17; (with_reducible refine (cwo _ hB0).mono ?_); rintro o w7 ⟨qq, cc, rfl, hqr, hB1⟩; have hk1 := HC.out w7 hB1)
        | (go_at_call 15; (with_reducible refine (csa _ _ _ hqr hB1).mono ?_); rintro o w8 ⟨rfl, hB2⟩; have hk2 := HC.out w8 hB2)
        | (go_at_call 8; (with_reducible refine (ca2 _ hB2).mono ?_); rintro o w9 ⟨rfl, hB3⟩; have hk3 := HC.out w9 hB3))
      go_wp2
      go_ret
      exact ⟨rfl, HBX.out _ hB3⟩
theorem walk (g : Geo) (a0 : Option Addr) (cap : Nat) (l : List DAct) (w : World) (hg : g.Fits) (ac : DActs w a0 l) (fp : ∀ p ∈ l, p.Good w) (lc : l.length ≤ cap) (cm : cap ≤ maxLen) :
    Calls Try.prog 3 #[.agg #[.int .i64 g.sector, .int .i64 g.slot, .int .i64 g.data, .int .i64 g.quota, .int .i64 g.tries, .int .i64 g.life], .slice a0 l.length cap] w (Yes w) := by
  have hd : Small g ∨ ¬ Small g := Classical.em _
  rcases hd with hs | hs
  · cases hb : bigL l with
    | true => exact walk_awake g a0 cap l w ac (by omega) (.inr ⟨hs, hb⟩)
    | false => exact walk_main g a0 cap l w ac fp hs hb
  · exact walk_awake g a0 cap l w ac (by omega) (.inl hs)
end Go.Proofs.Ytcigijhoeghnnaa.drivePlays
/- DrivePlays: whatever is done with a drive, each answer, and all words, are as the reference says. No condition. -/
namespace Go.Proofs.Ytcigijhoeghnnaa.drivePlays
open Go.ChangeShapes Go.WideShapes Go.ChangeAt Go.RowKit Go.Proofs.Ytcigijhoeghnnaa.geom Go.Proofs.Ytcigijhoeghnnaa.drive
open Go.ChangeMaps (open_string shut_string)
set_option linter.unusedVariables false
set_option maxRecDepth 100000 in
theorem lifted (os : Os) (started : os.Started) (H : Type) (enc : TypeId × Value → H) :
    ReturnsInHanded {} Try.checked os 3 .any (Rows.drivePlaysSpec.pre6 enc Try.prog Try.f3 Rows.drivePlaysRow.domain false) (Rows.drivePlaysSpec.post enc Try.prog Try.f3 false true false false) := by
  refine returnsInHanded_of_change_sized (C := Try.checked) own started (by kernel_rfl) Try.func3
    (ChangeSpec.witness6 (enc := enc) (C := Try.checked) false ⟨#[], #[.agg #[.int .i64 0, .int .i64 0, .int .i64 0, .int .i64 0, .int .i64 0, .int .i64 0], .slice none 0 0], []⟩ 8 (by kernel_rfl) (by kernel_rfl) (by kernel_rfl) (by kernel_rfl)) ?_
  intro W base args ds gs before hval0 hW hcnd hsz0 _
  have hsz : (DataW.weightsEach Try.prog (Try.f3.params.toList ++ Rows.drivePlaysSpec.plain.varTypes Try.prog) (ds ++ gs)).all (· ≤ reachBytes) = true := hsz0
  clear hsz0
  have hval : ∀ (j : Nat) t v, Try.f3.params[j]? = some t → args[j]? = some v → Value.okWide Try.prog W .any base t v := hval0
  have hW' := hW
  obtain ⟨p, q, hA0, hV, rfl, hfz, hnd⟩ := hW
  have hA : DataW.TrodAll enc Try.prog W 0 (fun _ => true) true Try.f3.params.toList args.toList ds p := hA0
  rw [Try.params3] at hA hval hsz
  obtain ⟨v0, vs0, d0, ds0, p0, q0, hargs, rfl, rfl, h0, r0⟩ := trodAll_cons hA
  obtain ⟨v1, vs1, d1, ds1, p1, q1, rfl, rfl, rfl, h1, r1⟩ := trodAll_cons r0
  obtain ⟨rfl, rfl, rfl⟩ := trodAll_nil r1
  obtain rfl : args = #[v0, v1] := by cases args; simp_all
  obtain ⟨rfl, rfl⟩ := trodVars_none hV
  have k0 := h0
  have lt0 : ∀ x ∈ p0, x.block < W.heap.size := by obtain ⟨m, hm⟩ := k0; exact DataW.trod_lt m _ _ _ hm
  obtain ⟨pc0, fp0, rfl⟩ := open_geo_arg Try.underlying23 (by kernel_rfl) (by kernel_rfl) (fun f hf => by simp only [List.mem_cons, List.not_mem_nil, or_false] at hf; rcases hf with rfl | rfl | rfl | rfl | rfl | rfl <;> exact Try.underlying3) (hval 0 23 v0 rfl rfl) h0
  obtain ⟨a1, len1, cap1, rfl⟩ := okWide_slice Try.underlying24 (hval 1 24 v1 rfl rfl)
  have k1 := h1
  have lt1 : ∀ x ∈ p1, x.block < W.heap.size := by obtain ⟨m, hm⟩ := k1; exact DataW.trod_lt m _ _ _ hm
  obtain ⟨l1, rfl, ac1, fp1, lc1, cm1⟩ := open_DActs Try.underlying24 Try.underlying43 (by kernel_rfl) (by kernel_rfl) (by kernel_rfl) (by kernel_rfl) (by kernel_rfl) (by kernel_rfl) Try.underlying39 Try.underlying55 (by kernel_rfl) h1
  clear hA0 hval0
  refine (walk pc0 a1 cap1 l1 W fp0 ac1 fp1 lc1 cm1).mono fun e W' ⟨he, bel⟩ => ?_
  subst he
  exact ⟨_, rfl, _, _, _, [], _, [], hW', trodAll_mk1 (shut_bool Try.underlying4 _), (trodAll_cons_mk (Below.trod laidOut (by kernel_rfl) (of_decide_eq_true (by kernel_rfl)) k0 bel lt0) (trodAll_cons_mk (Below.trod laidOut (by kernel_rfl) (of_decide_eq_true (by kernel_rfl)) k1 bel lt1) trodAll_mk0)), rfl, bel.frame _, fun h => by cases h⟩

theorem holds : Rows.DrivePlaysSaid :=
  OpenClaim.holds_of_wide 3 Try.f3 rfl rfl rfl rfl rfl rfl rfl ⟨rfl, rfl, rfl, rfl, rfl⟩ rfl rfl rfl rfl rfl (by kernel_rfl) Try.func3 (by kernel_rfl)
    (of_decide_eq_true (by kernel_rfl)) (by unfold Func.isWrapper; first | (rw [if_pos (by decide +kernel)]; kernel_rfl) | (rw [if_neg (by decide +kernel)]; exact ⟨rfl, rfl⟩))
    (fun os started H enc _ => lifted os started H enc)
#print axioms holds
end Go.Proofs.Ytcigijhoeghnnaa.drivePlays
