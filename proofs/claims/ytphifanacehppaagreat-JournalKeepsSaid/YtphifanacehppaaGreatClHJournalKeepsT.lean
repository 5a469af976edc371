/- Lemmas of the claim HJournalKeeps. Each says its own conditions. -/
import Derived.Test.YtphifanacehppaaGreatCmB
import Derived.Test.YtphifanacehppaaGreatCmA
import Derived.Deep.Slices
import Derived.Deep.Strs
import Derived.Lib.SmallJoins
import Derived.Test.YtphifanacehppaaGreatClHJournalKeepsR
import Derived.Test.YtphifanacehppaaGreatClHJournalKeepsS
import Derived.Test.YtphifanacehppaaGreatClHJournalKeepsQ
/- What a geometry that came in reads as. No condition. -/
namespace Go.Proofs.YtphifanacehppaaGreat.geom
open Go.ChangeShapes Go.WideShapes Go.ChangeAt Go.RowKit Go.Deep
set_option linter.unusedVariables false

section
variable {H : Type} {enc : TypeId × Value → H} {P : Program} {W : World}
/-- each field fits its kind -/
structure Geo.Fits (g : Geo) : Prop where
  sector : -9223372036854775808 ≤ g.sector ∧ g.sector ≤ 9223372036854775807
  slot : -9223372036854775808 ≤ g.slot ∧ g.slot ≤ 9223372036854775807
  data : -9223372036854775808 ≤ g.data ∧ g.data ≤ 9223372036854775807
  quota : -9223372036854775808 ≤ g.quota ∧ g.quota ≤ 9223372036854775807
  tries : -9223372036854775808 ≤ g.tries ∧ g.tries ≤ 9223372036854775807
  life : -9223372036854775808 ≤ g.life ∧ g.life ≤ 9223372036854775807
theorem open_geo_arg {r : Reach} {b0 : Nat} {t : TypeId} {f0 f1 f2 f3 f4 f5 : Field} {v : Value} {d : DataW H} {pl : List MemPlace} (hs : P.underlying t = some (.struct #[f0, f1, f2, f3, f4, f5])) (hone : oneCellFields P #[f0, f1, f2, f3, f4, f5] = true) (hC : P.cellsOf t = 6)
    (hu : ∀ f ∈ [f0, f1, f2, f3, f4, f5], P.underlying f.type = some (.int .i64)) (hv : Value.okWide P W r b0 t v) (h : DataW.Trod enc P W 0 (fun _ => true) true t v d pl) : ∃ g : Geo, g.Fits ∧ v = .agg #[.int .i64 g.sector, .int .i64 g.slot, .int .i64 g.data, .int .i64 g.quota, .int .i64 g.tries, .int .i64 g.life] := by
  obtain ⟨cs, rfl, hsz⟩ := okWide_struct hs hv
  obtain ⟨fuel, hf⟩ := h
  rw [hC] at hsz
  obtain ⟨l⟩ := cs
  match l, hsz with
  | [c0, c1, c2, c3, c4, c5], _ =>
    obtain ⟨ys, n, _, _, hl, hlen, hx⟩ := DataW.trod_struct hs hf
    have each : ∀ (i : Nat) (f : Field) (c : Value), #[f0, f1, f2, f3, f4, f5][i]? = some f → [c0, c1, c2, c3, c4, c5][i]? = some c → ∃ x : Int, c = .int .i64 x ∧ -9223372036854775808 ≤ x ∧ x ≤ 9223372036854775807 := by
      intro i f c hi hc
      obtain ⟨o, k⟩ := hone_of hone i f hi
      have hi6 : i < 6 := by have := (Array.getElem?_eq_some_iff.1 hi).1; simpa using this
      have h1 := hx i f hi
      rw [o, k] at h1
      have e : (((Value.agg ⟨[c0, c1, c2, c3, c4, c5]⟩).cells.toList.drop i).take 1) = [c] := by
        rw [List.take_one]
        have : ((Value.agg ⟨[c0, c1, c2, c3, c4, c5]⟩).cells.toList.drop i).head? = some c := by
          rw [List.head?_drop]; simpa [Value.cells] using hc
        rw [this]; rfl
      rw [e] at h1
      have hy : ys[i]? = some (ys[i]'(by rw [hlen]; exact hi6)) := List.getElem?_eq_getElem _
      rw [hy] at h1
      obtain ⟨x, hx1, _, hw⟩ := DataW.trod_int (hu f (by have := Array.mem_of_getElem? hi; simpa using this)) h1
      exact ⟨x, by simpa using hx1, wf_i64 _ hw⟩
    obtain ⟨x0, rfl, b0⟩ := each 0 f0 c0 rfl rfl
    obtain ⟨x1, rfl, b1⟩ := each 1 f1 c1 rfl rfl
    obtain ⟨x2, rfl, b2⟩ := each 2 f2 c2 rfl rfl
    obtain ⟨x3, rfl, b3⟩ := each 3 f3 c3 rfl rfl
    obtain ⟨x4, rfl, b4⟩ := each 4 f4 c4 rfl rfl
    obtain ⟨x5, rfl, b5⟩ := each 5 f5 c5 rfl rfl
    exact ⟨⟨x0, x1, x2, x3, x4, x5⟩, ⟨b0, b1, b2, b3, b4, b5⟩, rfl⟩
end
end Go.Proofs.YtphifanacehppaaGreat.geom
/- JournalPlays: whatever is done with a journal, and wherever the power goes, each answer, what it says, and all words, are as the reference says. No condition. -/
namespace Go.Proofs.YtphifanacehppaaGreat.journalPlays
open Go Go.RowKit Go.Proofs.YtphifanacehppaaGreat.journal Go.Proofs.YtphifanacehppaaGreat.geom Go.Proofs.YtphifanacehppaaGreat.flash
set_option linter.unusedVariables false

theorem awake_at (w0 w : World) (hb : Below w0.heap.size w0 w) : Calls Tryz.prog 8 #[] w fun e w' => e = .returned (.bool true) ∧ Below w0.heap.size w0 w' :=
  (awake_any w).mono fun _ _ ⟨he, hw⟩ => ⟨he, hb.trans (hw.mono hb.size)⟩
theorem small_from (g : Geo) (v : Bool) (hv : Hid (v = true ↔ drive.Small g)) (w0 w : World) (hb : Below w0.heap.size w0 w) : Calls Tryz.prog 6 #[.agg #[.int .i64 g.sector, .int .i64 g.slot, .int .i64 g.data, .int .i64 g.quota, .int .i64 g.tries, .int .i64 g.life]] w fun e w' => e = .returned (.bool v) ∧ Below w0.heap.size w0 w' :=
  (drive.small_this g v hv w).mono fun _ _ ⟨he, hw⟩ => ⟨he, hb.trans (hw.mono hb.size)⟩
set_option maxHeartbeats 4000000 in
set_option maxRecDepth 20000 in
/-- where the awake function decides -/
theorem walk_awake (g : Geo) (x : Option Addr) (n cx : Nat) (a0 : Option Addr) (cap : Nat) (l : List JAct) (w : World) (ac : JActs w a0 l) (hcap : l.length ≤ maxLen) (hn : n ≤ maxLen) (h : ¬ drive.Small g ∨ (drive.Small g ∧ bigL l = true) ∨ (drive.Small g ∧ bigL l = false ∧ 100 < n)) :
    Calls Tryz.prog 3 #[.agg #[.int .i64 g.sector, .int .i64 g.slot, .int .i64 g.data, .int .i64 g.quota, .int .i64 g.tries, .int .i64 g.life], .slice x n cx, .slice a0 l.length cap] w (Yes w) := by
  have HS := hid (six g w)
  have HB := hid (belowNew g w)
  have hal : Below w.heap.size w (w.alloc (.cells #[.int .i64 g.sector, .int .i64 g.slot, .int .i64 g.data, .int .i64 g.quota, .int .i64 g.tries, .int .i64 g.life] 23)) := (Below.refl _ _).alloc (Nat.le_refl _) _
  have hac := ac.below hal
  obtain ⟨w0, hw0⟩ : ∃ x, Hid ((w.alloc (.cells #[.int .i64 g.sector, .int .i64 g.slot, .int .i64 g.data, .int .i64 g.quota, .int .i64 g.tries, .int .i64 g.life] 23)) = x) := ⟨_, rfl⟩
  rw [hw0.out] at HS HB hac
  have hgr := fun w' (hb : Below w0.heap.size w0 w') => great_any a0 cap l w' (hac.below hb) hcap
  have hb0 : Below w0.heap.size w0 w0 := Below.refl _ _
  have ca := fun w' hb => awake_at w0 w' hb
  have hml : (n : Int) ≤ 9223372036854775807 := by unfold maxLen at hn; omega
  clear hal ac hac
  rcases h with h | ⟨h, h1⟩ | ⟨h, h1, h2⟩
  · have cs := small_from g false (hid ⟨fun k => (by cases k), fun k => absurd k h⟩) w0 w0 hb0
    clear h hgr
    have hk0 := HS.out w0 hb0
    go_enter Tryz.func3, Tryz.ntmps3
    go_wp2_with fail
    rw [hw0.out]
    go_wp2_with (first
      | (go_at_call 6; (with_reducible refine cs.mono ?_); rintro e w1 ⟨rfl, hb1⟩; have hk1 := HS.out w1 hb1)
      | (go_at_call 8; (with_reducible refine (ca _ hb1).mono ?_); rintro e w2 ⟨rfl, hb2⟩))
    go_ret
    exact ⟨rfl, HB.out _ hb2⟩
  · have cs := small_from g true (hid ⟨fun _ => h, fun _ => rfl⟩) w0 w0 hb0
    rw [h1] at hgr
    clear h h1
    have hk0 := HS.out w0 hb0
    go_enter Tryz.func3, Tryz.ntmps3
    go_wp2_with fail
    rw [hw0.out]
    go_wp2_with (first
      | (go_at_call 6; (with_reducible refine cs.mono ?_); rintro e w1 ⟨rfl, hb1⟩; have hk1 := HS.out w1 hb1)
      | (go_at_call 7; (with_reducible refine (hgr _ hb1).mono ?_); rintro e w2 ⟨rfl, m, rfl⟩)
      | (go_at_call 8; (with_reducible refine (ca _ (below_drewN hb1 m)).mono ?_); rintro e w3 ⟨rfl, hb3⟩))
    go_ret
    exact ⟨rfl, HB.out _ hb3⟩
  · have cs := small_from g true (hid ⟨fun _ => h, fun _ => rfl⟩) w0 w0 hb0
    rw [h1] at hgr
    clear h h1
    have hk0 := HS.out w0 hb0
    have h3 : (100 : Int) < n := by omega
    go_enter Tryz.func3, Tryz.ntmps3
    go_wp2_with fail
    rw [hw0.out]
    go_wp2_with (first
      | (go_at_call 6; (with_reducible refine cs.mono ?_); rintro e w1 ⟨rfl, hb1⟩; have hk1 := HS.out w1 hb1)
      | (go_at_call 7; (with_reducible refine (hgr _ hb1).mono ?_); rintro e w2 ⟨rfl, m, rfl⟩)
      | (go_at_call 8; (with_reducible refine (ca _ (below_drewN hb1 m)).mono ?_); rintro e w3 ⟨rfl, hb3⟩))
    go_ret
    exact ⟨rfl, HB.out _ hb3⟩
set_option maxHeartbeats 8000000 in
set_option maxRecDepth 20000 in
/-- where there is no journal -/
theorem walk_bad (g : Geo) (x : Option Addr) (n cx : Nat) (V : List Nat) (a0 : Option Addr) (cap : Nat) (l : List JAct) (w : World) (hr : Reads .u32 w x n V) (hV : ∀ y ∈ V, y < 4294967296) (ac : JActs w a0 l) (hsm : drive.Small g) (hbig : bigL l = false) (hn : n ≤ 100) (hb : loadB V = false) :
    Calls Tryz.prog 3 #[.agg #[.int .i64 g.sector, .int .i64 g.slot, .int .i64 g.data, .int .i64 g.quota, .int .i64 g.tries, .int .i64 g.life], .slice x n cx, .slice a0 l.length cap] w (Yes w) := by
  obtain ⟨hl1, hl2⟩ := not_big hbig
  have HS := hid (six g w)
  have HB := hid (belowNew g w)
  have hal : Below w.heap.size w (w.alloc (.cells #[.int .i64 g.sector, .int .i64 g.slot, .int .i64 g.data, .int .i64 g.quota, .int .i64 g.tries, .int .i64 g.life] 23)) := (Below.refl _ _).alloc (Nat.le_refl _) _
  have hac := ac.below hal
  have hrd := hr.below hal
  obtain ⟨w0, hw0⟩ : ∃ x, Hid ((w.alloc (.cells #[.int .i64 g.sector, .int .i64 g.slot, .int .i64 g.data, .int .i64 g.quota, .int .i64 g.tries, .int .i64 g.life] 23)) = x) := ⟨_, rfl⟩
  rw [hw0.out] at HS HB hac hrd
  have hgr := fun w' (hb : Below w0.heap.size w0 w') => great_any a0 cap l w' (hac.below hb) (by unfold maxLen; omega)
  rw [hbig] at hgr
  have hb0 : Below w0.heap.size w0 w0 := Below.refl _ _
  have ca := fun w' hb => awake_at w0 w' hb
  have cs := small_from g true (hid ⟨fun _ => hsm, fun _ => rfl⟩) w0 w0 hb0
  have cb : ∀ w', Below w0.heap.size w0 w' → Calls Tryz.prog 9 #[.agg #[.int .i64 g.sector, .int .i64 g.slot, .int .i64 g.data, .int .i64 g.quota, .int .i64 g.tries, .int .i64 g.life], .slice x n cx] w' fun o w2 => ∃ b d, o = .returned (.tuple #[.agg #[.pointer (some ⟨b, 0, none⟩), .pointer (some ⟨d, 0, none⟩), .pointer none, .pointer none], .bool true]) ∧ Below w0.heap.size w0 w2 := fun w' hbb => (begin_bad g hsm.1 x n cx V w' (hrd.below hbb) hV (by omega) hb).mono fun e w2 ⟨b, d, h1, h2⟩ => ⟨b, d, h1, hbb.trans (h2.mono hbb.size)⟩
  have hnl : n = V.length := hr.1.symm
  have hcase : n < 1 ∨ 56 < n := by
    unfold loadB at hb
    have := of_decide_eq_false hb
    omega
  clear hal ac hac hrd hr hV hb hsm hl2 hbig hnl
  have hk0 := HS.out w0 hb0
  have i100 : ¬ ((100 : Int) < n) := by omega
  generalize l.length = N at *
  rcases hcase with h1 | h1
  · obtain rfl : n = 0 := by omega
    go_enter Tryz.func3, Tryz.ntmps3
    go_wp2_with fail
    rw [hw0.out]
    go_wp2_with (first
      | (go_at_call 6; (with_reducible refine cs.mono ?_); rintro e w1 ⟨rfl, hb1⟩; have hk1 := HS.out w1 hb1)
      | (go_at_call 7; (with_reducible refine (hgr _ hb1).mono ?_); rintro e w2 ⟨rfl, m, rfl⟩; have hb2 := below_drewN hb1 m; have hk2 := HS.out _ hb2)
      | (go_at_call 9; (with_reducible refine (cb _ hb2).mono ?_); rintro e w3 ⟨b, d, rfl, hb3⟩; have hb3' : Below w0.heap.size w0 (w3.alloc (.cells #[.pointer (some ⟨b, 0, none⟩), .pointer (some ⟨d, 0, none⟩), .pointer none, .pointer none] 34)) := hb3.alloc hb3.size _)
      | (go_at_call 8; (with_reducible refine (ca _ hb3').mono ?_); rintro e w4 ⟨rfl, hb4⟩))
    go_ret
    exact ⟨rfl, HB.out _ hb4⟩
  · have i1 : (56 : Int) < n := by omega
    have i2 : ¬ ((n : Int) < 1) := by omega
    go_enter Tryz.func3, Tryz.ntmps3
    go_wp2_with fail
    rw [hw0.out]
    go_wp2_with (first
      | (go_at_call 6; (with_reducible refine cs.mono ?_); rintro e w1 ⟨rfl, hb1⟩; have hk1 := HS.out w1 hb1)
      | (go_at_call 7; (with_reducible refine (hgr _ hb1).mono ?_); rintro e w2 ⟨rfl, m, rfl⟩; have hb2 := below_drewN hb1 m; have hk2 := HS.out _ hb2)
      | (go_at_call 9; (with_reducible refine (cb _ hb2).mono ?_); rintro e w3 ⟨b, d, rfl, hb3⟩; have hb3' : Below w0.heap.size w0 (w3.alloc (.cells #[.pointer (some ⟨b, 0, none⟩), .pointer (some ⟨d, 0, none⟩), .pointer none, .pointer none] 34)) := hb3.alloc hb3.size _)
      | (go_at_call 8; (with_reducible refine (ca _ hb3').mono ?_); rintro e w4 ⟨rfl, hb4⟩))
    go_ret
    exact ⟨rfl, HB.out _ hb4⟩
set_option maxHeartbeats 8000000 in
set_option maxRecDepth 20000 in
theorem walk_main (g : Geo) (x : Option Addr) (n cx : Nat) (V : List Nat) (a0 : Option Addr) (cap : Nat) (l : List JAct) (w : World) (hr : Reads .u32 w x n V) (hV : ∀ y ∈ V, y < 4294967296) (ac : JActs w a0 l) (fp : ∀ p ∈ l, p.Good w) (hsm : drive.Small g) (hbig : bigL l = false) (hn : n ≤ 100) (hb : loadB V = true) :
    Calls Tryz.prog 3 #[.agg #[.int .i64 g.sector, .int .i64 g.slot, .int .i64 g.data, .int .i64 g.quota, .int .i64 g.tries, .int .i64 g.life], .slice x n cx, .slice a0 l.length cap] w (Yes w) := by
  obtain ⟨hl1, hl2⟩ := not_big hbig
  have HS := hid (six g w)
  have HB := hid (belowNew g w)
  have hal : Below w.heap.size w (w.alloc (.cells #[.int .i64 g.sector, .int .i64 g.slot, .int .i64 g.data, .int .i64 g.quota, .int .i64 g.tries, .int .i64 g.life] 23)) := (Below.refl _ _).alloc (Nat.le_refl _) _
  have hac := ac.below hal
  have hrd := hr.below hal
  have hfp : ∀ p ∈ l, p.Good (w.alloc (.cells #[.int .i64 g.sector, .int .i64 g.slot, .int .i64 g.data, .int .i64 g.quota, .int .i64 g.tries, .int .i64 g.life] 23)) := fun p hp => (fp p hp).below hal
  obtain ⟨w0, hw0⟩ : ∃ x, Hid ((w.alloc (.cells #[.int .i64 g.sector, .int .i64 g.slot, .int .i64 g.data, .int .i64 g.quota, .int .i64 g.tries, .int .i64 g.life] 23)) = x) := ⟨_, rfl⟩
  rw [hw0.out] at HS HB hac hrd hfp
  have hgr := fun w' (hb : Below w0.heap.size w0 w') => great_any a0 cap l w' (hac.below hb) (by unfold maxLen; omega)
  rw [hbig] at hgr
  have hb0 : Below w0.heap.size w0 w0 := Below.refl _ _
  have ca := fun w' hb => awake_at w0 w' hb
  have cs := small_from g true (hid ⟨fun _ => hsm, fun _ => rfl⟩) w0 w0 hb0
  have cb := fun w' (hbb : Below w0.heap.size w0 w') => begin_this g hsm.1 x n cx V w' (hrd.below hbb) hV (by omega) hb
  have HRUN : Hid (∀ (w2 w3 : World) (b d j r e c : Nat) (F : Fl) (J : Jv), Below w0.heap.size w0 w2 → Duo2 w2 (fun x => x < w2.heap.size) j d b r e c g F J F J w3 → Inv F g J → F.dark = false → F.count ≤ 100 → Calls Tryz.prog 10 #[.agg #[.pointer (some ⟨b, 0, none⟩), .pointer (some ⟨d, 0, none⟩), .pointer (some ⟨j, 0, none⟩), .pointer (some ⟨r, 0, none⟩)], .slice a0 l.length cap] w3 fun o w' => ∃ j2 r2, o = .returned (.tuple #[.agg #[.pointer (some ⟨b, 0, none⟩), .pointer (some ⟨d, 0, none⟩), .pointer (some ⟨j2, 0, none⟩), .pointer (some ⟨r2, 0, none⟩)], .bool true]) ∧ Below w0.heap.size w0 w') := hid fun w2 w3 b d j r e c F J hb2 D inv hd hc =>
    (run_this D inv hd (by omega) a0 cap l (hac.below hb2) (fun p hp => (hfp p hp).below hb2) hbig).mono fun o w' ⟨j2, r2, F2, J2, h1, h2, _, _, _, _⟩ => ⟨j2, r2, h1, hb2.trans (h2.below.mono hb2.size)⟩
  clear hal ac fp hac hrd hfp hr hV hb hsm hl2 hbig
  have hk0 := HS.out w0 hb0
  have i100 : ¬ ((100 : Int) < n) := by omega
  generalize l.length = N at *
  go_enter Tryz.func3, Tryz.ntmps3
  go_wp2_with fail
  rw [hw0.out]
  go_wp2_with (first
    | (go_at_call 6; (with_reducible refine cs.mono ?_); rintro e w1 ⟨rfl, hb1⟩; have hk1 := HS.out w1 hb1)
    | (go_at_call 7; (with_reducible refine (hgr _ hb1).mono ?_); rintro e w2 ⟨rfl, m, rfl⟩; have hb2 := below_drewN hb1 m; have hk2 := HS.out _ hb2)
    | (go_at_call 9; (with_reducible refine (cb _ hb2).mono ?_); rintro o w3 ⟨b, d, j, r, e, c, F, rfl, D3, inv, hd, hct, hf, hb3⟩; have cr := HRUN.out _ _ b d j r e c F _ hb2 (D3.later ((Below.refl _ _).alloc (Nat.le_refl _) (.cells #[.pointer (some ⟨b, 0, none⟩), .pointer (some ⟨d, 0, none⟩), .pointer (some ⟨j, 0, none⟩), .pointer (some ⟨r, 0, none⟩)] 34))) inv hd hct; clear D3 inv hd hct hf)
    | (go_at_call 10; (with_reducible refine cr.mono ?_); rintro o w4 ⟨j2, r2, rfl, hb4⟩)
    | (go_at_call 8; (with_reducible refine (ca _ hb4).mono ?_); rintro e w5 ⟨rfl, hb5⟩))
  go_ret
  exact ⟨rfl, HB.out _ hb5⟩
theorem walk (g : Geo) (x : Option Addr) (n cx : Nat) (V : List Nat) (a0 : Option Addr) (cap : Nat) (l : List JAct) (w : World) (hg : g.Fits) (hr : Reads .u32 w x n V) (hV : ∀ y ∈ V, y < 4294967296) (lx : n ≤ cx) (cx2 : cx * 4 ≤ 140737488351232) (ac : JActs w a0 l) (fp : ∀ p ∈ l, p.Good w) (lc : l.length ≤ cap) (cm : cap ≤ maxLen) :
    Calls Tryz.prog 3 #[.agg #[.int .i64 g.sector, .int .i64 g.slot, .int .i64 g.data, .int .i64 g.quota, .int .i64 g.tries, .int .i64 g.life], .slice x n cx, .slice a0 l.length cap] w (Yes w) := by
  have hd : drive.Small g ∨ ¬ drive.Small g := Classical.em _
  rcases hd with hs | hs
  · cases hb : bigL l with
    | true => exact walk_awake g x n cx a0 cap l w ac (by omega) (by unfold maxLen; omega) (.inr (.inl ⟨hs, hb⟩))
    | false =>
      by_cases hn : n ≤ 100
      · cases hlb : loadB V with
        | true => exact walk_main g x n cx V a0 cap l w hr hV ac fp hs hb hn hlb
        | false => exact walk_bad g x n cx V a0 cap l w hr hV ac hs hb hn hlb
      · exact walk_awake g x n cx a0 cap l w ac (by omega) (by unfold maxLen; omega) (.inr (.inr ⟨hs, hb, by omega⟩))
  · exact walk_awake g x n cx a0 cap l w ac (by omega) (by unfold maxLen; omega) (.inl hs)
end Go.Proofs.YtphifanacehppaaGreat.journalPlays
/- JournalNone: a journal that is none says nothing; there is none over a flash that has none. No condition. -/
namespace Go.Proofs.YtphifanacehppaaGreat.journalNone
open Go Go.RowKit Go.Proofs.YtphifanacehppaaGreat.journal Go.Proofs.YtphifanacehppaaGreat.geom Go.Proofs.YtphifanacehppaaGreat.flash Go.Proofs.YtphifanacehppaaGreat.journalPlays
set_option linter.unusedVariables false

theorem first_said {g : Geo} (hr : g.Right) {s : Nat} (hs : s ≤ 1) : said (drive.first g) g s = Part.zero := by
  have hb := drive.right_bounds hr
  unfold said
  refine scan_none (readN_ones (.inr ?_))
  unfold sec
  rw [drive.span_getD _ _ _ _ (by omega)]
  show (List.replicate (g.sectors.toNat * g.sector.toNat) 4294967295).getD _ 0 = _
  have h1 : 11 * g.sector.toNat ≤ g.sectors.toNat * g.sector.toNat := Nat.mul_le_mul_right _ (by omega)
  have h2 : drive.addr g s 0 + 0 < g.sectors.toNat * g.sector.toNat := by
    unfold drive.addr
    have : s = 0 ∨ s = 1 := by omega
    rcases this with rfl | rfl
    · simp; omega
    · simp; omega
  rw [List.getD_eq_getElem?_getD, List.getElem?_replicate, if_pos h2]
  rfl
theorem first_open {g : Geo} (hr : g.Right) : openV (drive.first g) g = none := by
  unfold openV
  rw [if_pos ⟨by rw [first_said hr (Nat.zero_le _)]; rfl, by rw [first_said hr (Nat.le_refl _)]; rfl⟩]
theorem acts_one (p : JAct) (w : World) : JActs (w.alloc (.cells #[.int .i64 p.k, .int .i64 p.n, .slice p.l p.lLen p.lCap, .slice p.v p.vLen p.vCap] 40)) (some ⟨w.heap.size, 0, none⟩) [p] := by
  have hB := Block.new w 40 [.int .i64 p.k, .int .i64 p.n, .slice p.l p.lLen p.lCap, .slice p.v p.vLen p.vCap]
  refine .inr ⟨_, _, rfl, hB.lt, fun i q hq => ?_⟩
  have hi : i = 0 := by
    have := (List.getElem?_eq_some_iff.1 hq).1
    simp at this; omega
  subst hi
  obtain rfl : p = q := by simpa using hq
  exact ⟨hB.cell 0, hB.cell 1, hB.cell 2, hB.cell 3⟩
theorem big_one (p : JAct) : bigL [p] = bigA p := by
  unfold bigL
  simp
/-- both boxes -/
theorem boxes (g : Geo) (p : JAct) (w : World) : ∃ w0, Hid (((w.alloc (.cells #[.int .i64 g.sector, .int .i64 g.slot, .int .i64 g.data, .int .i64 g.quota, .int .i64 g.tries, .int .i64 g.life] 23))).alloc (.cells #[.int .i64 p.k, .int .i64 p.n, .slice p.l p.lLen p.lCap, .slice p.v p.vLen p.vCap] 40) = w0) ∧
    Hid (∀ w', Below w0.heap.size w0 w' → Below w.heap.size w w') ∧ Hid (∀ w', Below w0.heap.size w0 w' → (w'.cell? ⟨w.heap.size, 0, none⟩ = some (.int .i64 g.sector) ∧ w'.cell? ⟨w.heap.size, 1, none⟩ = some (.int .i64 g.slot) ∧ w'.cell? ⟨w.heap.size, 2, none⟩ = some (.int .i64 g.data) ∧ w'.cell? ⟨w.heap.size, 3, none⟩ = some (.int .i64 g.quota) ∧ w'.cell? ⟨w.heap.size, 4, none⟩ = some (.int .i64 g.tries) ∧ w'.cell? ⟨w.heap.size, 5, none⟩ = some (.int .i64 g.life))) ∧ Hid (∀ w', Below w0.heap.size w0 w' → w'.cell? ⟨w.heap.size + 1, 0, none⟩ = some (.int .i64 p.k) ∧ w'.cell? ⟨w.heap.size + 1, 1, none⟩ = some (.int .i64 p.n) ∧ w'.cell? ⟨w.heap.size + 1, 2, none⟩ = some (.slice p.l p.lLen p.lCap) ∧ w'.cell? ⟨w.heap.size + 1, 3, none⟩ = some (.slice p.v p.vLen p.vCap)) := by
  have hb1 : Below w.heap.size w (w.alloc (.cells #[.int .i64 g.sector, .int .i64 g.slot, .int .i64 g.data, .int .i64 g.quota, .int .i64 g.tries, .int .i64 g.life] 23)) := (Below.refl _ _).alloc (Nat.le_refl _) _
  have hb2 : Below ((w.alloc (.cells #[.int .i64 g.sector, .int .i64 g.slot, .int .i64 g.data, .int .i64 g.quota, .int .i64 g.tries, .int .i64 g.life] 23))).heap.size (w.alloc (.cells #[.int .i64 g.sector, .int .i64 g.slot, .int .i64 g.data, .int .i64 g.quota, .int .i64 g.tries, .int .i64 g.life] 23)) (((w.alloc (.cells #[.int .i64 g.sector, .int .i64 g.slot, .int .i64 g.data, .int .i64 g.quota, .int .i64 g.tries, .int .i64 g.life] 23))).alloc (.cells #[.int .i64 p.k, .int .i64 p.n, .slice p.l p.lLen p.lCap, .slice p.v p.vLen p.vCap] 40)) := (Below.refl _ _).alloc (Nat.le_refl _) _
  refine ⟨_, hid rfl, hid fun w' hb => (hb1.trans (hb2.mono hb1.size)).trans (hb.mono (Nat.le_trans hb1.size hb2.size)), hid fun w' hb => six g w w' (hb2.trans (hb.mono hb2.size)), hid fun w' hb => ?_⟩
  have hB := (Block.new (w.alloc (.cells #[.int .i64 g.sector, .int .i64 g.slot, .int .i64 g.data, .int .i64 g.quota, .int .i64 g.tries, .int .i64 g.life] 23)) 40 [.int .i64 p.k, .int .i64 p.n, .slice p.l p.lLen p.lCap, .slice p.v p.vLen p.vCap]).later hb
  rw [show ((w.alloc (.cells #[.int .i64 g.sector, .int .i64 g.slot, .int .i64 g.data, .int .i64 g.quota, .int .i64 g.tries, .int .i64 g.life] 23))).heap.size = w.heap.size + 1 by simp] at hB
  exact ⟨hB.cell 0, hB.cell 1, hB.cell 2, hB.cell 3⟩
set_option maxHeartbeats 4000000 in
set_option maxRecDepth 20000 in
/-- where the awake function decides -/
theorem walk_awake (g : Geo) (p : JAct) (w : World) (h : ¬ drive.Small g ∨ (drive.Small g ∧ bigA p = true)) : Calls Tryz.prog 5 #[.agg #[.int .i64 g.sector, .int .i64 g.slot, .int .i64 g.data, .int .i64 g.quota, .int .i64 g.tries, .int .i64 g.life], p.val] w (Yes w) := by
  obtain ⟨w0, hw0, HB, HS, HA⟩ := boxes g p w
  have hb0 : Below w0.heap.size w0 w0 := Below.refl _ _
  have ca := fun w' hb => awake_at w0 w' hb
  have hk0 := HS.out w0 hb0
  rcases h with h | ⟨h, h1⟩
  · have cs := small_from g false (hid ⟨fun k => (by cases k), fun k => absurd k h⟩) w0 w0 hb0
    clear h
    unfold JAct.val
    go_enter Tryz.func5, Tryz.ntmps5
    go_wp2_with fail
    rw [hw0.out]
    go_wp2_with (first
      | (go_at_call 6; (with_reducible refine cs.mono ?_); rintro e w1 ⟨rfl, hb1⟩; have hk1 := HS.out w1 hb1; have ha1 := HA.out w1 hb1)
      | (go_at_call 8; (with_reducible refine (ca _ hb1).mono ?_); rintro e w2 ⟨rfl, hb2⟩))
    go_ret
    exact ⟨rfl, HB.out _ hb2⟩
  · have cs := small_from g true (hid ⟨fun _ => h, fun _ => rfl⟩) w0 w0 hb0
    have cg : ∀ w1 : World, Calls Tryz.prog 7 #[.slice (some ⟨w1.heap.size, 0, none⟩) 1 1] (w1.alloc (.cells #[.int .i64 p.k, .int .i64 p.n, .slice p.l p.lLen p.lCap, .slice p.v p.vLen p.vCap] 40)) (Quiet (.bool true) (w1.alloc (.cells #[.int .i64 p.k, .int .i64 p.n, .slice p.l p.lLen p.lCap, .slice p.v p.vLen p.vCap] 40))) := fun w1 => by
      have := great_any (some ⟨w1.heap.size, 0, none⟩) 1 [p] _ (acts_one p w1) (by unfold maxLen; simp)
      rwa [big_one, h1] at this
    clear h h1
    unfold JAct.val
    go_enter Tryz.func5, Tryz.ntmps5
    go_wp2_with fail
    rw [hw0.out]
    go_wp2_with (first
      | (go_at_call 6; (with_reducible refine cs.mono ?_); rintro e w1 ⟨rfl, hb1⟩; have hk1 := HS.out w1 hb1; obtain ⟨q0, q1, q2, q3⟩ := HA.out w1 hb1)
      | (go_at_call 7; (with_reducible refine (cg _).mono ?_); rintro e w2 ⟨rfl, m, rfl⟩; have hb2 := below_drewN (hb1.alloc hb1.size (.cells #[.int .i64 p.k, .int .i64 p.n, .slice p.l p.lLen p.lCap, .slice p.v p.vLen p.vCap] 40)) m)
      | (go_at_call 8; (with_reducible refine (ca _ hb2).mono ?_); rintro e w3 ⟨rfl, hb3⟩))
    go_ret
    exact ⟨rfl, HB.out _ hb3⟩
set_option maxHeartbeats 8000000 in
set_option maxRecDepth 20000 in
theorem walk_main (g : Geo) (p : JAct) (w : World) (hsm : drive.Small g) (hbig : bigA p = false) : Calls Tryz.prog 5 #[.agg #[.int .i64 g.sector, .int .i64 g.slot, .int .i64 g.data, .int .i64 g.quota, .int .i64 g.tries, .int .i64 g.life], p.val] w (Yes w) := by
  obtain ⟨w0, hw0, HB, HS, HA⟩ := boxes g p w
  have hb0 : Below w0.heap.size w0 w0 := Below.refl _ _
  have ca := fun w' hb => awake_at w0 w' hb
  have hk0 := HS.out w0 hb0
  have cs := small_from g true (hid ⟨fun _ => hsm, fun _ => rfl⟩) w0 w0 hb0
  have cg : ∀ w1 : World, Calls Tryz.prog 7 #[.slice (some ⟨w1.heap.size, 0, none⟩) 1 1] (w1.alloc (.cells #[.int .i64 p.k, .int .i64 p.n, .slice p.l p.lLen p.lCap, .slice p.v p.vLen p.vCap] 40)) (Quiet (.bool false) (w1.alloc (.cells #[.int .i64 p.k, .int .i64 p.n, .slice p.l p.lLen p.lCap, .slice p.v p.vLen p.vCap] 40))) := fun w1 => by
    have := great_any (some ⟨w1.heap.size, 0, none⟩) 1 [p] _ (acts_one p w1) (by unfold maxLen; simp)
    rwa [big_one, hbig] at this
  have hr := hsm.1
  have hrb := drive.right_bounds hr
  have ft1 := drive.first_fit hr
  have ok1 := drive.first_ok hr
  have ho := first_open hr
  have cm := fun w1 (hb : Below w0.heap.size w0 w1) => drive.map_this g g.sectors.toNat (by omega) w0 w1 hb
  have cf : ∀ w', Below w0.heap.size w0 w' → Calls Tryz.prog 28 #[.int .i64 (g.sectors.toNat : Nat), .int .i64 g.sector] w' fun e w' => ∃ b, e = .returned (.tuple #[.pointer (some ⟨b, 0, none⟩), .int .i64 0]) ∧ Live w0 b (drive.first g) w' := fun w' hb => by
    have := drive.flash_own hr hb
    rwa [show g.sectors = ((g.sectors.toNat : Nat) : Int) by omega] at this
  have cd : ∀ b w', Live w0 b (drive.first g) w' → Calls Tryz.prog 30 #[.pointer (some ⟨b, 0, none⟩), .agg #[.int .i64 g.sector, .int .i64 g.slot, .int .i64 g.data, .int .i64 g.quota, .int .i64 g.tries, .int .i64 g.life]] w' fun e w' => ∃ d, e = .returned (.tuple #[.pointer (some ⟨d, 0, none⟩), .int .i64 0]) ∧ drive.Own w0 d b g (drive.first g) w' := fun b w' h => drive.new_own h ft1
  have co : ∀ d b w', drive.Own w0 d b g (drive.first g) w' → Calls Tryz.prog 16 #[.pointer (some ⟨d, 0, none⟩)] w' fun o w2 => o = .returned (.tuple #[.pointer none, .int .i64 8]) ∧ Below w0.heap.size w0 w2 := fun d b w' h => by
    obtain ⟨S, h1, h2, h3, h4⟩ := h
    have := open_this h1 (fun x hx => (h2 x hx).2) ⟨ok1, ft1⟩ rfl
    rw [ho] at this
    exact this.mono fun o w2 ⟨k1, k2⟩ => ⟨k1, h4.trans (k2.mono h4.size)⟩
  clear hsm hbig hr hrb ft1 ok1 ho
  generalize hM : g.sectors.toNat = M at *
  clear hM
  unfold JAct.val
  go_enter Tryz.func5, Tryz.ntmps5
  go_wp2_with fail
  rw [hw0.out]
  go_wp2_with (first
    | (go_at_call 6; (with_reducible refine cs.mono ?_); rintro e w1 ⟨rfl, hb1⟩; have hk1 := HS.out w1 hb1; obtain ⟨q0, q1, q2, q3⟩ := HA.out w1 hb1)
    | (go_at_call 7; (with_reducible refine (cg _).mono ?_); rintro e w2 ⟨rfl, m2, rfl⟩; clear cg; have hbq := hb1.alloc hb1.size (.cells #[.int .i64 p.k, .int .i64 p.n, .slice p.l p.lLen p.lCap, .slice p.v p.vLen p.vCap] 40); generalize (w1.alloc (.cells #[.int .i64 p.k, .int .i64 p.n, .slice p.l p.lLen p.lCap, .slice p.v p.vLen p.vCap] 40)) = wq at *; clear q0 q1 q2 q3 hk1; obtain ⟨q0, q1, q2, q3⟩ := HA.out _ hbq; have hb2 := below_drewN hbq m2)
    | (go_at_call 25; (with_reducible refine (place_none _).mono ?_); rintro e w3 ⟨rfl, m3, rfl⟩)
    | (go_at_call 17; (with_reducible refine (seq_none _).mono ?_); rintro e w4 ⟨rfl, m4, rfl⟩)
    | (go_at_call 19; (with_reducible refine (whole_none _).mono ?_); rintro e w5 ⟨rfl, m5, rfl⟩)
    | (go_at_call 21; (with_reducible refine (changes_none _).mono ?_); rintro e w6 ⟨rfl, m6, rfl⟩)
    | (go_at_call 23; (with_reducible refine (torn_none _).mono ?_); rintro e w7 ⟨rfl, m7, rfl⟩; have hb7 : Below w0.heap.size w0 (wq.drewN (m2 + m3 + m4 + m5 + m6 + m7)) := below_drewN hbq _)
    | (go_at_call 26; (with_reducible refine (change_none _ _ _ _ _ _ _).mono ?_); rintro e w8 ⟨rfl, hb8⟩; have hb8' := hb7.trans (hb8.mono hb7.size); obtain ⟨s0, s1, s2, s3⟩ := HA.out _ hb8')
    | (go_at_call 27; (with_reducible refine (put_none _ _ _ _).mono ?_); rintro e w9 ⟨rfl, hb9⟩; have hb9' := hb8'.trans (hb9.mono hb8'.size); obtain ⟨t0, t1, t2, t3⟩ := HA.out _ hb9')
    | (go_at_call 22; (with_reducible refine (mend_none _ _ _ _).mono ?_); rintro e w10 ⟨rfl, hb10⟩; have hb10' := hb9'.trans (hb10.mono hb9'.size)))
  have hbA : Below w0.heap.size w0 w10.drew := below_drewN hb10' 1
  have k1 := HS.out _ hbA
  have cmA := cm _ hbA
  go_region_held3 (fun w' => (w'.cell? ⟨w.heap.size, 0, none⟩ = some (.int .i64 g.sector) ∧ w'.cell? ⟨w.heap.size, 1, none⟩ = some (.int .i64 g.slot) ∧ w'.cell? ⟨w.heap.size, 2, none⟩ = some (.int .i64 g.data) ∧ w'.cell? ⟨w.heap.size, 3, none⟩ = some (.int .i64 g.quota) ∧ w'.cell? ⟨w.heap.size, 4, none⟩ = some (.int .i64 g.tries) ∧ w'.cell? ⟨w.heap.size, 5, none⟩ = some (.int .i64 g.life))) (first | assumption | go_keep) (first
    | (go_at_call 29; (with_reducible refine cmA.mono ?_); rintro o wa ⟨ma, mc, rfl, hba⟩; have k2 := HS.out _ hba)
    | (go_at_call 28; (with_reducible refine (cf _ hba).mono ?_); rintro o wb ⟨b, rfl, hlb⟩; have k3 := HS.out _ hlb.below))
  clear cm cmA hba k1 k2
  go_wp2_with (first
    | (go_at_call 30; (with_reducible refine (cd _ _ hlb).mono ?_); rintro o wc ⟨d, rfl, hoc⟩)
    | (go_at_call 16; (first | ((with_reducible refine (co _ _ _ hoc).mono ?_); rintro o wd ⟨rfl, hbd⟩; obtain ⟨u0, u1, u2, u3⟩ := HA.out _ hbd) | ((with_reducible refine (open_none _).mono ?_); rintro o wf ⟨rfl, mf, rfl⟩; have hbf : Below w0.heap.size w0 (wd.drewN (me + mf)) := below_drewN hbd _)))
    | (go_at_call 31; (with_reducible refine (new_none _ _ _ _).mono ?_); rintro o we ⟨rfl, me, rfl⟩)
    | (go_at_call 8; (with_reducible refine (ca _ hbf).mono ?_); rintro e wg ⟨rfl, hbg⟩))
  go_ret
  exact ⟨rfl, HB.out _ hbg⟩
theorem walk (g : Geo) (p : JAct) (w : World) (hg : g.Fits) (hp : p.Good w) : Calls Tryz.prog 5 #[.agg #[.int .i64 g.sector, .int .i64 g.slot, .int .i64 g.data, .int .i64 g.quota, .int .i64 g.tries, .int .i64 g.life], p.val] w (Yes w) := by
  have hd : drive.Small g ∨ ¬ drive.Small g := Classical.em _
  rcases hd with hs | hs
  · cases hb : bigA p with
    | true => exact walk_awake g p w (.inr ⟨hs, hb⟩)
    | false => exact walk_main g p w hs hb
  · exact walk_awake g p w (.inl hs)
end Go.Proofs.YtphifanacehppaaGreat.journalNone
