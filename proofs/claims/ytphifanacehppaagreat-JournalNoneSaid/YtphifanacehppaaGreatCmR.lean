/- Contracts and lemmas that the claims of this seat share: GeomOpen, JournalLawPlays. Each says its own conditions. -/
import Derived.Test.YtphifanacehppaaGreatCmB
import Derived.Test.YtphifanacehppaaGreatCmA
import Derived.Deep.Slices
import Derived.Deep.Strs
import Derived.Lib.SmallJoins
import Derived.Test.YtphifanacehppaaGreatCmQ
import Derived.Test.YtphifanacehppaaGreatCmP
/- What a geometry that came in reads as. No condition. -/
namespace Go.Proofs.YtphifanacehppaaGreat.geom
open Go.ChangeShapes Go.WideShapes Go.ChangeAt Go.RowKit Go.Deep
set_option linter.unusedVariables false

section
variable {H : Type} {enc : TypeId × Value → H} {P : Program} {W : World}
/-- each field fits its kind -/
structure Geo.Fits (g : Geo) : Prop where
  sector : -9223372036854775808 ≤ g.sector ∧ g.sector ≤ 9223372036854775807
  slot : -9223372036854775808 ≤ g.slot ∧ g.slot ≤ 9223372036854775807
  data : -9223372036854775808 ≤ g.data ∧ g.data ≤ 9223372036854775807
  quota : -9223372036854775808 ≤ g.quota ∧ g.quota ≤ 9223372036854775807
  tries : -9223372036854775808 ≤ g.tries ∧ g.tries ≤ 9223372036854775807
  life : -9223372036854775808 ≤ g.life ∧ g.life ≤ 9223372036854775807
theorem open_geo_arg {r : Reach} {b0 : Nat} {t : TypeId} {f0 f1 f2 f3 f4 f5 : Field} {v : Value} {d : DataW H} {pl : List MemPlace} (hs : P.underlying t = some (.struct #[f0, f1, f2, f3, f4, f5])) (hone : oneCellFields P #[f0, f1, f2, f3, f4, f5] = true) (hC : P.cellsOf t = 6)
    (hu : ∀ f ∈ [f0, f1, f2, f3, f4, f5], P.underlying f.type = some (.int .i64)) (hv : Value.okWide P W r b0 t v) (h : DataW.Trod enc P W 0 (fun _ => true) true t v d pl) : ∃ g : Geo, g.Fits ∧ v = .agg #[.int .i64 g.sector, .int .i64 g.slot, .int .i64 g.data, .int .i64 g.quota, .int .i64 g.tries, .int .i64 g.life] := by
  obtain ⟨cs, rfl, hsz⟩ := okWide_struct hs hv
  obtain ⟨fuel, hf⟩ := h
  rw [hC] at hsz
  obtain ⟨l⟩ := cs
  match l, hsz with
  | [c0, c1, c2, c3, c4, c5], _ =>
    obtain ⟨ys, n, _, _, hl, hlen, hx⟩ := DataW.trod_struct hs hf
    have each : ∀ (i : Nat) (f : Field) (c : Value), #[f0, f1, f2, f3, f4, f5][i]? = some f → [c0, c1, c2, c3, c4, c5][i]? = some c → ∃ x : Int, c = .int .i64 x ∧ -9223372036854775808 ≤ x ∧ x ≤ 9223372036854775807 := by
      intro i f c hi hc
      obtain ⟨o, k⟩ := hone_of hone i f hi
      have hi6 : i < 6 := by have := (Array.getElem?_eq_some_iff.1 hi).1; simpa using this
      have h1 := hx i f hi
      rw [o, k] at h1
      have e : (((Value.agg ⟨[c0, c1, c2, c3, c4, c5]⟩).cells.toList.drop i).take 1) = [c] := by
        rw [List.take_one]
        have : ((Value.agg ⟨[c0, c1, c2, c3, c4, c5]⟩).cells.toList.drop i).head? = some c := by
          rw [List.head?_drop]; simpa [Value.cells] using hc
        rw [this]; rfl
      rw [e] at h1
      have hy : ys[i]? = some (ys[i]'(by rw [hlen]; exact hi6)) := List.getElem?_eq_getElem _
      rw [hy] at h1
      obtain ⟨x, hx1, _, hw⟩ := DataW.trod_int (hu f (by have := Array.mem_of_getElem? hi; simpa using this)) h1
      exact ⟨x, by simpa using hx1, wf_i64 _ hw⟩
    obtain ⟨x0, rfl, b0⟩ := each 0 f0 c0 rfl rfl
    obtain ⟨x1, rfl, b1⟩ := each 1 f1 c1 rfl rfl
    obtain ⟨x2, rfl, b2⟩ := each 2 f2 c2 rfl rfl
    obtain ⟨x3, rfl, b3⟩ := each 3 f3 c3 rfl rfl
    obtain ⟨x4, rfl, b4⟩ := each 4 f4 c4 rfl rfl
    obtain ⟨x5, rfl, b5⟩ := each 5 f5 c5 rfl rfl
    exact ⟨⟨x0, x1, x2, x3, x4, x5⟩, ⟨b0, b1, b2, b3, b4, b5⟩, rfl⟩
end
end Go.Proofs.YtphifanacehppaaGreat.geom
/- JournalPlays: whatever is done with a journal, and wherever the power goes, each answer, what it says, and all words, are as the reference says. No condition. -/
namespace Go.Proofs.YtphifanacehppaaGreat.journalPlays
open Go Go.RowKit Go.Proofs.YtphifanacehppaaGreat.journal Go.Proofs.YtphifanacehppaaGreat.geom Go.Proofs.YtphifanacehppaaGreat.flash
set_option linter.unusedVariables false

theorem awake_at (w0 w : World) (hb : Below w0.heap.size w0 w) : Calls Tryz.prog 8 #[] w fun e w' => e = .returned (.bool true) ∧ Below w0.heap.size w0 w' :=
  (awake_any w).mono fun _ _ ⟨he, hw⟩ => ⟨he, hb.trans (hw.mono hb.size)⟩
theorem small_from (g : Geo) (v : Bool) (hv : Hid (v = true ↔ drive.Small g)) (w0 w : World) (hb : Below w0.heap.size w0 w) : Calls Tryz.prog 6 #[.agg #[.int .i64 g.sector, .int .i64 g.slot, .int .i64 g.data, .int .i64 g.quota, .int .i64 g.tries, .int .i64 g.life]] w fun e w' => e = .returned (.bool v) ∧ Below w0.heap.size w0 w' :=
  (drive.small_this g v hv w).mono fun _ _ ⟨he, hw⟩ => ⟨he, hb.trans (hw.mono hb.size)⟩
set_option maxHeartbeats 4000000 in
set_option maxRecDepth 20000 in
/-- where the awake function decides -/
theorem walk_awake (g : Geo) (x : Option Addr) (n cx : Nat) (a0 : Option Addr) (cap : Nat) (l : List JAct) (w : World) (ac : JActs w a0 l) (hcap : l.length ≤ maxLen) (hn : n ≤ maxLen) (h : ¬ drive.Small g ∨ (drive.Small g ∧ bigL l = true) ∨ (drive.Small g ∧ bigL l = false ∧ 100 < n)) :
    Calls Tryz.prog 3 #[.agg #[.int .i64 g.sector, .int .i64 g.slot, .int .i64 g.data, .int .i64 g.quota, .int .i64 g.tries, .int .i64 g.life], .slice x n cx, .slice a0 l.length cap] w (Yes w) := by
  have HS := hid (six g w)
  have HB := hid (belowNew g w)
  have hal : Below w.heap.size w (w.alloc (.cells #[.int .i64 g.sector, .int .i64 g.slot, .int .i64 g.data, .int .i64 g.quota, .int .i64 g.tries, .int .i64 g.life] 23)) := (Below.refl _ _).alloc (Nat.le_refl _) _
  have hac := ac.below hal
  obtain ⟨w0, hw0⟩ : ∃ x, Hid ((w.alloc (.cells #[.int .i64 g.sector, .int .i64 g.slot, .int .i64 g.data, .int .i64 g.quota, .int .i64 g.tries, .int .i64 g.life] 23)) = x) := ⟨_, rfl⟩
  rw [hw0.out] at HS HB hac
  have hgr := fun w' (hb : Below w0.heap.size w0 w') => great_any a0 cap l w' (hac.below hb) hcap
  have hb0 : Below w0.heap.size w0 w0 := Below.refl _ _
  have ca := fun w' hb => awake_at w0 w' hb
  have hml : (n : Int) ≤ 9223372036854775807 := by unfold maxLen at hn; omega
  clear hal ac hac
  rcases h with h | ⟨h, h1⟩ | ⟨h, h1, h2⟩
  · have cs := small_from g false (hid ⟨fun k => (by cases k), fun k => absurd k h⟩) w0 w0 hb0
    clear h hgr
    have hk0 := HS.out w0 hb0
    go_enter Tryz.func3, Tryz.ntmps3
    go_wp2_with fail
    rw [hw0.out]
    go_wp2_with (first
      | (go_at_call 6; (with_reducible refine cs.mono ?_); rintro e w1 ⟨rfl, hb1⟩; have hk1 := HS.out w1 hb1)
      | (go_at_call 8; (with_reducible refine (ca _ hb1).mono ?_); rintro e w2 ⟨rfl, hb2⟩))
    go_ret
    exact ⟨rfl, HB.out _ hb2⟩
  · have cs := small_from g true (hid ⟨fun _ => h, fun _ => rfl⟩) w0 w0 hb0
    rw [h1] at hgr
    clear h h1
    have hk0 := HS.out w0 hb0
    go_enter Tryz.func3, Tryz.ntmps3
    go_wp2_with fail
    rw [hw0.out]
    go_wp2_with (first
      | (go_at_call 6; (with_reducible refine cs.mono ?_); rintro e w1 ⟨rfl, hb1⟩; have hk1 := HS.out w1 hb1)
      | (go_at_call 7; (with_reducible refine (hgr _ hb1).mono ?_); rintro e w2 ⟨rfl, m, rfl⟩)
      | (go_at_call 8; (with_reducible refine (ca _ (below_drewN hb1 m)).mono ?_); rintro e w3 ⟨rfl, hb3⟩))
    go_ret
    exact ⟨rfl, HB.out _ hb3⟩
  · have cs := small_from g true (hid ⟨fun _ => h, fun _ => rfl⟩) w0 w0 hb0
    rw [h1] at hgr
    clear h h1
    have hk0 := HS.out w0 hb0
    have h3 : (100 : Int) < n := by omega
    go_enter Tryz.func3, Tryz.ntmps3
    go_wp2_with fail
    rw [hw0.out]
    go_wp2_with (first
      | (go_at_call 6; (with_reducible refine cs.mono ?_); rintro e w1 ⟨rfl, hb1⟩; have hk1 := HS.out w1 hb1)
      | (go_at_call 7; (with_reducible refine (hgr _ hb1).mono ?_); rintro e w2 ⟨rfl, m, rfl⟩)
      | (go_at_call 8; (with_reducible refine (ca _ (below_drewN hb1 m)).mono ?_); rintro e w3 ⟨rfl, hb3⟩))
    go_ret
    exact ⟨rfl, HB.out _ hb3⟩
set_option maxHeartbeats 8000000 in
set_option maxRecDepth 20000 in
/-- where there is no journal -/
theorem walk_bad (g : Geo) (x : Option Addr) (n cx : Nat) (V : List Nat) (a0 : Option Addr) (cap : Nat) (l : List JAct) (w : World) (hr : Reads .u32 w x n V) (hV : ∀ y ∈ V, y < 4294967296) (ac : JActs w a0 l) (hsm : drive.Small g) (hbig : bigL l = false) (hn : n ≤ 100) (hb : loadB V = false) :
    Calls Tryz.prog 3 #[.agg #[.int .i64 g.sector, .int .i64 g.slot, .int .i64 g.data, .int .i64 g.quota, .int .i64 g.tries, .int .i64 g.life], .slice x n cx, .slice a0 l.length cap] w (Yes w) := by
  obtain ⟨hl1, hl2⟩ := not_big hbig
  have HS := hid (six g w)
  have HB := hid (belowNew g w)
  have hal : Below w.heap.size w (w.alloc (.cells #[.int .i64 g.sector, .int .i64 g.slot, .int .i64 g.data, .int .i64 g.quota, .int .i64 g.tries, .int .i64 g.life] 23)) := (Below.refl _ _).alloc (Nat.le_refl _) _
  have hac := ac.below hal
  have hrd := hr.below hal
  obtain ⟨w0, hw0⟩ : ∃ x, Hid ((w.alloc (.cells #[.int .i64 g.sector, .int .i64 g.slot, .int .i64 g.data, .int .i64 g.quota, .int .i64 g.tries, .int .i64 g.life] 23)) = x) := ⟨_, rfl⟩
  rw [hw0.out] at HS HB hac hrd
  have hgr := fun w' (hb : Below w0.heap.size w0 w') => great_any a0 cap l w' (hac.below hb) (by unfold maxLen; omega)
  rw [hbig] at hgr
  have hb0 : Below w0.heap.size w0 w0 := Below.refl _ _
  have ca := fun w' hb => awake_at w0 w' hb
  have cs := small_from g true (hid ⟨fun _ => hsm, fun _ => rfl⟩) w0 w0 hb0
  have cb : ∀ w', Below w0.heap.size w0 w' → Calls Tryz.prog 9 #[.agg #[.int .i64 g.sector, .int .i64 g.slot, .int .i64 g.data, .int .i64 g.quota, .int .i64 g.tries, .int .i64 g.life], .slice x n cx] w' fun o w2 => ∃ b d, o = .returned (.tuple #[.agg #[.pointer (some ⟨b, 0, none⟩), .pointer (some ⟨d, 0, none⟩), .pointer none, .pointer none], .bool true]) ∧ Below w0.heap.size w0 w2 := fun w' hbb => (begin_bad g hsm.1 x n cx V w' (hrd.below hbb) hV (by omega) hb).mono fun e w2 ⟨b, d, h1, h2⟩ => ⟨b, d, h1, hbb.trans (h2.mono hbb.size)⟩
  have hnl : n = V.length := hr.1.symm
  have hcase : n < 1 ∨ 56 < n := by
    unfold loadB at hb
    have := of_decide_eq_false hb
    omega
  clear hal ac hac hrd hr hV hb hsm hl2 hbig hnl
  have hk0 := HS.out w0 hb0
  have i100 : ¬ ((100 : Int) < n) := by omega
  generalize l.length = N at *
  rcases hcase with h1 | h1
  · obtain rfl : n = 0 := by omega
    go_enter Tryz.func3, Tryz.ntmps3
    go_wp2_with fail
    rw [hw0.out]
    go_wp2_with (first
      | (go_at_call 6; (with_reducible refine cs.mono ?_); rintro e w1 ⟨rfl, hb1⟩; have hk1 := HS.out w1 hb1)
      | (go_at_call 7; (with_reducible refine (hgr _ hb1).mono ?_); rintro e w2 ⟨rfl, m, rfl⟩; have hb2 := below_drewN hb1 m; have hk2 := HS.out _ hb2)
      | (go_at_call 9; (with_reducible refine (cb _ hb2).mono ?_); rintro e w3 ⟨b, d, rfl, hb3⟩; have hb3' : Below w0.heap.size w0 (w3.alloc (.cells #[.pointer (some ⟨b, 0, none⟩), .pointer (some ⟨d, 0, none⟩), .pointer none, .pointer none] 34)) := hb3.alloc hb3.size _)
      | (go_at_call 8; (with_reducible refine (ca _ hb3').mono ?_); rintro e w4 ⟨rfl, hb4⟩))
    go_ret
    exact ⟨rfl, HB.out _ hb4⟩
  · have i1 : (56 : Int) < n := by omega
    have i2 : ¬ ((n : Int) < 1) := by omega
    go_enter Tryz.func3, Tryz.ntmps3
    go_wp2_with fail
    rw [hw0.out]
    go_wp2_with (first
      | (go_at_call 6; (with_reducible refine cs.mono ?_); rintro e w1 ⟨rfl, hb1⟩; have hk1 := HS.out w1 hb1)
      | (go_at_call 7; (with_reducible refine (hgr _ hb1).mono ?_); rintro e w2 ⟨rfl, m, rfl⟩; have hb2 := below_drewN hb1 m; have hk2 := HS.out _ hb2)
      | (go_at_call 9; (with_reducible refine (cb _ hb2).mono ?_); rintro e w3 ⟨b, d, rfl, hb3⟩; have hb3' : Below w0.heap.size w0 (w3.alloc (.cells #[.pointer (some ⟨b, 0, none⟩), .pointer (some ⟨d, 0, none⟩), .pointer none, .pointer none] 34)) := hb3.alloc hb3.size _)
      | (go_at_call 8; (with_reducible refine (ca _ hb3').mono ?_); rintro e w4 ⟨rfl, hb4⟩))
    go_ret
    exact ⟨rfl, HB.out _ hb4⟩
set_option maxHeartbeats 8000000 in
set_option maxRecDepth 20000 in
theorem walk_main (g : Geo) (x : Option Addr) (n cx : Nat) (V : List Nat) (a0 : Option Addr) (cap : Nat) (l : List JAct) (w : World) (hr : Reads .u32 w x n V) (hV : ∀ y ∈ V, y < 4294967296) (ac : JActs w a0 l) (fp : ∀ p ∈ l, p.Good w) (hsm : drive.Small g) (hbig : bigL l = false) (hn : n ≤ 100) (hb : loadB V = true) :
    Calls Tryz.prog 3 #[.agg #[.int .i64 g.sector, .int .i64 g.slot, .int .i64 g.data, .int .i64 g.quota, .int .i64 g.tries, .int .i64 g.life], .slice x n cx, .slice a0 l.length cap] w (Yes w) := by
  obtain ⟨hl1, hl2⟩ := not_big hbig
  have HS := hid (six g w)
  have HB := hid (belowNew g w)
  have hal : Below w.heap.size w (w.alloc (.cells #[.int .i64 g.sector, .int .i64 g.slot, .int .i64 g.data, .int .i64 g.quota, .int .i64 g.tries, .int .i64 g.life] 23)) := (Below.refl _ _).alloc (Nat.le_refl _) _
  have hac := ac.below hal
  have hrd := hr.below hal
  have hfp : ∀ p ∈ l, p.Good (w.alloc (.cells #[.int .i64 g.sector, .int .i64 g.slot, .int .i64 g.data, .int .i64 g.quota, .int .i64 g.tries, .int .i64 g.life] 23)) := fun p hp => (fp p hp).below hal
  obtain ⟨w0, hw0⟩ : ∃ x, Hid ((w.alloc (.cells #[.int .i64 g.sector, .int .i64 g.slot, .int .i64 g.data, .int .i64 g.quota, .int .i64 g.tries, .int .i64 g.life] 23)) = x) := ⟨_, rfl⟩
  rw [hw0.out] at HS HB hac hrd hfp
  have hgr := fun w' (hb : Below w0.heap.size w0 w') => great_any a0 cap l w' (hac.below hb) (by unfold maxLen; omega)
  rw [hbig] at hgr
  have hb0 : Below w0.heap.size w0 w0 := Below.refl _ _
  have ca := fun w' hb => awake_at w0 w' hb
  have cs := small_from g true (hid ⟨fun _ => hsm, fun _ => rfl⟩) w0 w0 hb0
  have cb := fun w' (hbb : Below w0.heap.size w0 w') => begin_this g hsm.1 x n cx V w' (hrd.below hbb) hV (by omega) hb
  have HRUN : Hid (∀ (w2 w3 : World) (b d j r e c : Nat) (F : Fl) (J : Jv), Below w0.heap.size w0 w2 → Duo2 w2 (fun x => x < w2.heap.size) j d b r e c g F J F J w3 → Inv F g J → F.dark = false → F.count ≤ 100 → Calls Tryz.prog 10 #[.agg #[.pointer (some ⟨b, 0, none⟩), .pointer (some ⟨d, 0, none⟩), .pointer (some ⟨j, 0, none⟩), .pointer (some ⟨r, 0, none⟩)], .slice a0 l.length cap] w3 fun o w' => ∃ j2 r2, o = .returned (.tuple #[.agg #[.pointer (some ⟨b, 0, none⟩), .pointer (some ⟨d, 0, none⟩), .pointer (some ⟨j2, 0, none⟩), .pointer (some ⟨r2, 0, none⟩)], .bool true]) ∧ Below w0.heap.size w0 w') := hid fun w2 w3 b d j r e c F J hb2 D inv hd hc =>
    (run_this D inv hd (by omega) a0 cap l (hac.below hb2) (fun p hp => (hfp p hp).below hb2) hbig).mono fun o w' ⟨j2, r2, F2, J2, h1, h2, _, _, _, _⟩ => ⟨j2, r2, h1, hb2.trans (h2.below.mono hb2.size)⟩
  clear hal ac fp hac hrd hfp hr hV hb hsm hl2 hbig
  have hk0 := HS.out w0 hb0
  have i100 : ¬ ((100 : Int) < n) := by omega
  generalize l.length = N at *
  go_enter Tryz.func3, Tryz.ntmps3
  go_wp2_with fail
  rw [hw0.out]
  go_wp2_with (first
    | (go_at_call 6; (with_reducible refine cs.mono ?_); rintro e w1 ⟨rfl, hb1⟩; have hk1 := HS.out w1 hb1)
    | (go_at_call 7; (with_reducible refine (hgr _ hb1).mono ?_); rintro e w2 ⟨rfl, m, rfl⟩; have hb2 := below_drewN hb1 m; have hk2 := HS.out _ hb2)
    | (go_at_call 9; (with_reducible refine (cb _ hb2).mono ?_); rintro o w3 ⟨b, d, j, r, e, c, F, rfl, D3, inv, hd, hct, hf, hb3⟩; have cr := HRUN.out _ _ b d j r e c F _ hb2 (D3.later ((Below.refl _ _).alloc (Nat.le_refl _) (.cells #[.pointer (some ⟨b, 0, none⟩), .pointer (some ⟨d, 0, none⟩), .pointer (some ⟨j, 0, none⟩), .pointer (some ⟨r, 0, none⟩)] 34))) inv hd hct; clear D3 inv hd hct hf)
    | (go_at_call 10; (with_reducible refine cr.mono ?_); rintro o w4 ⟨j2, r2, rfl, hb4⟩)
    | (go_at_call 8; (with_reducible refine (ca _ hb4).mono ?_); rintro e w5 ⟨rfl, hb5⟩))
  go_ret
  exact ⟨rfl, HB.out _ hb5⟩
theorem walk (g : Geo) (x : Option Addr) (n cx : Nat) (V : List Nat) (a0 : Option Addr) (cap : Nat) (l : List JAct) (w : World) (hg : g.Fits) (hr : Reads .u32 w x n V) (hV : ∀ y ∈ V, y < 4294967296) (lx : n ≤ cx) (cx2 : cx * 4 ≤ 140737488351232) (ac : JActs w a0 l) (fp : ∀ p ∈ l, p.Good w) (lc : l.length ≤ cap) (cm : cap ≤ maxLen) :
    Calls Tryz.prog 3 #[.agg #[.int .i64 g.sector, .int .i64 g.slot, .int .i64 g.data, .int .i64 g.quota, .int .i64 g.tries, .int .i64 g.life], .slice x n cx, .slice a0 l.length cap] w (Yes w) := by
  have hd : drive.Small g ∨ ¬ drive.Small g := Classical.em _
  rcases hd with hs | hs
  · cases hb : bigL l with
    | true => exact walk_awake g x n cx a0 cap l w ac (by omega) (by unfold maxLen; omega) (.inr (.inl ⟨hs, hb⟩))
    | false =>
      by_cases hn : n ≤ 100
      · cases hlb : loadB V with
        | true => exact walk_main g x n cx V a0 cap l w hr hV ac fp hs hb hn hlb
        | false => exact walk_bad g x n cx V a0 cap l w hr hV ac hs hb hn hlb
      · exact walk_awake g x n cx a0 cap l w ac (by omega) (by unfold maxLen; omega) (.inr (.inr ⟨hs, hb, by omega⟩))
  · exact walk_awake g x n cx a0 cap l w ac (by omega) (by unfold maxLen; omega) (.inl hs)
end Go.Proofs.YtphifanacehppaaGreat.journalPlays
