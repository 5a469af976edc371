/- Contracts and lemmas that the claims of this seat share: DriveAwake, GeomOpen. Each says its own conditions. -/
import Derived.Test.YtcigijhoeghnnaaCmF
import Derived.Deep.RegionHeld3
import Derived.Test.YtcigijhoeghnnaaCmA
import Derived.Deep.Slices
import Derived.Deep.Strs
import Derived.Lib.SmallJoins
/- Contract of the law file's function awake of layer 9: it returns true. No condition. -/
namespace Go.Proofs.Ytcigijhoeghnnaa.drive
open Go.RowKit Go.Proofs.Ytcigijhoeghnnaa.flash Go.Proofs.Ytcigijhoeghnnaa.geom Go.Proofs.Ytcigijhoeghnnaa.word
set_option linter.unusedVariables false

def own9 : Geo := ⟨64, 2, 5, 2, 1, 9⟩
theorem own9_right : own9.Right := by decide
def B0 : Fl := first own9
def B1 : Fl := (write B0 own9 1 2 [5]).2
def B2 : Fl := (write B1 own9 1 2 [5]).2
def B3 : Fl := (write B2 own9 1 2 [7]).2
theorem b0_ok : B0.Ok := first_ok own9_right
theorem b0_fit : Fit B0 own9 := first_fit own9_right
theorem b1_st : Step B0 B1 1 := write_step b0_ok own9 1 2 (by decide)
theorem b2_st : Step B1 B2 1 := write_step b1_st.ok own9 1 2 (by decide)
theorem b3_st : Step B2 B3 1 := write_step b2_st.ok own9 1 2 (by decide)
theorem eq_own9 (W : World) : (binOp .eql 23 (.agg #[.int .i64 64, .int .i64 2, .int .i64 5, .int .i64 2, .int .i64 1, .int .i64 9]) (.agg #[.int .i64 64, .int .i64 2, .int .i64 5, .int .i64 2, .int .i64 1, .int .i64 9])).run Try.prog W = .ok (.bool true) W := by kernel_rfl
set_option maxHeartbeats 4000000 in
set_option maxRecDepth 20000 in
theorem awake_any (w : World) : Calls Try.prog 8 #[] w (Yes w) := by
  have HS : Hid (∀ w', Below (w.alloc (.cells #[.int .i64 64, .int .i64 2, .int .i64 5, .int .i64 2, .int .i64 1, .int .i64 9] 23)).heap.size (w.alloc (.cells #[.int .i64 64, .int .i64 2, .int .i64 5, .int .i64 2, .int .i64 1, .int .i64 9] 23)) w' → (w'.cell? ⟨w.heap.size, 0, none⟩ = some (.int .i64 64) ∧ w'.cell? ⟨w.heap.size, 1, none⟩ = some (.int .i64 2) ∧ w'.cell? ⟨w.heap.size, 2, none⟩ = some (.int .i64 5) ∧ w'.cell? ⟨w.heap.size, 3, none⟩ = some (.int .i64 2) ∧ w'.cell? ⟨w.heap.size, 4, none⟩ = some (.int .i64 1) ∧ w'.cell? ⟨w.heap.size, 5, none⟩ = some (.int .i64 9))) := hid (six own9 w)
  have HB : Hid (∀ w', Below (w.alloc (.cells #[.int .i64 64, .int .i64 2, .int .i64 5, .int .i64 2, .int .i64 1, .int .i64 9] 23)).heap.size (w.alloc (.cells #[.int .i64 64, .int .i64 2, .int .i64 5, .int .i64 2, .int .i64 1, .int .i64 9] 23)) w' → Below w.heap.size w w') := hid (belowNew own9 w)
  obtain ⟨w0, hw0⟩ : ∃ x, Hid ((w.alloc (.cells #[.int .i64 64, .int .i64 2, .int .i64 5, .int .i64 2, .int .i64 1, .int .i64 9] 23)) = x) := ⟨_, rfl⟩
  rw [hw0.out] at HS HB
  have c0 : ∀ w1, Below w0.heap.size w0 w1 → Calls Try.prog 10 #[.int .i64 11, .int .i64 64] w1 fun e w' => ∃ b, e = .returned (.tuple #[.pointer (some ⟨b, 0, none⟩), .int .i64 0]) ∧ Live w0 b B0 w' := fun w1 hb => by
    have := flash_own own9_right hb
    rwa [show own9.sectors = 11 by decide] at this
  have c1 : ∀ b w1, Live w0 b B0 w1 → Calls Try.prog 11 #[.pointer (some ⟨b, 0, none⟩), .agg #[.int .i64 64, .int .i64 2, .int .i64 5, .int .i64 2, .int .i64 1, .int .i64 9]] w1 fun e w' => ∃ d, e = .returned (.tuple #[.pointer (some ⟨d, 0, none⟩), .int .i64 0]) ∧ Own w0 d b own9 B0 w' := fun b w1 h => new_own h b0_fit
  have c2 : ∀ d b w1, Own w0 d b own9 B0 w1 → Calls Try.prog 21 #[.pointer (some ⟨d, 0, none⟩), .int .i64 1, .int .i64 2, .slice (some ⟨w1.heap.size, 0, none⟩) 1 1] (w1.alloc (.cells #[.int .u32 5] 55)) fun e w' => e = .returned (.int .i64 0) ∧ Own w0 d b own9 B1 w' := fun d b w1 h => by
    have := own_write1 h b0_ok b0_fit (by decide) 1 2 (by decide) 5 (by decide)
    rwa [show (write B0 own9 1 2 [5]).1 = 0 by decide +kernel] at this
  have c3 : ∀ d b w1, Own w0 d b own9 B1 w1 → Calls Try.prog 21 #[.pointer (some ⟨d, 0, none⟩), .int .i64 1, .int .i64 2, .slice (some ⟨w1.heap.size, 0, none⟩) 1 1] (w1.alloc (.cells #[.int .u32 5] 55)) fun e w' => e = .returned (.int .i64 0) ∧ Own w0 d b own9 B2 w' := fun d b w1 h => by
    have := own_write1 h b1_st.ok (b0_fit.like b1_st.like) (by decide +kernel) 1 2 (by decide) 5 (by decide)
    rwa [show (write B1 own9 1 2 [5]).1 = 0 by decide +kernel] at this
  have c4 : ∀ d b w1, Own w0 d b own9 B2 w1 → Calls Try.prog 21 #[.pointer (some ⟨d, 0, none⟩), .int .i64 1, .int .i64 2, .slice (some ⟨w1.heap.size, 0, none⟩) 1 1] (w1.alloc (.cells #[.int .u32 7] 55)) fun e w' => e = .returned (.int .i64 11) ∧ Own w0 d b own9 B3 w' := fun d b w1 h => by
    have := own_write1 h b2_st.ok ((b0_fit.like b1_st.like).like b2_st.like) (by decide +kernel) 1 2 (by decide) 7 (by decide)
    rwa [show (write B2 own9 1 2 [7]).1 = 11 by decide +kernel] at this
  have hcount : B3.count = 1 := by decide +kernel
  have HC := hid hcount
  have heq := eq_own9
  clear hcount
  go_enter Try.func8, Try.ntmps8
  go_wp2_with fail
  rw [hw0.out]
  have hb0 : Below w0.heap.size w0 w0 := Below.refl _ _
  have hk0 := HS.out w0 hb0
  go_wp2_with (first
    | (go_at_call 10; (with_reducible refine (c0 _ hb0).mono ?_); rintro e w1 ⟨b, rfl, h1⟩; have hk1 := HS.out w1 h1.below)
    | (go_at_call 11; (with_reducible refine (c1 _ _ h1).mono ?_); clear h1; rintro e w2 ⟨d, rfl, h2⟩; have hk2 := HS.out w2 h2.below)
    | (go_at_call 21; (with_reducible refine (c2 _ _ _ h2).mono ?_); clear h2; rintro e w3 ⟨rfl, h3⟩)
    | (go_at_call 21; (with_reducible refine (c3 _ _ _ h3).mono ?_); clear h3; rintro e w4 ⟨rfl, h4⟩)
    | (go_at_call 21; (with_reducible refine (c4 _ _ _ h4).mono ?_); clear h4; rintro e w5 ⟨rfl, h5⟩; have hk5 := HS.out w5 h5.below))
  have HK : Hid (∀ w', Below w5.heap.size w5 w' → (w'.cell? ⟨w.heap.size, 0, none⟩ = some (.int .i64 64) ∧ w'.cell? ⟨w.heap.size, 1, none⟩ = some (.int .i64 2) ∧ w'.cell? ⟨w.heap.size, 2, none⟩ = some (.int .i64 5) ∧ w'.cell? ⟨w.heap.size, 3, none⟩ = some (.int .i64 2) ∧ w'.cell? ⟨w.heap.size, 4, none⟩ = some (.int .i64 1) ∧ w'.cell? ⟨w.heap.size, 5, none⟩ = some (.int .i64 9))) := hid (fun w' hb => HS.out w' (h5.below.trans (hb.mono h5.below.size)))
  have HB5 : Hid (∀ w', Below w5.heap.size w5 w' → Below w.heap.size w w') := hid (fun w' hb => HB.out w' (h5.below.trans (hb.mono h5.below.size)))
  have cw : ∀ w', Below w5.heap.size w5 w' → Calls Try.prog 16 #[.pointer (some ⟨b, 0, none⟩)] w' fun e w2 => e = .returned (.int .i64 1) ∧ Below w5.heap.size w5 w2 := fun w' hb => by
    have := (h5.later hb).writes
    rw [HC.out] at this
    refine this.mono ?_
    rintro e w2 ⟨he, n, rfl⟩
    exact ⟨he, below_drewN hb n⟩
  have cg : ∀ w', Below w5.heap.size w5 w' → Calls Try.prog 24 #[.pointer (some ⟨d, 0, none⟩)] w' fun e w2 => e = .returned (.agg #[.int .i64 64, .int .i64 2, .int .i64 5, .int .i64 2, .int .i64 1, .int .i64 9]) ∧ Below w5.heap.size w5 w2 := fun w' hb =>
    ((h5.later hb).geometry).mono fun _ _ ⟨he, hw⟩ => ⟨he, hb.trans (hw.mono hb.size)⟩
  have hB0 : Below w5.heap.size w5 w5.drew := below_drewN (Below.refl _ _) 1
  have hk6 := HK.out _ hB0
  clear h5 c0 c1 c2 c3 c4 hk0 hk1 hk2 hw0
  go_region_held3 (fun w' => (w'.cell? ⟨w.heap.size, 0, none⟩ = some (.int .i64 64) ∧ w'.cell? ⟨w.heap.size, 1, none⟩ = some (.int .i64 2) ∧ w'.cell? ⟨w.heap.size, 2, none⟩ = some (.int .i64 5) ∧ w'.cell? ⟨w.heap.size, 3, none⟩ = some (.int .i64 2) ∧ w'.cell? ⟨w.heap.size, 4, none⟩ = some (.int .i64 1) ∧ w'.cell? ⟨w.heap.size, 5, none⟩ = some (.int .i64 9))) (first | assumption | go_keep) (first
    | (go_at_call 16; (with_reducible refine (cw _ hB0).mono ?_); rintro e w7 ⟨rfl, hB1⟩; have hk7 := HK.out w7 hB1)
    | (go_at_call 24; (with_reducible refine (cg _ hB1).mono ?_); rintro e w8 ⟨rfl, hB2⟩; have hk8 := HK.out w8 hB2))
  go_wp2
  go_ret
  exact ⟨rfl, HB5.out _ hB2⟩
theorem awake_at (w0 w : World) (hb : Below w0.heap.size w0 w) : Calls Try.prog 8 #[] w fun e w' => e = .returned (.bool true) ∧ Below w0.heap.size w0 w' :=
  (awake_any w).mono fun _ _ ⟨he, hw⟩ => ⟨he, hb.trans (hw.mono hb.size)⟩
end Go.Proofs.Ytcigijhoeghnnaa.drive
/- What a geometry that came in reads as. No condition. -/
namespace Go.Proofs.Ytcigijhoeghnnaa.geom
open Go.ChangeShapes Go.WideShapes Go.ChangeAt Go.RowKit Go.Deep
set_option linter.unusedVariables false

section
variable {H : Type} {enc : TypeId × Value → H} {P : Program} {W : World}
/-- each field fits its kind -/
structure Geo.Fits (g : Geo) : Prop where
  sector : -9223372036854775808 ≤ g.sector ∧ g.sector ≤ 9223372036854775807
  slot : -9223372036854775808 ≤ g.slot ∧ g.slot ≤ 9223372036854775807
  data : -9223372036854775808 ≤ g.data ∧ g.data ≤ 9223372036854775807
  quota : -9223372036854775808 ≤ g.quota ∧ g.quota ≤ 9223372036854775807
  tries : -9223372036854775808 ≤ g.tries ∧ g.tries ≤ 9223372036854775807
  life : -9223372036854775808 ≤ g.life ∧ g.life ≤ 9223372036854775807
theorem open_geo_arg {r : Reach} {b0 : Nat} {t : TypeId} {f0 f1 f2 f3 f4 f5 : Field} {v : Value} {d : DataW H} {pl : List MemPlace} (hs : P.underlying t = some (.struct #[f0, f1, f2, f3, f4, f5])) (hone : oneCellFields P #[f0, f1, f2, f3, f4, f5] = true) (hC : P.cellsOf t = 6)
    (hu : ∀ f ∈ [f0, f1, f2, f3, f4, f5], P.underlying f.type = some (.int .i64)) (hv : Value.okWide P W r b0 t v) (h : DataW.Trod enc P W 0 (fun _ => true) true t v d pl) : ∃ g : Geo, g.Fits ∧ v = .agg #[.int .i64 g.sector, .int .i64 g.slot, .int .i64 g.data, .int .i64 g.quota, .int .i64 g.tries, .int .i64 g.life] := by
  obtain ⟨cs, rfl, hsz⟩ := okWide_struct hs hv
  obtain ⟨fuel, hf⟩ := h
  rw [hC] at hsz
  obtain ⟨l⟩ := cs
  match l, hsz with
  | [c0, c1, c2, c3, c4, c5], _ =>
    obtain ⟨ys, n, _, _, hl, hlen, hx⟩ := DataW.trod_struct hs hf
    have each : ∀ (i : Nat) (f : Field) (c : Value), #[f0, f1, f2, f3, f4, f5][i]? = some f → [c0, c1, c2, c3, c4, c5][i]? = some c → ∃ x : Int, c = .int .i64 x ∧ -9223372036854775808 ≤ x ∧ x ≤ 9223372036854775807 := by
      intro i f c hi hc
      obtain ⟨o, k⟩ := hone_of hone i f hi
      have hi6 : i < 6 := by have := (Array.getElem?_eq_some_iff.1 hi).1; simpa using this
      have h1 := hx i f hi
      rw [o, k] at h1
      have e : (((Value.agg ⟨[c0, c1, c2, c3, c4, c5]⟩).cells.toList.drop i).take 1) = [c] := by
        rw [List.take_one]
        have : ((Value.agg ⟨[c0, c1, c2, c3, c4, c5]⟩).cells.toList.drop i).head? = some c := by
          rw [List.head?_drop]; simpa [Value.cells] using hc
        rw [this]; rfl
      rw [e] at h1
      have hy : ys[i]? = some (ys[i]'(by rw [hlen]; exact hi6)) := List.getElem?_eq_getElem _
      rw [hy] at h1
      obtain ⟨x, hx1, _, hw⟩ := DataW.trod_int (hu f (by have := Array.mem_of_getElem? hi; simpa using this)) h1
      exact ⟨x, by simpa using hx1, wf_i64 _ hw⟩
    obtain ⟨x0, rfl, b0⟩ := each 0 f0 c0 rfl rfl
    obtain ⟨x1, rfl, b1⟩ := each 1 f1 c1 rfl rfl
    obtain ⟨x2, rfl, b2⟩ := each 2 f2 c2 rfl rfl
    obtain ⟨x3, rfl, b3⟩ := each 3 f3 c3 rfl rfl
    obtain ⟨x4, rfl, b4⟩ := each 4 f4 c4 rfl rfl
    obtain ⟨x5, rfl, b5⟩ := each 5 f5 c5 rfl rfl
    exact ⟨⟨x0, x1, x2, x3, x4, x5⟩, ⟨b0, b1, b2, b3, b4, b5⟩, rfl⟩
end
end Go.Proofs.Ytcigijhoeghnnaa.geom
