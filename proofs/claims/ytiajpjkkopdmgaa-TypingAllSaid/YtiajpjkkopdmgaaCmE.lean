/- Contracts and lemmas that the claims of this seat share: BitsLen, FieldTop, FieldSize, SchemaLong, SchemaFields, SchemaFine, SchemaFirst, SchemaRight, FormRow, SchemaAt, SchemaForm. Each says its own conditions. -/
import Derived.Test.YtiajpjkkopdmgaaCmD
import Derived.Test.YtiajpjkkopdmgaaCmB
import Derived.IntWalk
import Derived.Handy
import Derived.Test.YtiajpjkkopdmgaaCmA
import Derived.Conc.WalkWords
import Derived.Deep.RegionHeld3

namespace Go.Proofs.Ytiajpjkkopdmgaa.field
open Go.RowKit
set_option linter.unusedVariables false

theorem dec_no {p : Prop} [Decidable p] (h : ¬ p) : decide p = false := decide_eq_false h
theorem wrap_u8 {x : Int} {n : Nat} (h : x = (n : Int)) (hn : n < 256) : IntKind.u8.wrap x = (n : Int) := by subst h; simp [IntKind.wrap, IntKind.bits, IntKind.signed]; omega
theorem len_sum {q : Nat} (a : Int) (h0 : 0 ≤ a) (ha : a ≤ 40) (hq : q ≤ 8) : wrap64 (a + wrap64 (q : Int)) = a + (q : Int) := by
  rw [IntWalk.wrap64_in (q : Int) (by omega), IntWalk.wrap64_in _ (by omega)]
theorem len_one {q : Nat} (hq : q ≤ 8) : wrap64 (wrap64 (q : Int)) = (q : Int) := by
  rw [IntWalk.wrap64_in (q : Int) (by omega), IntWalk.wrap64_in _ (by omega)]
set_option maxRecDepth 1000000 in
set_option maxHeartbeats 4000000 in
theorem len64_any (x : Nat) (hx : x < 281474976710656) (w : World) :
    Calls Try.prog 114 #[.int .u64 (x : Int)] w fun e w' => ∃ L : Nat, e = .returned (.int .i64 (L : Int)) ∧ L ≤ 64 ∧ (L + 7) / 8 = wide x ∧ ∃ n, w' = w.drewN n := by
  go_enter Try.func114, Try.ntmps114
  generalize hT : ByteArray.mk _ = T
  have hs : T.size = 256 := by rw [← hT]; decide +kernel
  have ht0 : ∀ i : Fin 256, (T.data.getD i.val 0).toNat ≤ 8 ∧ ((T.data.getD i.val 0).toNat = 0 ↔ i.val = 0) := by rw [← hT]; decide +kernel
  have ht : ∀ (i : Nat) (h : i < T.size), i < 256 → (T[i]'h).toNat ≤ 8 ∧ ((T[i]'h).toNat = 0 ↔ i = 0) := fun i h hi => by
    have := ht0 ⟨i, hi⟩
    have h' : i < T.data.size := h
    simp only [Array.getD, h', dif_pos] at this
    exact this
  have HT := hid ht
  have HS := hid hs
  have hT1 : ∀ i : Nat, i < 256 → (i : Int) < T.size := fun i hi => by rw [hs]; omega
  have HT1 := hid hT1
  have HX := hid hx
  clear hT hs ht ht0 hT1 hx
  by_cases c0 : x < 256
  · have hw : wide x = if x = 0 then 0 else 1 := by unfold wide; rw [if_pos c0]
    have HW := hid hw
    obtain ⟨y, hy⟩ : ∃ y, Hid (x / 1 = y) := ⟨_, rfl⟩
    have hy256 : y < 256 := by have := hy.out; have := HX.out; omega
    have j0 : (0 : Int) ≤ (y : Int) := by omega
    have j1 := HT1.out y hy256
    have t4294967296 : ¬ (x : Int) ≥ 4294967296 := by have := HX.out; omega
    have u4294967296 := dec_no t4294967296
    have t65536 : ¬ (x : Int) ≥ 65536 := by have := HX.out; omega
    have u65536 := dec_no t65536
    have t256 : ¬ (x : Int) ≥ 256 := by have := HX.out; omega
    have u256 := dec_no t256
    have hwr : IntKind.u8.wrap ((x : Int)) = (y : Int) := wrap_u8 (by have := hy.out; omega) hy256
    clear hw
    clear c0
    go_wp2
    go_ret
    have b := HT.out y (by have := HS.out; omega) hy256
    refine ⟨0 + (T[y]'(by have := HS.out; omega)).toNat, ret_int ((len_one b.1).trans (by omega)), by omega, ?_, 0, rfl⟩
    rw [HW.out]
    have := hy.out
    split <;> omega
  by_cases c1 : x < 65536
  · have hw : wide x = 2 := by have := HX.out; unfold wide; rw [if_neg (by omega)]; rw [if_neg (by omega)]; rw [if_pos (by omega)]
    have HW := hid hw
    obtain ⟨y, hy⟩ : ∃ y, Hid (x / 256 = y) := ⟨_, rfl⟩
    have hy256 : y < 256 := by have := hy.out; have := HX.out; omega
    have j0 : (0 : Int) ≤ (y : Int) := by omega
    have j1 := HT1.out y hy256
    have t4294967296 : ¬ (x : Int) ≥ 4294967296 := by have := HX.out; omega
    have u4294967296 := dec_no t4294967296
    have t65536 : ¬ (x : Int) ≥ 65536 := by have := HX.out; omega
    have u65536 := dec_no t65536
    have t256 : (x : Int) ≥ 256 := by have := HX.out; omega
    have hwr : IntKind.u8.wrap ((x : Int) / 256) = (y : Int) := wrap_u8 (by have := hy.out; omega) hy256
    clear hw
    clear c0 c1
    go_wp2
    go_ret
    have b := HT.out y (by have := HS.out; omega) hy256
    refine ⟨8 + (T[y]'(by have := HS.out; omega)).toNat, ret_int ((len_sum 8 (by omega) (by omega) b.1).trans (by omega)), by omega, ?_, 0, rfl⟩
    rw [HW.out]
    have := hy.out
    omega
  by_cases c2 : x < 16777216
  · have hw : wide x = 3 := by have := HX.out; unfold wide; rw [if_neg (by omega)]; rw [if_neg (by omega)]; rw [if_neg (by omega)]; rw [if_pos (by omega)]
    have HW := hid hw
    obtain ⟨y, hy⟩ : ∃ y, Hid (x / 65536 = y) := ⟨_, rfl⟩
    have hy256 : y < 256 := by have := hy.out; have := HX.out; omega
    have j0 : (0 : Int) ≤ (y : Int) := by omega
    have j1 := HT1.out y hy256
    have t4294967296 : ¬ (x : Int) ≥ 4294967296 := by have := HX.out; omega
    have u4294967296 := dec_no t4294967296
    have t65536 : (x : Int) ≥ 65536 := by have := HX.out; omega
    have t256 : ¬ (x : Int) / 65536 ≥ 256 := by have := HX.out; omega
    have u256 := dec_no t256
    have hwr : IntKind.u8.wrap ((x : Int) / 65536) = (y : Int) := wrap_u8 (by have := hy.out; omega) hy256
    clear hw
    clear c0 c1 c2
    go_wp2
    go_ret
    have b := HT.out y (by have := HS.out; omega) hy256
    refine ⟨16 + (T[y]'(by have := HS.out; omega)).toNat, ret_int ((len_sum 16 (by omega) (by omega) b.1).trans (by omega)), by omega, ?_, 0, rfl⟩
    rw [HW.out]
    have := hy.out
    omega
  by_cases c3 : x < 4294967296
  · have hw : wide x = 4 := by have := HX.out; unfold wide; rw [if_neg (by omega)]; rw [if_neg (by omega)]; rw [if_neg (by omega)]; rw [if_neg (by omega)]; rw [if_pos (by omega)]
    have HW := hid hw
    obtain ⟨y, hy⟩ : ∃ y, Hid (x / 16777216 = y) := ⟨_, rfl⟩
    have hy256 : y < 256 := by have := hy.out; have := HX.out; omega
    have j0 : (0 : Int) ≤ (y : Int) := by omega
    have j1 := HT1.out y hy256
    have t4294967296 : ¬ (x : Int) ≥ 4294967296 := by have := HX.out; omega
    have u4294967296 := dec_no t4294967296
    have t65536 : (x : Int) ≥ 65536 := by have := HX.out; omega
    have t256 : (x : Int) / 65536 ≥ 256 := by have := HX.out; omega
    have hwr : IntKind.u8.wrap ((x : Int) / 65536 / 256) = (y : Int) := wrap_u8 (by have := hy.out; omega) hy256
    clear hw
    clear c0 c1 c2 c3
    go_wp2
    go_ret
    have b := HT.out y (by have := HS.out; omega) hy256
    refine ⟨24 + (T[y]'(by have := HS.out; omega)).toNat, ret_int ((len_sum 24 (by omega) (by omega) b.1).trans (by omega)), by omega, ?_, 0, rfl⟩
    rw [HW.out]
    have := hy.out
    omega
  by_cases c4 : x < 1099511627776
  · have hw : wide x = 5 := by have := HX.out; unfold wide; rw [if_neg (by omega)]; rw [if_neg (by omega)]; rw [if_neg (by omega)]; rw [if_neg (by omega)]; rw [if_neg (by omega)]; rw [if_pos (by omega)]
    have HW := hid hw
    obtain ⟨y, hy⟩ : ∃ y, Hid (x / 4294967296 = y) := ⟨_, rfl⟩
    have hy256 : y < 256 := by have := hy.out; have := HX.out; omega
    have j0 : (0 : Int) ≤ (y : Int) := by omega
    have j1 := HT1.out y hy256
    have t4294967296 : (x : Int) ≥ 4294967296 := by have := HX.out; omega
    have t65536 : ¬ (x : Int) / 4294967296 ≥ 65536 := by have := HX.out; omega
    have u65536 := dec_no t65536
    have t256 : ¬ (x : Int) / 4294967296 ≥ 256 := by have := HX.out; omega
    have u256 := dec_no t256
    have hwr : IntKind.u8.wrap ((x : Int) / 4294967296) = (y : Int) := wrap_u8 (by have := hy.out; omega) hy256
    clear hw
    clear c0 c1 c2 c3 c4
    go_wp2
    go_ret
    have b := HT.out y (by have := HS.out; omega) hy256
    refine ⟨32 + (T[y]'(by have := HS.out; omega)).toNat, ret_int ((len_sum 32 (by omega) (by omega) b.1).trans (by omega)), by omega, ?_, 0, rfl⟩
    rw [HW.out]
    have := hy.out
    omega
  have hw : wide x = 6 := by have := HX.out; unfold wide; rw [if_neg (by omega)]; rw [if_neg (by omega)]; rw [if_neg (by omega)]; rw [if_neg (by omega)]; rw [if_neg (by omega)]; rw [if_neg (by omega)]
  have HW := hid hw
  obtain ⟨y, hy⟩ : ∃ y, Hid (x / 1099511627776 = y) := ⟨_, rfl⟩
  have hy256 : y < 256 := by have := hy.out; have := HX.out; omega
  have j0 : (0 : Int) ≤ (y : Int) := by omega
  have j1 := HT1.out y hy256
  have t4294967296 : (x : Int) ≥ 4294967296 := by have := HX.out; omega
  have t65536 : ¬ (x : Int) / 4294967296 ≥ 65536 := by have := HX.out; omega
  have u65536 := dec_no t65536
  have t256 : (x : Int) / 4294967296 ≥ 256 := by have := HX.out; omega
  have hwr : IntKind.u8.wrap ((x : Int) / 4294967296 / 256) = (y : Int) := wrap_u8 (by have := hy.out; omega) hy256
  clear hw
  clear c0 c1 c2 c3 c4
  go_wp2
  go_ret
  have b := HT.out y (by have := HS.out; omega) hy256
  refine ⟨40 + (T[y]'(by have := HS.out; omega)).toNat, ret_int ((len_sum 40 (by omega) (by omega) b.1).trans (by omega)), by omega, ?_, 0, rfl⟩
  rw [HW.out]
  have := hy.out
  omega
theorem len_any (x : Nat) (hx : x < 281474976710656) (w : World) :
    Calls Try.prog 109 #[.int .u64 (x : Int)] w fun e w' => ∃ L : Nat, e = .returned (.int .i64 (L : Int)) ∧ L ≤ 64 ∧ (L + 7) / 8 = wide x ∧ ∃ n, w' = w.drewN n := by
  have cl := len64_any x hx
  have HX := hid hx
  clear hx
  go_enter Try.func109, Try.ntmps109
  go_wp2_with (go_at_call 114; (with_reducible refine (cl _).mono ?_); rintro e w' ⟨L, rfl, h1, h2, m, rfl⟩)
  go_ret
  exact ⟨L, rfl, h1, h2, m, rfl⟩
end Go.Proofs.Ytiajpjkkopdmgaa.field

namespace Go.Proofs.Ytiajpjkkopdmgaa.field
open Go.RowKit
set_option linter.unusedVariables false

theorem kinds {f : Fd} (h : f.Right) : f.kind = 1 ∨ f.kind = 2 ∨ f.kind = 3 ∨ f.kind = 4 := by unfold Fd.Right at h; omega
theorem greatest_any (f : Fd) (h : f.Right) (w : World) : Calls Try.prog 101 #[.agg #[.int .i64 f.id, .int .i64 f.kind, .int .i64 f.lo, .int .i64 f.hi, .int .i64 f.most]] w (Gives (.int .i64 f.great) w) := by
  have hk := kinds h
  have hs := h.span
  obtain ⟨i, k, lo, hi, m⟩ := f
  simp only at hk ⊢
  have hm : k = 3 → 1 ≤ m ∧ m ≤ 1000 := by intro h3; unfold Fd.Right at h; simp only at h; omega
  clear h hs
  unfold Gives
  rcases hk with rfl | rfl | rfl | rfl
  · rw [show Fd.great ⟨i, 1, lo, hi, m⟩ = hi from rfl]
    clear hm
    go_enter Try.func101, Try.ntmps101
    go_wp2
    go_ret
    exact ⟨rfl, newB _ _⟩
  · rw [show Fd.great ⟨i, 2, lo, hi, m⟩ = 1 from rfl]
    clear hm
    go_enter Try.func101, Try.ntmps101
    go_wp2
    go_ret
    exact ⟨rfl, newB _ _⟩
  · rw [show Fd.great ⟨i, 3, lo, hi, m⟩ = m - 1 from rfl]
    obtain ⟨m1, m2⟩ := hm rfl
    clear hm
    go_enter Try.func101, Try.ntmps101
    go_wp2
    go_ret
    exact ⟨rfl, newB _ _⟩
  · rw [show Fd.great ⟨i, 4, lo, hi, m⟩ = 0 from rfl]
    clear hm
    go_enter Try.func101, Try.ntmps101
    go_wp2
    go_ret
    exact ⟨rfl, newB _ _⟩
/-- the same, seen from an elder world -/
theorem gives_from {P : Program} {F : FuncId} {args : Array Value} {v : Value} {w0 w : World} (h : Calls P F args w (Gives v w)) (hb : Below w0.heap.size w0 w) : Calls P F args w fun e w' => e = .returned v ∧ Below w0.heap.size w0 w' :=
  h.mono fun _ _ ⟨he, hw⟩ => ⟨he, hb.trans (hw.mono hb.size)⟩
theorem top_any (f : Fd) (h : f.Right) (w : World) : Calls Try.prog 110 #[.agg #[.int .i64 f.id, .int .i64 f.kind, .int .i64 f.lo, .int .i64 f.hi, .int .i64 f.most]] w (Gives (.int .i64 (f.great - f.lo)) w) := by
  have HS := hid (five f w)
  have HB := hid (belowF f w)
  have hs := h.span
  have s1 := hs.1
  have s2 := hs.2.1
  have hb0 : Below (w.alloc (.cells #[.int .i64 f.id, .int .i64 f.kind, .int .i64 f.lo, .int .i64 f.hi, .int .i64 f.most] 26)).heap.size (w.alloc (.cells #[.int .i64 f.id, .int .i64 f.kind, .int .i64 f.lo, .int .i64 f.hi, .int .i64 f.most] 26)) (w.alloc (.cells #[.int .i64 f.id, .int .i64 f.kind, .int .i64 f.lo, .int .i64 f.hi, .int .i64 f.most] 26)).drew := below_drewN (Below.refl _ _) 1
  have cg := gives_from (greatest_any f h (w.alloc (.cells #[.int .i64 f.id, .int .i64 f.kind, .int .i64 f.lo, .int .i64 f.hi, .int .i64 f.most] 26)).drew) hb0
  have hk0 := HS.out _ hb0
  clear h hs
  unfold Gives
  generalize f.great = G at *
  go_enter Try.func110, Try.ntmps110
  go_wp2
  go_region_held3 (fun w' => (w'.cell? ⟨w.heap.size, 0, none⟩ = some (.int .i64 f.id) ∧ w'.cell? ⟨w.heap.size, 1, none⟩ = some (.int .i64 f.kind) ∧ w'.cell? ⟨w.heap.size, 2, none⟩ = some (.int .i64 f.lo) ∧ w'.cell? ⟨w.heap.size, 3, none⟩ = some (.int .i64 f.hi) ∧ w'.cell? ⟨w.heap.size, 4, none⟩ = some (.int .i64 f.most))) (first | assumption | go_keep) ((go_at_call 101; (with_reducible refine cg.mono ?_); rintro e w2 ⟨rfl, hb2⟩; have hk2 := HS.out w2 hb2))
  go_wp2
  go_ret
  exact ⟨ret_int (IntWalk.i64_in _ (by omega)), HB.out _ hb2⟩
end Go.Proofs.Ytiajpjkkopdmgaa.field

namespace Go.Proofs.Ytiajpjkkopdmgaa.field
open Go.RowKit
set_option linter.unusedVariables false

theorem size_any (f : Fd) (w : World) : Calls Try.prog 94 #[.agg #[.int .i64 f.id, .int .i64 f.kind, .int .i64 f.lo, .int .i64 f.hi, .int .i64 f.most]] w (Gives (.int .i64 (f.size : Int)) w) := by
  have HB := hid (belowF f w)
  have HS := hid (five f w)
  have hsz : f.size = if f.Right then (if f.kind = 4 then 1 + f.most.toNat else wide (f.great - f.lo).toNat) else 0 := rfl
  rw [hsz]
  have cr := gives_from (right_any f (w.alloc (.cells #[.int .i64 f.id, .int .i64 f.kind, .int .i64 f.lo, .int .i64 f.hi, .int .i64 f.most] 26))) (w0 := (w.alloc (.cells #[.int .i64 f.id, .int .i64 f.kind, .int .i64 f.lo, .int .i64 f.hi, .int .i64 f.most] 26))) (Below.refl _ _)
  by_cases hr : f.Right
  · rw [if_pos hr]
    rw [decide_eq_true hr] at cr
    have hk := kinds hr
    have hsp := hr.span
    obtain ⟨T, hT⟩ : ∃ T : Nat, f.great - f.lo = (T : Int) := ⟨(f.great - f.lo).toNat, by omega⟩
    have hTb : T ≤ 2199023255552 := by omega
    have ct := fun (w1 : World) (hb : Below (w.alloc (.cells #[.int .i64 f.id, .int .i64 f.kind, .int .i64 f.lo, .int .i64 f.hi, .int .i64 f.most] 26)).heap.size (w.alloc (.cells #[.int .i64 f.id, .int .i64 f.kind, .int .i64 f.lo, .int .i64 f.hi, .int .i64 f.most] 26)) w1) => gives_from (top_any f hr w1) hb
    rw [hT] at ct
    have cl := len_any T (by omega)
    rw [hT]
    have h4 : f.kind = 4 → 0 ≤ f.most ∧ f.most ≤ 32 := by intro h4; unfold Fd.Right at hr; omega
    have h2 : f.kind = 2 → f.great - f.lo = 1 := by intro h2; unfold Fd.Right at hr; unfold Fd.great; rw [h2]; simp; omega
    rw [hT] at h2
    clear hr hsp hsz hT
    obtain ⟨i, k, lo, hi, m⟩ := f
    simp only at hk h4 h2 HB HS cr ct ⊢
    rw [show ((T : Int)).toNat = T from rfl]
    unfold Gives
    have HT := hid hTb
    rcases hk with rfl | rfl | rfl | rfl
    · clear h4 h2
      rw [if_neg (by decide)]
      clear hTb
      have hu : IntKind.u64.wrap (T : Int) = (T : Int) := by have := HT.out; rw [IntWalk.u64_in _ (by omega)]
      go_enter Try.func94, Try.ntmps94
      go_wp2_with (first
        | (go_at_call 93; (with_reducible refine cr.mono ?_); rintro e w1 ⟨rfl, hb1⟩; have hk1 := HS.out _ hb1)
        | (go_at_call 110; (with_reducible refine (ct _ hb1).mono ?_); rintro e w2 ⟨rfl, hb2⟩)
        | (go_at_call 109; (with_reducible refine (cl _).mono ?_); rintro e w3 ⟨L, rfl, hL1, hL2, nd, rfl⟩; have HL := hid hL2; clear hL2))
      go_ret
      exact ⟨ret_int (by have := HL.out; omega), HB.out _ (below_drewN hb2 _)⟩
    · have hT1 : T = 1 := by have := h2 rfl; omega
      subst hT1
      clear h4 h2
      rw [if_neg (by decide), show wide 1 = 1 from rfl]
      go_enter Try.func94, Try.ntmps94
      go_wp2_with (go_at_call 93; (with_reducible refine cr.mono ?_); rintro e w1 ⟨rfl, hb1⟩; have hk1 := HS.out _ hb1)
      go_ret
      exact ⟨rfl, HB.out _ hb1⟩
    · clear h4 h2
      rw [if_neg (by decide)]
      clear hTb
      have hu : IntKind.u64.wrap (T : Int) = (T : Int) := by have := HT.out; rw [IntWalk.u64_in _ (by omega)]
      go_enter Try.func94, Try.ntmps94
      go_wp2_with (first
        | (go_at_call 93; (with_reducible refine cr.mono ?_); rintro e w1 ⟨rfl, hb1⟩; have hk1 := HS.out _ hb1)
        | (go_at_call 110; (with_reducible refine (ct _ hb1).mono ?_); rintro e w2 ⟨rfl, hb2⟩)
        | (go_at_call 109; (with_reducible refine (cl _).mono ?_); rintro e w3 ⟨L, rfl, hL1, hL2, nd, rfl⟩; have HL := hid hL2; clear hL2))
      go_ret
      exact ⟨ret_int (by have := HL.out; omega), HB.out _ (below_drewN hb2 _)⟩
    · obtain ⟨m1, m2⟩ := h4 rfl
      clear h4 h2
      rw [if_pos rfl]
      obtain ⟨M, rfl⟩ := Int.eq_ofNat_of_zero_le m1
      rw [show ((M : Int)).toNat = M from rfl]
      go_enter Try.func94, Try.ntmps94
      go_wp2_with (go_at_call 93; (with_reducible refine cr.mono ?_); rintro e w1 ⟨rfl, hb1⟩; have hk1 := HS.out _ hb1)
      go_ret
      exact ⟨ret_int (by omega), HB.out _ hb1⟩
  · rw [if_neg hr]
    rw [decide_eq_false hr] at cr
    clear hr hsz
    unfold Gives
    go_enter Try.func94, Try.ntmps94
    go_wp2_with (go_at_call 93; (with_reducible refine cr.mono ?_); rintro e w1 ⟨rfl, hb1⟩; have hk1 := HS.out _ hb1)
    go_ret
    exact ⟨rfl, HB.out _ hb1⟩
end Go.Proofs.Ytiajpjkkopdmgaa.field

namespace Go.Proofs.Ytiajpjkkopdmgaa.schema
open Go.RowKit
open Go.Proofs.Ytiajpjkkopdmgaa.field (Gives newB gives_from size_any)
set_option linter.unusedVariables false

theorem own_low {w : World} {B B' e size n : Nat} {v : Value} {xs : List Value} (h : w.ownsRow B e size v n xs) (hB : B' ≤ B) : w.ownsRow B' e size v n xs := by
  refine ⟨h.1, ?_⟩
  rcases h.2 with h0 | ⟨g, cap, cur, hv, hb, hg⟩
  · exact .inl h0
  · exact .inr ⟨g, cap, cur, hv, Nat.le_trans hB hb, hg⟩
theorem below_out {w w' : World} {d : Obj} (hb : Below (w.alloc d).heap.size (w.alloc d) w') : Below w.heap.size w w' := ((Below.refl _ _).alloc (Nat.le_refl _) _).trans (hb.mono (by simp))
/-- the cells of field k in a later world -/
theorem field_at {w w' : World} {a : Option Addr} {L : List field.Fd} (h : field.Fds w a L) (hb : Below w.heap.size w w') {k : Nat} (hk : k < L.length) :
    ∃ b off p, a = some ⟨b, off, none⟩ ∧ b < w'.heap.size ∧ L[k]? = some p ∧ w'.cell? ⟨b, off + k * 5, none⟩ = some (.int .i64 p.id) ∧ w'.cell? ⟨b, off + k * 5 + 1, none⟩ = some (.int .i64 p.kind) ∧ w'.cell? ⟨b, off + k * 5 + 2, none⟩ = some (.int .i64 p.lo) ∧ w'.cell? ⟨b, off + k * 5 + 3, none⟩ = some (.int .i64 p.hi) ∧ w'.cell? ⟨b, off + k * 5 + 4, none⟩ = some (.int .i64 p.most) := (h.below hb).at hk
theorem long_any (i : Int) (a : Option Addr) (cap : Nat) (L : List field.Fd) (w : World) (h : field.Fds w a L) (hL : L.length ≤ 40) :
    Calls Try.prog 68 #[.agg #[.int .i64 i, .slice a L.length cap]] w (Gives (.int .i64 (size L : Int)) w) := by
  have HO := hid (fun (w' : World) hb => below_out (w := w) (d := .cells #[.int .i64 i, .slice a L.length cap] 52) (w' := w') hb)
  have HF := hid (h.below (newB w (.cells #[.int .i64 i, .slice a L.length cap] 52)))
  obtain ⟨S, hS⟩ : ∃ S : Nat, Hid (size L = S) := ⟨_, rfl⟩
  rw [hS.out]
  unfold Gives
  clear h
  go_enter Try.func68, Try.ntmps68
  go_wp2
  go_loopw [3, 9] (fun s n wr => ∃ k : Nat, k ≤ L.length ∧ s = .int .i64 (size (L.take k) : Int) ∧ n = .int .i64 (k : Int) ∧ Hid (Below (w.alloc (.cells #[.int .i64 i, .slice a L.length cap] 52)).heap.size (w.alloc (.cells #[.int .i64 i, .slice a L.length cap] 52)) wr)) (fun _ n _ => L.length - (intOf n).toNat)
  case atStart => exact ⟨0, Nat.zero_le _, rfl, rfl, hid (Below.refl _ _)⟩
  case round =>
    obtain ⟨k, hk, rfl, rfl, HB⟩ := hrel
    by_cases hlt : k < L.length
    · obtain ⟨b, off, p, rfl, hbl, hp, c0, c1, c2, c3, c4⟩ := field_at HF.out HB.out hlt
      have i1 : (k : Int) < L.length := by omega
      have HP := hid hp
      have HSZ := hid (size_succ hp)
      have hst := size_take L k
      have hst2 := field.wide_le
      have cs := fun w' => size_any p w'
      have hps := fd_size_le p
      clear hp hst2
      generalize size (L.take k) = s at *
      go_wp2_with (go_at_call 94; ((with_reducible refine (cs _).mono ?_); rintro e w2 ⟨rfl, hb2⟩))
      exact ⟨⟨k + 1, by omega, by rw [HSZ.out]; go_num, by go_num, hid (HB.out.trans ((below_out hb2).mono HB.out.size))⟩, by simp [intOf]; omega⟩
    · obtain rfl : k = L.length := by omega
      go_wp2
      go_ret
      exact ⟨ret_int (by rw [← hS.out, List.take_of_length_le (Nat.le_refl _)]), HO.out _ HB.out⟩
end Go.Proofs.Ytiajpjkkopdmgaa.schema

namespace Go.Proofs.Ytiajpjkkopdmgaa.schema
open Go.RowKit
open Go.Proofs.Ytiajpjkkopdmgaa.field (Gives newB gives_from right_any)
set_option linter.unusedVariables false

theorem within_any (n lo hi : Int) (w : World) : Calls Try.prog 36 #[.int .i64 n, .int .i64 lo, .int .i64 hi] w (Gives (.bool (decide (lo ≤ n ∧ n ≤ hi))) w) := by
  obtain ⟨v, hv⟩ : ∃ v : Bool, Hid (decide (lo ≤ n ∧ n ≤ hi) = v) := ⟨_, rfl⟩
  rw [hv.out]
  unfold Gives
  by_cases h1 : lo ≤ n
  · by_cases h2 : n ≤ hi
    · obtain rfl : true = v := by rw [← hv.out]; simp [h1, h2]
      go_enter Try.func36, Try.ntmps36
      go_wp2
      go_ret
      exact ⟨rfl, Below.refl _ _⟩
    · obtain rfl : false = v := by rw [← hv.out]; simp [h1, h2]
      have hd : decide (n ≤ hi) = false := decide_eq_false h2
      go_enter Try.func36, Try.ntmps36
      go_wp2
      go_ret
      exact ⟨rfl, Below.refl _ _⟩
  · obtain rfl : false = v := by rw [← hv.out]; simp [h1]
    have hd : decide (lo ≤ n) = false := decide_eq_false h1
    go_enter Try.func36, Try.ntmps36
    go_wp2
    go_ret
    exact ⟨rfl, Below.refl _ _⟩

/-- the IDs seen so far, as an array -/
def seenV (l : List Int) : List Value := (List.range 256).map fun j : Nat => Value.bool (decide ((j : Int) ∈ l))
theorem seenV_at (l : List Int) (n : Nat) (h : n < 256) : (seenV l)[n]? = some (.bool (decide ((n : Int) ∈ l))) := by simp [seenV, h]
theorem seenV_set (l : List Int) (n : Nat) (h : n < 256) : (seenV l).set n (.bool true) = seenV (l ++ [(n : Int)]) := by
  apply List.ext_getElem?
  intro i
  rw [List.getElem?_set]
  by_cases hi : i < 256
  · rw [seenV_at _ i hi, seenV_at _ i hi]
    by_cases hn : n = i
    · subst hn; simp [seenV, h]
    · rw [if_neg hn]
      simp; omega
  · simp [seenV]
    simp [hi]
    omega
theorem seenV_zero : Try.zeroCells122 = (seenV []).toArray := by kernel_rfl
theorem fineFields_any (a : Option Addr) (cap : Nat) (L : List field.Fd) (w : World) (h : field.Fds w a L) (hL : L.length ≤ maxLen) :
    Calls Try.prog 67 #[.slice a L.length cap] w (Gives (.bool (decide (FineF L))) w) := by
  have hml : (L.length : Int) ≤ 9223372036854775807 := by unfold maxLen at hL; omega
  obtain ⟨v, hv⟩ : ∃ v : Bool, Hid (decide (FineF L) = v) := ⟨_, rfl⟩
  rw [hv.out]
  unfold Gives
  have HF := hid h
  have HZ : Hid (Block (w.alloc (.cells Try.zeroCells122 122)) w.heap.size 122 (seenV [])) := by rw [seenV_zero]; exact hid (Block.new w 122 (seenV []))
  have HN := hid (newB w (.cells Try.zeroCells122 122))
  clear h hL
  go_enter Try.func67, Try.ntmps67
  go_wp2
  generalize w.alloc (.cells Try.zeroCells122 122) = w1 at *
  obtain ⟨B, hB⟩ : ∃ B : Nat, Hid (w.heap.size = B) := ⟨_, rfl⟩
  rw [hB.out] at HZ ⊢
  go_loopw [8] (fun n wr => ∃ k : Nat, k ≤ L.length ∧ n = .int .i64 (k : Int) ∧ Hid (FineF (L.take k)) ∧ Hid (Block wr B 122 (seenV (ids (L.take k)))) ∧ Hid (Below w.heap.size w wr)) (fun n _ => L.length - (intOf n).toNat)
  case atStart => exact ⟨0, Nat.zero_le _, rfl, hid FineF.nil, HZ, HN⟩
  case round =>
    obtain ⟨k, hk, rfl, HOK, HBl, HB⟩ := hrel
    by_cases hlt : k < L.length
    · obtain ⟨b, off, p, rfl, hbl, hp, c0, c1, c2, c3, c4⟩ := field_at HF.out HB.out hlt
      have i1 : (k : Int) < L.length := by omega
      have HP := hid hp
      have HNO := hid (fineF_no hp)
      have HSUC := hid (fineF_succ hp)
      have HIDS : Hid (ids (L.take (k + 1)) = ids (L.take k) ++ [p.id]) := hid (by rw [take_succ_at hp]; simp [ids])
      have cs := fun w' => right_any p w'
      clear hp
      generalize hI : ids (L.take k) = I at *
      clear hI
      by_cases hr : p.Right
      · obtain ⟨n, hn⟩ := Int.eq_ofNat_of_zero_le hr.1.1
        have hn2 : n ≤ 255 := by have := hr.1.2; omega
        rw [decide_eq_true hr] at cs
        have HR := hid hr
        clear hr
        obtain ⟨q, qk, ql, qh, qm⟩ := p
        simp only at hn HNO HSUC HIDS HR c0 c1 c2 c3 c4 cs
        subst hn
        have hsd := seenV_at I n (by omega)
        by_cases hm : (n : Int) ∈ I
        · rw [decide_eq_true hm] at hsd
          obtain rfl : false = v := by rw [← hv.out]; exact (decide_eq_false (HNO.out (fun h => h.2 hm))).symm
          clear hm
          have H5 := hid (field.five ⟨n, qk, ql, qh, qm⟩ wr)
          go_wp2_with (go_at_call 93; ((with_reducible refine (cs _).mono ?_); rintro e w2 ⟨rfl, hb2⟩; have hc := ((HBl.out.alloc _).later hb2).cell n; rw [hsd] at hc; have z0 := (H5.out w2 hb2).1))
          go_ret
          exact ⟨rfl, HB.out.trans ((below_out hb2).mono HB.out.size)⟩
        · rw [decide_eq_false hm] at hsd
          have HM := hid hm
          clear hm
          have H5 := hid (field.five ⟨n, qk, ql, qh, qm⟩ wr)
          have HLT := hid (show w.heap.size ≤ B by rw [hB.out]; exact Nat.le_refl _)
          go_wp2_with (go_at_call 93; ((with_reducible refine (cs _).mono ?_); rintro e w2 ⟨rfl, hb2⟩; have hblk := (HBl.out.alloc _).later hb2; have hc := hblk.cell n; rw [hsd] at hc; have z0 := (H5.out w2 hb2).1; have hfz := hblk.frozen n; have HBK := hid hblk; clear hblk))
          refine ⟨⟨k + 1, by omega, by go_num, hid (HSUC.out.2 ⟨HOK.out, HR.out, HM.out⟩), hid ?_, hid ?_⟩, by simp [intOf]; omega⟩
          · have := HBK.out.setCell n (.bool true)
            rw [seenV_set _ _ (by omega)] at this
            rw [HIDS.out]; exact this
          · exact below_setCells (HB.out.trans ((below_out hb2).mono HB.out.size)) HLT.out n [.bool true]
      · obtain rfl : false = v := by rw [← hv.out]; exact (decide_eq_false (HNO.out (fun h => hr h.1))).symm
        rw [decide_eq_false hr] at cs
        clear hr
        go_wp2_with (go_at_call 93; ((with_reducible refine (cs _).mono ?_); rintro e w2 ⟨rfl, hb2⟩))
        go_ret
        exact ⟨rfl, HB.out.trans ((below_out hb2).mono HB.out.size)⟩
    · obtain rfl : k = L.length := by omega
      obtain rfl : true = v := by rw [← hv.out]; have := HOK.out; rw [List.take_of_length_le (Nat.le_refl _)] at this; exact (decide_eq_true this).symm
      go_wp2
      go_ret
      exact ⟨rfl, HB.out⟩
end Go.Proofs.Ytiajpjkkopdmgaa.schema

namespace Go.Proofs.Ytiajpjkkopdmgaa.schema
open Go.RowKit
open Go.Proofs.Ytiajpjkkopdmgaa.field (Gives newB gives_from)
set_option linter.unusedVariables false

/-- a form that has just been boxed stays -/
theorem boxM (i : Int) (a : Option Addr) (L : List field.Fd) (cap : Nat) (w w' : World) (hb : Below (w.alloc (.cells #[.int .i64 i, .slice a L.length cap] 52)).heap.size (w.alloc (.cells #[.int .i64 i, .slice a L.length cap] 52)) w') : w'.cell? ⟨w.heap.size, 0, none⟩ = some (.int .i64 i) ∧ w'.cell? ⟨w.heap.size, 1, none⟩ = some (.slice a L.length cap) ∧ Below w.heap.size w w' := by
  have hB := (Block.new w 52 [.int .i64 i, .slice a L.length cap]).later hb
  exact ⟨hB.cell 0, hB.cell 1, below_out hb⟩
/-- a call that gives v, from every later world -/
abbrev From (F : FuncId) (args : Array Value) (v : Value) (w0 : World) : Prop := ∀ w', Below w0.heap.size w0 w' → Calls Try.prog F args w' fun e w2 => e = .returned v ∧ Below w0.heap.size w0 w2
theorem from_all {F : FuncId} {args : Array Value} {v : Value} (w0 : World) (h : ∀ w', Calls Try.prog F args w' (Gives v w')) : From F args v w0 := fun w' hb => gives_from (h w') hb
theorem from_fields {F : FuncId} {args : Array Value} {v : Value} {a : Option Addr} {L : List field.Fd} {w0 : World} (hf : field.Fds w0 a L) (h : ∀ w', field.Fds w' a L → Calls Try.prog F args w' (Gives v w')) : From F args v w0 := fun w' hb => gives_from (h w' (hf.below hb)) hb
theorem within_from (n lo hi : Int) (w0 : World) (v : Bool) (h : decide (lo ≤ n ∧ n ≤ hi) = v) : From 36 #[.int .i64 n, .int .i64 lo, .int .i64 hi] (.bool v) w0 := from_all w0 (fun w' => h ▸ within_any n lo hi w')
theorem fine_any (i : Int) (a : Option Addr) (cap : Nat) (L : List field.Fd) (w : World) (h : field.Fds w a L) (hL : L.length ≤ maxLen) :
    Calls Try.prog 37 #[.agg #[.int .i64 i, .slice a L.length cap]] w (Gives (.bool (decide (Fine (i, L)))) w) := by
  have HX := hid (boxM i a L cap w)
  have HF := h.below (newB w (.cells #[.int .i64 i, .slice a L.length cap] 52))
  obtain ⟨v, hv⟩ : ∃ v : Bool, Hid (decide (Fine (i, L)) = v) := ⟨_, rfl⟩
  rw [hv.out]
  unfold Gives
  have cA := fun v h => within_from i 0 200 (w.alloc (.cells #[.int .i64 i, .slice a L.length cap] 52)) v h
  have cB := fun v h => within_from (L.length : Int) 1 8 (w.alloc (.cells #[.int .i64 i, .slice a L.length cap] 52)) v h
  have cC := from_fields HF (fun w' h' => fineFields_any a cap L w' h' hL)
  clear h
  by_cases h1 : 0 ≤ i ∧ i ≤ 200
  · replace cA := cA true (decide_eq_true h1)
    by_cases h2 : 1 ≤ L.length ∧ L.length ≤ 8
    · replace cB := cB true (decide_eq_true (by omega))
      have cD := from_fields HF (fun w' h' => long_any i a cap L w' h' (by omega))
      by_cases h3 : FineF L
      · rw [decide_eq_true h3] at cC
        have hsz := size_le L
        by_cases h4 : size L ≤ 64
        · obtain rfl : true = v := by rw [← hv.out]; exact (decide_eq_true ⟨h1, h2, h3, h4⟩).symm
          have hd : decide ((size L : Int) ≤ 64) = true := decide_eq_true (by omega)
          clear h3 HF
          generalize size L = s at *
          go_enter Try.func37, Try.ntmps37
          go_wp2_with (first
            | (go_at_call 36; ((with_reducible refine (cA _ (by first | exact Below.refl _ _ | assumption)).mono ?_); rintro e w2 ⟨rfl, hb2⟩; obtain ⟨z0, z1, hbo⟩ := HX.out _ hb2))
            | (go_at_call 36; ((with_reducible refine (cB _ (by first | exact Below.refl _ _ | assumption)).mono ?_); rintro e w2 ⟨rfl, hb2⟩; obtain ⟨z0, z1, hbo⟩ := HX.out _ hb2))
            | (go_at_call 67; ((with_reducible refine (cC _ (by first | exact Below.refl _ _ | assumption)).mono ?_); rintro e w2 ⟨rfl, hb2⟩; obtain ⟨z0, z1, hbo⟩ := HX.out _ hb2))
            | (go_at_call 68; ((with_reducible refine (cD _ (by first | exact Below.refl _ _ | assumption)).mono ?_); rintro e w2 ⟨rfl, hb2⟩; obtain ⟨z0, z1, hbo⟩ := HX.out _ hb2)))
          go_ret
          exact ⟨by first | rfl | exact ret_bool (by assumption), by assumption⟩
        · obtain rfl : false = v := by rw [← hv.out]; exact (decide_eq_false (fun h => h4 h.2.2.2)).symm
          have hd : decide ((size L : Int) ≤ 64) = false := decide_eq_false (by omega)
          clear h3 HF h4
          generalize size L = s at *
          go_enter Try.func37, Try.ntmps37
          go_wp2_with (first
            | (go_at_call 36; ((with_reducible refine (cA _ (by first | exact Below.refl _ _ | assumption)).mono ?_); rintro e w2 ⟨rfl, hb2⟩; obtain ⟨z0, z1, hbo⟩ := HX.out _ hb2))
            | (go_at_call 36; ((with_reducible refine (cB _ (by first | exact Below.refl _ _ | assumption)).mono ?_); rintro e w2 ⟨rfl, hb2⟩; obtain ⟨z0, z1, hbo⟩ := HX.out _ hb2))
            | (go_at_call 67; ((with_reducible refine (cC _ (by first | exact Below.refl _ _ | assumption)).mono ?_); rintro e w2 ⟨rfl, hb2⟩; obtain ⟨z0, z1, hbo⟩ := HX.out _ hb2))
            | (go_at_call 68; ((with_reducible refine (cD _ (by first | exact Below.refl _ _ | assumption)).mono ?_); rintro e w2 ⟨rfl, hb2⟩; obtain ⟨z0, z1, hbo⟩ := HX.out _ hb2)))
          go_ret
          exact ⟨by first | rfl | exact ret_bool (by assumption), by assumption⟩
      · obtain rfl : false = v := by rw [← hv.out]; exact (decide_eq_false (fun h => h3 h.2.2.1)).symm
        rw [decide_eq_false h3] at cC
        clear h3 HF cD
        go_enter Try.func37, Try.ntmps37
        go_wp2_with (first
          | (go_at_call 36; ((with_reducible refine (cA _ (by first | exact Below.refl _ _ | assumption)).mono ?_); rintro e w2 ⟨rfl, hb2⟩; obtain ⟨z0, z1, hbo⟩ := HX.out _ hb2))
          | (go_at_call 36; ((with_reducible refine (cB _ (by first | exact Below.refl _ _ | assumption)).mono ?_); rintro e w2 ⟨rfl, hb2⟩; obtain ⟨z0, z1, hbo⟩ := HX.out _ hb2))
          | (go_at_call 67; ((with_reducible refine (cC _ (by first | exact Below.refl _ _ | assumption)).mono ?_); rintro e w2 ⟨rfl, hb2⟩; obtain ⟨z0, z1, hbo⟩ := HX.out _ hb2))
          | (go_at_call 68; ((with_reducible refine (cD _ (by first | exact Below.refl _ _ | assumption)).mono ?_); rintro e w2 ⟨rfl, hb2⟩; obtain ⟨z0, z1, hbo⟩ := HX.out _ hb2)))
        go_ret
        exact ⟨by first | rfl | exact ret_bool (by assumption), by assumption⟩
    · obtain rfl : false = v := by rw [← hv.out]; exact (decide_eq_false (fun h => h2 h.2.1)).symm
      replace cB := cB false (decide_eq_false (by omega))
      clear HF cC h2
      go_enter Try.func37, Try.ntmps37
      go_wp2_with (first
        | (go_at_call 36; ((with_reducible refine (cA _ (by first | exact Below.refl _ _ | assumption)).mono ?_); rintro e w2 ⟨rfl, hb2⟩; obtain ⟨z0, z1, hbo⟩ := HX.out _ hb2))
        | (go_at_call 36; ((with_reducible refine (cB _ (by first | exact Below.refl _ _ | assumption)).mono ?_); rintro e w2 ⟨rfl, hb2⟩; obtain ⟨z0, z1, hbo⟩ := HX.out _ hb2))
        | (go_at_call 67; ((with_reducible refine (cC _ (by first | exact Below.refl _ _ | assumption)).mono ?_); rintro e w2 ⟨rfl, hb2⟩; obtain ⟨z0, z1, hbo⟩ := HX.out _ hb2))
        | (go_at_call 68; ((with_reducible refine (cD _ (by first | exact Below.refl _ _ | assumption)).mono ?_); rintro e w2 ⟨rfl, hb2⟩; obtain ⟨z0, z1, hbo⟩ := HX.out _ hb2)))
      go_ret
      exact ⟨by first | rfl | exact ret_bool (by assumption), by assumption⟩
  · obtain rfl : false = v := by rw [← hv.out]; exact (decide_eq_false (fun h => h1 h.1)).symm
    replace cA := cA false (decide_eq_false h1)
    clear HF cC cB h1
    go_enter Try.func37, Try.ntmps37
    go_wp2_with (first
      | (go_at_call 36; ((with_reducible refine (cA _ (by first | exact Below.refl _ _ | assumption)).mono ?_); rintro e w2 ⟨rfl, hb2⟩; obtain ⟨z0, z1, hbo⟩ := HX.out _ hb2))
      | (go_at_call 36; ((with_reducible refine (cB _ (by first | exact Below.refl _ _ | assumption)).mono ?_); rintro e w2 ⟨rfl, hb2⟩; obtain ⟨z0, z1, hbo⟩ := HX.out _ hb2))
      | (go_at_call 67; ((with_reducible refine (cC _ (by first | exact Below.refl _ _ | assumption)).mono ?_); rintro e w2 ⟨rfl, hb2⟩; obtain ⟨z0, z1, hbo⟩ := HX.out _ hb2))
      | (go_at_call 68; ((with_reducible refine (cD _ (by first | exact Below.refl _ _ | assumption)).mono ?_); rintro e w2 ⟨rfl, hb2⟩; obtain ⟨z0, z1, hbo⟩ := HX.out _ hb2)))
    go_ret
    exact ⟨by first | rfl | exact ret_bool (by assumption), by assumption⟩
theorem fm_info2 (x y : Value) : (Try.prog.info? 52).map (·.size) = some [x, y].length := by kernel_rfl
end Go.Proofs.Ytiajpjkkopdmgaa.schema

namespace Go.Proofs.Ytiajpjkkopdmgaa.schema
open Go.RowKit
open Go.Proofs.Ytiajpjkkopdmgaa.field (Gives newB gives_from)
set_option linter.unusedVariables false
theorem below_drew {B : Nat} {a w : World} (h : Below B a w) : Below B a w.drew := below_drewN h 1

/-- the place of the first x, or -1 -/
def firstAt (l : List Int) (x : Int) : Int := if x ∈ l then (l.idxOf x : Int) else -1
theorem idxOf_hit : ∀ (l : List Int) (k : Nat) (x : Int), x ∉ l.take k → l[k]? = some x → l.idxOf x = k := by
  intro l
  induction l with
  | nil => intro k x _ h; simp at h
  | cons y l ih =>
    intro k x hn h
    cases k with
    | zero => simp at h; subst h; simp
    | succ k =>
      simp only [List.take_succ_cons, List.mem_cons, not_or] at hn
      have hb : (y == x) = false := beq_eq_false_iff_ne.2 (Ne.symm hn.1)
      rw [List.idxOf_cons, hb, ih k x hn.2 (by simpa using h)]
      rfl
theorem first_hit {l : List Int} {k : Nat} {x : Int} (hn : x ∉ l.take k) (h : l[k]? = some x) : firstAt l x = k := by
  unfold firstAt
  rw [if_pos (List.mem_of_getElem? h), idxOf_hit l k x hn h]
theorem first_none {l : List Int} {x : Int} (hn : x ∉ l) : firstAt l x = -1 := if_neg hn
theorem not_take_succ {l : List Int} {k : Nat} {x y : Int} (hn : x ∉ l.take k) (h : l[k]? = some y) (hy : y ≠ x) : x ∉ l.take (k + 1) := by
  rw [take_succ_at h]; simp [hn]; omega
theorem ids_at {L : List field.Fd} {k : Nat} {p : field.Fd} (h : L[k]? = some p) : (ids L)[k]? = some p.id := by simp [ids, h]
theorem ids_length (L : List field.Fd) : (ids L).length = L.length := List.length_map _
end Go.Proofs.Ytiajpjkkopdmgaa.schema

namespace Go.Proofs.Ytiajpjkkopdmgaa.schema
open Go.RowKit
open Go.Proofs.Ytiajpjkkopdmgaa.field (Gives newB gives_from)
set_option linter.unusedVariables false

/-- a schema that has just been boxed stays -/
theorem boxS (i : Int) (a : Option Addr) (L : List Fm) (cap : Nat) (w w' : World) (hb : Below (w.alloc (.cells #[.int .i64 i, .slice a L.length cap] 24)).heap.size (w.alloc (.cells #[.int .i64 i, .slice a L.length cap] 24)) w') : w'.cell? ⟨w.heap.size, 0, none⟩ = some (.int .i64 i) ∧ w'.cell? ⟨w.heap.size, 1, none⟩ = some (.slice a L.length cap) ∧ Below w.heap.size w w' := by
  have hB := (Block.new w 24 [.int .i64 i, .slice a L.length cap]).later hb
  exact ⟨hB.cell 0, hB.cell 1, below_out hb⟩
/-- a form's fields are there -/
structure Fm.Ok (w : World) (p : Fm) : Prop where
  rf : field.Fds w p.f p.fL
  cf : p.fL.length ≤ p.fCap
  df : p.fCap ≤ maxLen
theorem Fm.Ok.below {w w' : World} {p : Fm} (h : p.Ok w) (hb : Below w.heap.size w w') : p.Ok w' := ⟨h.rf.below hb, h.cf, h.df⟩
theorem Fm.Good.ok {w : World} {p : Fm} (h : p.Good w) : p.Ok w := ⟨h.rf, h.cf, h.df⟩
/-- a list of forms, each with its fields -/
def FmL (w : World) (a : Option Addr) (F : List Fm) : Prop := Fms w a F ∧ ∀ p ∈ F, p.Ok w
theorem FmL.below {w w' : World} {a : Option Addr} {F : List Fm} (h : FmL w a F) (hb : Below w.heap.size w w') : FmL w' a F := ⟨h.1.below hb, fun p hp => (h.2 p hp).below hb⟩
theorem form_at {w w' : World} {a : Option Addr} {F : List Fm} (h : FmL w a F) (hb : Below w.heap.size w w') {k : Nat} (hk : k < F.length) :
    ∃ b off p, a = some ⟨b, off, none⟩ ∧ b < w'.heap.size ∧ F[k]? = some p ∧ w'.cell? ⟨b, off + k * 2, none⟩ = some (.int .i64 p.id) ∧ w'.cell? ⟨b, off + k * 2 + 1, none⟩ = some (.slice p.f p.fL.length p.fCap) ∧ field.Fds w' p.f p.fL ∧ p.fL.length ≤ maxLen := by
  obtain ⟨b, off, p, h1, h2, h3, h4, h5⟩ := (h.below hb).1.at hk
  have hg := (h.below hb).2 p (List.mem_of_getElem? h3)
  exact ⟨b, off, p, h1, h2, h3, h4, h5, hg.rf, Nat.le_trans hg.cf hg.df⟩
/-- the ID before k -/
def lastOf (F : List Form) (k : Nat) : Int := if k = 0 then -1 else ((F[k - 1]?).map (·.1)).getD 0
theorem lastOf_succ {F : List Form} {k : Nat} {x : Form} (h : F[k]? = some x) : lastOf F (k + 1) = x.1 := by simp [lastOf, h]
theorem last_iff {F : List Form} {k : Nat} {x : Form} (hk : FineS (F.take k)) (hx : F[k]? = some x) (hf : Fine x) : (∀ p ∈ F.take k, p.1 < x.1) ↔ ¬ (x.1 ≤ lastOf F k) := by
  cases k with
  | zero => simp [lastOf]; have := hf.1.1; omega
  | succ k =>
    have hl : k + 1 < F.length := (List.getElem?_eq_some_iff.1 hx).1
    have hy : F[k]? = some F[k] := List.getElem?_eq_getElem (by omega)
    rw [rise hy hk, lastOf_succ hy]; omega
theorem right_any (v : Int) (a : Option Addr) (cap : Nat) (F : List Fm) (w : World) (h : FmL w a F) (hF : F.length ≤ maxLen) :
    Calls Try.prog 18 #[.agg #[.int .i64 v, .slice a F.length cap]] w (Gives (.bool (decide (Right v (forms F)))) w) := by
  have HX := hid (boxS v a F cap w)
  have HF := hid (h.below (newB w (.cells #[.int .i64 v, .slice a F.length cap] 24)))
  have hml : (F.length : Int) ≤ 9223372036854775807 := by unfold maxLen at hF; omega
  obtain ⟨r, hr⟩ : ∃ r : Bool, Hid (decide (Right v (forms F)) = r) := ⟨_, rfl⟩
  rw [hr.out]
  unfold Gives
  have cA := fun t h => within_from v 1 65535 (w.alloc (.cells #[.int .i64 v, .slice a F.length cap] 24)) t h
  have HL := hid (forms_length F)
  clear h hF
  by_cases h1 : 1 ≤ v ∧ v ≤ 65535
  · replace cA := cA true (decide_eq_true h1)
    by_cases h2 : F.length ≤ 8
    · have hd : decide ((F.length : Int) > 8) = false := decide_eq_false (by omega)
      have HRI : Hid (Right v (forms F) ↔ FineS (forms F)) := hid ⟨fun h => h.2.2, fun h => ⟨h1, by rw [forms_length]; exact h2, h⟩⟩
      clear h1
      go_enter Try.func18, Try.ntmps18
      go_wp2_with (go_at_call 36; ((with_reducible refine (cA _ (by first | exact Below.refl _ _ | assumption)).mono ?_); rintro e w1 ⟨rfl, hb1⟩; obtain ⟨z0, z1, hbo⟩ := HX.out _ hb1))
      have HF1 := hid (HF.out.below hb1)
      have HO := hid hbo
      clear HF HX cA hb1 z0 z1 hbo hd
      go_loopw [3, 19] (fun l n wr => ∃ k : Nat, k ≤ F.length ∧ l = .int .i64 (lastOf (forms F) k) ∧ n = .int .i64 (k : Int) ∧ Hid (FineS ((forms F).take k)) ∧ Hid (Below w1.heap.size w1 wr)) (fun _ n _ => F.length - (intOf n).toNat)
      case atStart => exact ⟨0, Nat.zero_le _, rfl, rfl, hid FineS.nil, hid (Below.refl _ _)⟩
      case round =>
        obtain ⟨k, hk, rfl, rfl, HOK, HB⟩ := hrel
        by_cases hlt : k < F.length
        · obtain ⟨b, off, p, rfl, hbl, hp, c0, c1, hfd, hfl⟩ := form_at HF1.out HB.out hlt
          have i1 : (k : Int) < F.length := by omega
          have HP := hid (forms_at hp)
          have HSUC := hid (fineS_succ (forms_at hp))
          have HNO := hid (fineS_no (forms_at hp))
          have HLI := hid (fun hf => last_iff HOK.out (forms_at hp) hf)
          have HLS := hid (lastOf_succ (forms_at hp))
          obtain ⟨i, q, qc, L⟩ := p
          simp only [Fm.p] at HP HSUC HNO HLI HLS c0 c1 hfd hfl
          have cF := fine_any i q qc L (wr.alloc (.cells #[.int .i64 i, .slice q L.length qc] 52)) (hfd.below (newB _ _)) hfl
          have HX2 := hid (boxM i q L qc wr)
          clear hp hfd
          generalize hla : lastOf (forms F) k = la at *
          clear hla
          by_cases hf : Fine (i, L)
          · rw [decide_eq_true hf] at cF
            have HFI := hid hf
            clear hf
            by_cases hl : i ≤ la
            · obtain rfl : false = r := by rw [← hr.out]; exact (decide_eq_false (fun h => HNO.out (fun h2 => (HLI.out HFI.out).1 h2.2 hl) (HRI.out.1 h))).symm
              go_wp2_with (go_at_call 37; ((with_reducible refine cF.mono ?_); rintro e w2 ⟨rfl, hb2⟩; obtain ⟨z0, z1, hbo⟩ := HX2.out _ hb2))
              go_ret
              exact ⟨rfl, HO.out.trans ((HB.out.trans (hbo.mono HB.out.size)).mono HO.out.size)⟩
            · have hd2 : decide (i ≤ la) = false := decide_eq_false hl
              have HNL := hid hl
              clear hl
              go_wp2_with (go_at_call 37; ((with_reducible refine cF.mono ?_); rintro e w2 ⟨rfl, hb2⟩; obtain ⟨z0, z1, hbo⟩ := HX2.out _ hb2))
              exact ⟨⟨k + 1, by omega, by rw [HLS.out], by go_num, hid (HSUC.out.2 ⟨HOK.out, HFI.out, (HLI.out HFI.out).2 HNL.out⟩), hid (HB.out.trans (hbo.mono HB.out.size))⟩, by simp [intOf]; omega⟩
          · rw [decide_eq_false hf] at cF
            obtain rfl : false = r := by rw [← hr.out]; exact (decide_eq_false (fun h => HNO.out (fun h2 => hf h2.1) (HRI.out.1 h))).symm
            clear hf
            go_wp2_with (go_at_call 37; ((with_reducible refine cF.mono ?_); rintro e w2 ⟨rfl, hb2⟩; obtain ⟨z0, z1, hbo⟩ := HX2.out _ hb2))
            go_ret
            exact ⟨rfl, HO.out.trans ((HB.out.trans (hbo.mono HB.out.size)).mono HO.out.size)⟩
        · obtain rfl : k = F.length := by omega
          obtain rfl : true = r := by rw [← hr.out]; have := HOK.out; rw [List.take_of_length_le (by rw [HL.out]; exact Nat.le_refl _)] at this; exact (decide_eq_true (HRI.out.2 this)).symm
          go_wp2
          go_ret
          exact ⟨rfl, HO.out.trans (HB.out.mono HO.out.size)⟩
    · have hd : decide ((F.length : Int) > 8) = true := decide_eq_true (by omega)
      obtain rfl : false = r := by rw [← hr.out]; exact (decide_eq_false (fun h => h2 (by have := h.2.1; rw [forms_length] at this; exact this))).symm
      clear h2
      go_enter Try.func18, Try.ntmps18
      go_wp2_with (go_at_call 36; ((with_reducible refine (cA _ (by first | exact Below.refl _ _ | assumption)).mono ?_); rintro e w1 ⟨rfl, hb1⟩; obtain ⟨z0, z1, hbo⟩ := HX.out _ hb1))
      go_ret
      exact ⟨rfl, by assumption⟩
  · replace cA := cA false (decide_eq_false h1)
    obtain rfl : false = r := by rw [← hr.out]; exact (decide_eq_false (fun h => h1 h.1)).symm
    go_enter Try.func18, Try.ntmps18
    go_wp2_with (go_at_call 36; ((with_reducible refine (cA _ (by first | exact Below.refl _ _ | assumption)).mono ?_); rintro e w1 ⟨rfl, hb1⟩; obtain ⟨z0, z1, hbo⟩ := HX.out _ hb1))
    go_ret
    exact ⟨rfl, by assumption⟩
end Go.Proofs.Ytiajpjkkopdmgaa.schema

namespace Go.Proofs.Ytiajpjkkopdmgaa.schema
open Go.RowKit Go.Proofs.Ytiajpjkkopdmgaa.pen
set_option linter.unusedVariables false

/-- the cells of forms -/
def fmC (p : Fm) : List Value := [.int .i64 p.id, .slice p.f p.fL.length p.fCap]
def fmV : List Fm → List Value
  | [] => []
  | p :: L => fmC p ++ fmV L
theorem fmV_append : ∀ a b, fmV (a ++ b) = fmV a ++ fmV b
  | [], _ => rfl
  | p :: a, b => by rw [List.cons_append, fmV, fmV, fmV_append a b, List.append_assoc]
theorem fmV_length : ∀ L, (fmV L).length = L.length * 2
  | [] => rfl
  | p :: L => by rw [fmV]; simp only [fmC, List.length_append, List.length_cons, List.length_nil, fmV_length L]; omega
theorem fmV_at : ∀ (L : List Fm) (i : Nat) (p : Fm) (c : Nat), L[i]? = some p → c < 2 → (fmV L)[i * 2 + c]? = (fmC p)[c]?
  | [], i, p, c, h, _ => by simp at h
  | q :: L, 0, p, c, h, hc => by
    simp at h; subst h
    rw [fmV, List.getElem?_append_left (by simp [fmC]; omega)]
    simp
  | q :: L, i + 1, p, c, h, hc => by
    rw [fmV, List.getElem?_append_right (by simp [fmC]; omega)]
    rw [← fmV_at L i p c (by simpa using h) hc]
    congr 1
    simp only [fmC, List.length_cons, List.length_nil]; omega
/-- a row of the call's own reads as forms -/
theorem own_fms {w : World} {base n : Nat} {a : Option Addr} {cap : Nat} {L : List Fm} {e : TypeId} (h : w.ownsRow base e 2 (.slice a n cap) n (fmV L)) : Fms w a L ∧ n = L.length ∧ n ≤ cap := by
  obtain ⟨hl, hr⟩ := h
  have hn : n = L.length := by have := fmV_length L; rw [hl] at this; omega
  rcases hr with ⟨hv, h0⟩ | ⟨b, cap', cur, hv, _, hg, hcp, _, _, htake⟩
  · cases hv
    exact ⟨.inl (List.eq_nil_of_length_eq_zero (by omega)), hn, by omega⟩
  · cases hv
    refine ⟨.inr ⟨b, 0, rfl, (Array.getElem?_eq_some_iff.1 hg).1, fun i p hp => ?_⟩, hn, hcp⟩
    have hi : i < L.length := (List.getElem?_eq_some_iff.1 hp).1
    have key : ∀ c x, c < 2 → (fmC p)[c]? = some x → w.cell? ⟨b, 0 + (i * 2 + c), none⟩ = some x := by
      intro c x hc hx
      have h1 := fmV_at L i p c hp hc
      rw [hx, ← htake, List.getElem?_take, if_pos (by omega)] at h1
      rw [cell_of_row w b _ cur _ _ hg, Nat.zero_add, ← h1, Array.getElem?_toList]
    exact ⟨key 0 _ (by omega) rfl, key 1 _ (by omega) rfl⟩
theorem fm_info_all : (Try.prog.info? 52).map (fun i => (i.zero, i.size, i.bytes)) = some (some (.agg #[.int .i64 0, .slice none 0 0]), 2, 32) := by kernel_rfl
theorem fm_info_parts : ∃ i, Try.prog.info? 52 = some i ∧ i.zero = some (.agg #[.int .i64 0, .slice none 0 0]) ∧ i.size = 2 ∧ i.bytes = 32 := by
  obtain ⟨i, hi, he⟩ := Option.map_eq_some_iff.1 fm_info_all
  simp only [Prod.mk.injEq] at he
  exact ⟨i, hi, he.1, he.2.1, he.2.2⟩
/-- a form's fields lie in a row of the call's own -/
def OwnM (B : Nat) (w : World) (p : Fm) : Prop := w.ownsRow B 26 5 (.slice p.f p.fL.length p.fCap) p.fL.length (fdV p.fL)
theorem OwnM.ok {B : Nat} {w : World} {p : Fm} (h : OwnM B w p) : p.Ok w := ⟨(own_fds h).1, (own_cap h).1, (own_cap h).2⟩
theorem fd_fm : (52 : TypeId) ≠ 26 := by decide
end Go.Proofs.Ytiajpjkkopdmgaa.schema

namespace Go.Proofs.Ytiajpjkkopdmgaa.schema
open Go.RowKit
open Go.Proofs.Ytiajpjkkopdmgaa.field (Gives newB gives_from)
set_option linter.unusedVariables false
theorem isField_any (p : field.Fd) (x : Int) (b : Nat) (w : World) (hc : w.cell? ⟨b, 0, none⟩ = some (.int .i64 x)) (hb : b < w.heap.size) :
    Calls Try.prog 76 #[.agg #[.int .i64 p.id, .int .i64 p.kind, .int .i64 p.lo, .int .i64 p.hi, .int .i64 p.most], .pointer (some ⟨b, 0, none⟩)] w (Gives (.bool (p.id == x)) w) := by
  have HN := hid (newB w (.cells #[.int .i64 p.id, .int .i64 p.kind, .int .i64 p.lo, .int .i64 p.hi, .int .i64 p.most] 26))
  obtain ⟨i, k, lo, hi, m⟩ := p
  simp only at HN ⊢
  obtain ⟨r, hr⟩ : ∃ r : Bool, Hid ((i == x) = r) := ⟨_, rfl⟩
  rw [hr.out]
  unfold Gives
  have hne : w.heap.size ≠ b := by omega
  go_enter Try.func76, Try.ntmps76
  go_wp2
  go_ret
  exact ⟨ret_bool hr.out, HN.out⟩
theorem indexField_any (a : Option Addr) (cap : Nat) (L : List field.Fd) (x : Int) (g : Nat) (w : World) (h : field.Fds w a L) (hL : L.length ≤ maxLen) (hc : w.cell? ⟨g, 0, none⟩ = some (.int .i64 x)) (hg : g < w.heap.size) :
    Calls Try.prog 75 #[.slice a L.length cap, .func (.func 76) #[] #[.pointer (some ⟨g, 0, none⟩)]] w (Gives (.int .i64 (firstAt (ids L) x)) w) := by
  have hml : (L.length : Int) ≤ 9223372036854775807 := by unfold maxLen at hL; omega
  have HF := hid h
  have HC := hid hc
  obtain ⟨r, hr⟩ : ∃ r : Int, Hid (firstAt (ids L) x = r) := ⟨_, rfl⟩
  rw [hr.out]
  unfold Gives
  clear h hL hc
  go_enter Try.func75, Try.ntmps75
  go_wp2
  go_loopw [8] (fun n wr => ∃ k : Nat, k ≤ L.length ∧ n = .int .i64 (k : Int) ∧ Hid (x ∉ (ids L).take k) ∧ Hid (Below w.heap.size w wr)) (fun n _ => L.length - (intOf n).toNat)
  case atStart => exact ⟨0, Nat.zero_le _, rfl, hid (by simp), hid (Below.refl _ _)⟩
  case round =>
    obtain ⟨k, hk, rfl, HNO, HB⟩ := hrel
    by_cases hlt : k < L.length
    · obtain ⟨b, off, p, rfl, hbl, hp, c0, c1, c2, c3, c4⟩ := field_at HF.out HB.out hlt
      have i1 : (k : Int) < L.length := by omega
      have HHIT := hid (fun e => first_hit HNO.out ((ids_at hp).trans (congrArg some e)))
      have HNX := hid (fun e => not_take_succ HNO.out (ids_at hp) e)
      have cs := isField_any p x g wr (by rw [HB.out.cell (p := ⟨g, 0, none⟩) hg]; exact HC.out) (Nat.lt_of_lt_of_le hg HB.out.size)
      clear hp
      by_cases hx : p.id = x
      · rw [show (p.id == x) = true from beq_iff_eq.2 hx] at cs
        obtain rfl : (k : Int) = r := by rw [← hr.out]; exact (HHIT.out hx).symm
        clear hx
        go_wp2_with (go_at_call 76; ((with_reducible refine cs.mono ?_); rintro e w2 ⟨rfl, hb2⟩))
        go_ret
        exact ⟨rfl, HB.out.trans (hb2.mono HB.out.size)⟩
      · rw [show (p.id == x) = false from beq_eq_false_iff_ne.2 hx] at cs
        have HX := hid hx
        clear hx
        go_wp2_with (go_at_call 76; ((with_reducible refine cs.mono ?_); rintro e w2 ⟨rfl, hb2⟩))
        exact ⟨⟨k + 1, by omega, by go_num, hid (HNX.out HX.out), hid (HB.out.trans (hb2.mono HB.out.size))⟩, by simp [intOf]; omega⟩
    · obtain rfl : k = L.length := by omega
      obtain rfl : -1 = r := by rw [← hr.out]; have := HNO.out; rw [List.take_of_length_le (by rw [ids_length]; exact Nat.le_refl _)] at this; exact (first_none this).symm
      go_wp2
      go_ret
      exact ⟨rfl, HB.out⟩
theorem at_any (i : Int) (a : Option Addr) (cap : Nat) (L : List field.Fd) (x : Int) (w : World) (h : field.Fds w a L) (hL : L.length ≤ maxLen) :
    Calls Try.prog 41 #[.agg #[.int .i64 i, .slice a L.length cap], .int .i64 x] w (Gives (.int .i64 (firstAt (ids L) x)) w) := by
  have h1 := newB w (.cells #[.int .i64 i, .slice a L.length cap] 52)
  have h2 := newB (w.alloc (.cells #[.int .i64 i, .slice a L.length cap] 52)) (.cells #[.int .i64 x] 3)
  have cI := indexField_any a cap L x (w.heap.size + 1) ((w.alloc (.cells #[.int .i64 i, .slice a L.length cap] 52)).alloc (.cells #[.int .i64 x] 3)) ((h.below h1).below h2) hL (by simp) (by simp)
  have HB := hid (h1.trans (h2.mono h1.size))
  clear h h1 h2
  generalize firstAt (ids L) x = r at *
  unfold Gives
  go_enter Try.func41, Try.ntmps41
  go_wp2_with (go_at_call 75; ((with_reducible refine cI.mono ?_); rintro e w2 ⟨rfl, hb2⟩))
  go_ret
  exact ⟨rfl, HB.out.trans (hb2.mono HB.out.size)⟩
end Go.Proofs.Ytiajpjkkopdmgaa.schema

namespace Go.Proofs.Ytiajpjkkopdmgaa.schema
open Go.RowKit
open Go.Proofs.Ytiajpjkkopdmgaa.field (Gives newB gives_from)
set_option linter.unusedVariables false

def fids (F : List Fm) : List Int := F.map Fm.id
theorem fids_at {F : List Fm} {k : Nat} {p : Fm} (h : F[k]? = some p) : (fids F)[k]? = some p.id := by simp [fids, h]
theorem fids_length (F : List Fm) : (fids F).length = F.length := List.length_map _
theorem fids_forms (F : List Fm) : fids F = (forms F).map (·.1) := by simp [fids, forms, Fm.p, Function.comp_def]
theorem isForm_any (i : Int) (q : Option Addr) (L : List field.Fd) (qc : Nat) (x : Int) (b : Nat) (w : World) (hc : w.cell? ⟨b, 0, none⟩ = some (.int .i64 x)) (hb : b < w.heap.size) :
    Calls Try.prog 74 #[.agg #[.int .i64 i, .slice q L.length qc], .pointer (some ⟨b, 0, none⟩)] w (Gives (.bool (i == x)) w) := by
  have HN := hid (newB w (.cells #[.int .i64 i, .slice q L.length qc] 52))
  obtain ⟨r, hr⟩ : ∃ r : Bool, Hid ((i == x) = r) := ⟨_, rfl⟩
  rw [hr.out]
  unfold Gives
  have hne : w.heap.size ≠ b := by omega
  go_enter Try.func74, Try.ntmps74
  go_wp2
  go_ret
  exact ⟨ret_bool hr.out, HN.out⟩
theorem indexForm_any (a : Option Addr) (cap : Nat) (L : List Fm) (x : Int) (g : Nat) (w : World) (h : FmL w a L) (hL : L.length ≤ maxLen) (hc : w.cell? ⟨g, 0, none⟩ = some (.int .i64 x)) (hg : g < w.heap.size) :
    Calls Try.prog 73 #[.slice a L.length cap, .func (.func 74) #[] #[.pointer (some ⟨g, 0, none⟩)]] w (Gives (.int .i64 (firstAt (fids L) x)) w) := by
  have hml : (L.length : Int) ≤ 9223372036854775807 := by unfold maxLen at hL; omega
  have HF := hid h
  have HC := hid hc
  obtain ⟨r, hr⟩ : ∃ r : Int, Hid (firstAt (fids L) x = r) := ⟨_, rfl⟩
  rw [hr.out]
  unfold Gives
  clear h hL hc
  go_enter Try.func73, Try.ntmps73
  go_wp2
  go_loopw [8] (fun n wr => ∃ k : Nat, k ≤ L.length ∧ n = .int .i64 (k : Int) ∧ Hid (x ∉ (fids L).take k) ∧ Hid (Below w.heap.size w wr)) (fun n _ => L.length - (intOf n).toNat)
  case atStart => exact ⟨0, Nat.zero_le _, rfl, hid (by simp), hid (Below.refl _ _)⟩
  case round =>
    obtain ⟨k, hk, rfl, HNO, HB⟩ := hrel
    by_cases hlt : k < L.length
    · obtain ⟨b, off, p, rfl, hbl, hp, c0, c1, _, _⟩ := form_at HF.out HB.out hlt
      have i1 : (k : Int) < L.length := by omega
      have HHIT := hid (fun e => first_hit HNO.out ((fids_at hp).trans (congrArg some e)))
      have HNX := hid (fun e => not_take_succ HNO.out (fids_at hp) e)
      have cs := isForm_any p.id p.f p.fL p.fCap x g wr (by rw [HB.out.cell (p := ⟨g, 0, none⟩) hg]; exact HC.out) (Nat.lt_of_lt_of_le hg HB.out.size)
      clear hp
      by_cases hx : p.id = x
      · rw [show (p.id == x) = true from beq_iff_eq.2 hx] at cs
        obtain rfl : (k : Int) = r := by rw [← hr.out]; exact (HHIT.out hx).symm
        clear hx
        go_wp2_with (go_at_call 74; ((with_reducible refine cs.mono ?_); rintro e w2 ⟨rfl, hb2⟩))
        go_ret
        exact ⟨rfl, HB.out.trans (hb2.mono HB.out.size)⟩
      · rw [show (p.id == x) = false from beq_eq_false_iff_ne.2 hx] at cs
        have HX := hid hx
        clear hx
        go_wp2_with (go_at_call 74; ((with_reducible refine cs.mono ?_); rintro e w2 ⟨rfl, hb2⟩))
        exact ⟨⟨k + 1, by omega, by go_num, hid (HNX.out HX.out), hid (HB.out.trans (hb2.mono HB.out.size))⟩, by simp [intOf]; omega⟩
    · obtain rfl : k = L.length := by omega
      obtain rfl : -1 = r := by rw [← hr.out]; have := HNO.out; rw [List.take_of_length_le (by rw [fids_length]; exact Nat.le_refl _)] at this; exact (first_none this).symm
      go_wp2
      go_ret
      exact ⟨rfl, HB.out⟩
theorem fds_nil (W : World) (a : Option Addr) (n c : Nat) : (binOp .eql 30 (.slice a n c) (.slice none 0 0)).run Try.prog W = .ok (.bool a.isNone) W := by
  have h := run_equal_slice_nil (P := Try.prog) W 30 26 a n c Try.underlying30
  simp [binOp, h, Result.andThen]
/-- two results of which the first lives in a variable -/
theorem results_cell2 {fn : Func} {p u : Tmp} {ty : TypeId} {tmps : Array Value} {P : Program} {w : World} {b o : Nat} {cs : List Value} {d : TypeDesc} (h : fn.results = #[.cell p ty, .tmp u])
    (hp : tmps.getD p undef = .pointer (some ⟨b, o, none⟩)) (hc : w.rangeAt b o cs) (hu : P.underlying ty = some d) (hd : d.isRow = true) (hi : (P.info? ty).map (·.size) = some cs.length) :
    (results fn tmps).run P w = .ok (.tuple #[.agg cs.toArray, tmps.getD u undef]) w := by
  simp only [results, h]
  simp at hp
  simp [hp, asAddr, run_loadVar_mid w b o ty cs d hc hu hd hi]
/-- the world in which a schema and a number have been boxed and the result's variable made -/
def W3 (v : Int) (a : Option Addr) (F : List Fm) (c : Nat) (x : Int) (w : World) : World := ((w.alloc (.cells #[.int .i64 v, .slice a F.length c] 24)).alloc (.cells #[.int .i64 x] 3)).alloc (.cells #[.int .i64 0, .slice none 0 0] 52)
theorem W3.all (v : Int) (a : Option Addr) (F : List Fm) (c : Nat) (x : Int) (w w' : World) (hb : Below (W3 v a F c x w).heap.size (W3 v a F c x w) w') : w'.cell? ⟨w.heap.size, 0, none⟩ = some (.int .i64 v) ∧ w'.cell? ⟨w.heap.size, 1, none⟩ = some (.slice a F.length c) ∧ w'.cell? ⟨w.heap.size + 1, 0, none⟩ = some (.int .i64 x) ∧ Block w' (w.heap.size + 2) 52 [.int .i64 0, .slice none 0 0] ∧ Below w.heap.size w w' := by
  have h1 : Below ((w.alloc (.cells #[.int .i64 v, .slice a F.length c] 24)).alloc (.cells #[.int .i64 x] 3)).heap.size ((w.alloc (.cells #[.int .i64 v, .slice a F.length c] 24)).alloc (.cells #[.int .i64 x] 3)) w' := below_out hb
  obtain ⟨c0, c1, h2⟩ := boxS v a F c w w' (below_out h1)
  refine ⟨c0, c1, ?_, ?_, h2⟩
  · have hB := ((Block.new (w.alloc (.cells #[.int .i64 v, .slice a F.length c] 24)) 3 [.int .i64 x])).later h1
    have := hB.cell 0
    simpa using this
  · have hB := (Block.new ((w.alloc (.cells #[.int .i64 v, .slice a F.length c] 24)).alloc (.cells #[.int .i64 x] 3)) 52 [.int .i64 0, .slice none 0 0]).later hb
    simpa using hB
theorem W3.forms (v : Int) (a : Option Addr) (F : List Fm) (c : Nat) (x : Int) (w : World) : Below w.heap.size w (W3 v a F c x w) := (W3.all v a F c x w _ (Below.refl _ _)).2.2.2.2
theorem form_no (v : Int) (a : Option Addr) (c : Nat) (F : List Fm) (x : Int) (w : World) (h : FmL w a F) (hF : F.length ≤ maxLen) (hx : x ∉ fids F) :
    Calls Try.prog 40 #[.agg #[.int .i64 v, .slice a F.length c], .int .i64 x] w (Gives (.tuple #[.agg #[.int .i64 0, .slice none 0 0], .bool false]) w) := by
  have HX := hid (W3.all v a F c x w)
  have h0 := W3.all v a F c x w _ (Below.refl _ _)
  have hsz : (W3 v a F c x w).heap.size = w.heap.size + 3 := by simp [W3]
  have cI := indexForm_any a c F x (w.heap.size + 1) (W3 v a F c x w) (h.below (W3.forms v a F c x w)) hF h0.2.2.1 (by omega)
  rw [first_none hx] at cI
  clear h hx h0 hsz
  unfold W3 at HX cI
  unfold Gives
  go_enter Try.func40, Try.ntmps40
  go_wp2_with (go_at_call 73; ((with_reducible refine cI.mono ?_); rintro e w2 ⟨rfl, hb2⟩; obtain ⟨z0, z1, z2, hblk, hbo⟩ := HX.out _ hb2; have r0 := hblk.cell 0; have r1 := hblk.cell 1; have f0 := hblk.frozen 0; have f1 := hblk.frozen 1))
  have hB := (hblk.setCell 0 (.int .i64 0)).setCell 1 (.slice none 0 0)
  refine bodyPost_ret (results_cell2 (b := w.heap.size + 2) (o := 0) rfl rfl hB.whole Try.underlying52 rfl (fm_info2 _ _)) rfl ?_
  exact ⟨rfl, below_setCells (below_setCells hbo (by omega) 0 [.int .i64 0]) (by omega) 1 [.slice none 0 0]⟩
end Go.Proofs.Ytiajpjkkopdmgaa.schema
