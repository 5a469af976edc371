/- Contract of layer 12 (field): Size. No condition. -/
import Derived.Test.YtacigmnnekphmaaFieldTop
namespace Go.Proofs.Ytacigmnnekphmaa.field
open Go.RowKit
set_option linter.unusedVariables false

theorem size_any (f : Fd) (w : World) : Calls Try.prog 31 #[.agg #[.int .i64 f.id, .int .i64 f.kind, .int .i64 f.lo, .int .i64 f.hi, .int .i64 f.most]] w (Gives (.int .i64 (f.size : Int)) w) := by
  have HB := hid (belowF f w)
  have HS := hid (five f w)
  have hsz : f.size = if f.Right then (if f.kind = 4 then 1 + f.most.toNat else wide (f.great - f.lo).toNat) else 0 := rfl
  rw [hsz]
  have cr := gives_from (right_any f (w.alloc (.cells #[.int .i64 f.id, .int .i64 f.kind, .int .i64 f.lo, .int .i64 f.hi, .int .i64 f.most] 50))) (w0 := (w.alloc (.cells #[.int .i64 f.id, .int .i64 f.kind, .int .i64 f.lo, .int .i64 f.hi, .int .i64 f.most] 50))) (Below.refl _ _)
  by_cases hr : f.Right
  · rw [if_pos hr]
    rw [decide_eq_true hr] at cr
    have hk := kinds hr
    have hsp := hr.span
    obtain ⟨T, hT⟩ : ∃ T : Nat, f.great - f.lo = (T : Int) := ⟨(f.great - f.lo).toNat, by omega⟩
    have hTb : T ≤ 2199023255552 := by omega
    have ct := fun (w1 : World) (hb : Below (w.alloc (.cells #[.int .i64 f.id, .int .i64 f.kind, .int .i64 f.lo, .int .i64 f.hi, .int .i64 f.most] 50)).heap.size (w.alloc (.cells #[.int .i64 f.id, .int .i64 f.kind, .int .i64 f.lo, .int .i64 f.hi, .int .i64 f.most] 50)) w1) => gives_from (top_any f hr w1) hb
    rw [hT] at ct
    have cl := len_any T (by omega)
    rw [hT]
    have h4 : f.kind = 4 → 0 ≤ f.most ∧ f.most ≤ 32 := by intro h4; unfold Fd.Right at hr; omega
    have h2 : f.kind = 2 → f.great - f.lo = 1 := by intro h2; unfold Fd.Right at hr; unfold Fd.great; rw [h2]; simp; omega
    rw [hT] at h2
    clear hr hsp hsz hT
    obtain ⟨i, k, lo, hi, m⟩ := f
    simp only at hk h4 h2 HB HS cr ct ⊢
    rw [show ((T : Int)).toNat = T from rfl]
    unfold Gives
    have HT := hid hTb
    rcases hk with rfl | rfl | rfl | rfl
    · clear h4 h2
      rw [if_neg (by decide)]
      clear hTb
      have hu : IntKind.u64.wrap (T : Int) = (T : Int) := by have := HT.out; rw [IntWalk.u64_in _ (by omega)]
      go_enter Try.func31, Try.ntmps31
      go_wp2_with (first
        | (go_at_call 50; (with_reducible refine cr.mono ?_); rintro e w1 ⟨rfl, hb1⟩; have hk1 := HS.out _ hb1)
        | (go_at_call 53; (with_reducible refine (ct _ hb1).mono ?_); rintro e w2 ⟨rfl, hb2⟩)
        | (go_at_call 52; (with_reducible refine (cl _).mono ?_); rintro e w3 ⟨L, rfl, hL1, hL2, nd, rfl⟩; have HL := hid hL2; clear hL2))
      go_ret
      exact ⟨ret_int (by have := HL.out; omega), HB.out _ (below_drewN hb2 _)⟩
    · have hT1 : T = 1 := by have := h2 rfl; omega
      subst hT1
      clear h4 h2
      rw [if_neg (by decide), show wide 1 = 1 from rfl]
      go_enter Try.func31, Try.ntmps31
      go_wp2_with (go_at_call 50; (with_reducible refine cr.mono ?_); rintro e w1 ⟨rfl, hb1⟩; have hk1 := HS.out _ hb1)
      go_ret
      exact ⟨rfl, HB.out _ hb1⟩
    · clear h4 h2
      rw [if_neg (by decide)]
      clear hTb
      have hu : IntKind.u64.wrap (T : Int) = (T : Int) := by have := HT.out; rw [IntWalk.u64_in _ (by omega)]
      go_enter Try.func31, Try.ntmps31
      go_wp2_with (first
        | (go_at_call 50; (with_reducible refine cr.mono ?_); rintro e w1 ⟨rfl, hb1⟩; have hk1 := HS.out _ hb1)
        | (go_at_call 53; (with_reducible refine (ct _ hb1).mono ?_); rintro e w2 ⟨rfl, hb2⟩)
        | (go_at_call 52; (with_reducible refine (cl _).mono ?_); rintro e w3 ⟨L, rfl, hL1, hL2, nd, rfl⟩; have HL := hid hL2; clear hL2))
      go_ret
      exact ⟨ret_int (by have := HL.out; omega), HB.out _ (below_drewN hb2 _)⟩
    · obtain ⟨m1, m2⟩ := h4 rfl
      clear h4 h2
      rw [if_pos rfl]
      obtain ⟨M, rfl⟩ := Int.eq_ofNat_of_zero_le m1
      rw [show ((M : Int)).toNat = M from rfl]
      go_enter Try.func31, Try.ntmps31
      go_wp2_with (go_at_call 50; (with_reducible refine cr.mono ?_); rintro e w1 ⟨rfl, hb1⟩; have hk1 := HS.out _ hb1)
      go_ret
      exact ⟨ret_int (by omega), HB.out _ hb1⟩
  · rw [if_neg hr]
    rw [decide_eq_false hr] at cr
    clear hr hsz
    unfold Gives
    go_enter Try.func31, Try.ntmps31
    go_wp2_with (go_at_call 50; (with_reducible refine cr.mono ?_); rintro e w1 ⟨rfl, hb1⟩; have hk1 := HS.out _ hb1)
    go_ret
    exact ⟨rfl, HB.out _ hb1⟩
end Go.Proofs.Ytacigmnnekphmaa.field
