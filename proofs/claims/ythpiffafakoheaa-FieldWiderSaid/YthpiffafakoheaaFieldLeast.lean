/- Contracts of layer 12 (field): Least, Size, Wider. No condition. -/
import Derived.Test.YthpiffafakoheaaFieldSmall
import Derived.Test.YthpiffafakoheaaFieldStore
namespace Go.Proofs.Ythpiffafakoheaa.field
open Go.RowKit
set_option linter.unusedVariables false

theorem least_any (f : Fd) (w : World) : Calls Try.prog 11 #[.agg #[.int .i64 f.id, .int .i64 f.kind, .int .i64 f.lo, .int .i64 f.hi, .int .i64 f.most]] w (Gives (.agg #[.int .i64 f.least, .string ⟨#[]⟩]) w) := by
  have HW := hid (W2.all f w)
  have hl : f.least = if f.kind = 1 ∧ f.Right then f.lo else 0 := by
    unfold Fd.least
    by_cases hr : f.Right
    · rw [if_pos hr]
      by_cases hk : f.kind = 1
      · rw [if_pos ⟨hk, hr⟩]
      · rw [if_neg (fun h => hk h.1)]; unfold Fd.Right at hr; omega
    · rw [if_neg hr, if_neg (fun h => hr h.2)]
  rw [hl]
  by_cases hk : f.kind = 1
  · have cr := gives_from (right_any f (W2 f w)) (w0 := W2 f w) (Below.refl _ _)
    unfold W2 at HW cr
    by_cases hr : f.Right
    · rw [if_pos ⟨hk, hr⟩]
      rw [decide_eq_true hr] at cr
      obtain ⟨i, k, lo, hi, m⟩ := f
      simp only at hk hl HW cr ⊢
      clear hl hr
      subst hk
      have HI := hid (val_info lo ⟨#[]⟩)
      have HO := hid (val_one lo ⟨#[]⟩)
      unfold Gives
      go_enter Try.func11, Try.ntmps11
      go_wp2_with (first
        | (go_at_call 7; (with_reducible refine cr.mono ?_); rintro e w1 ⟨rfl, hb1⟩; obtain ⟨hk1, hres, hbw⟩ := HW.out _ hb1; have hth := val_there hres lo ⟨#[]⟩)
        | (with_reducible refine wpList_store_named rfl 25 (.tmp 2) (.tmp 14) rfl (w.heap.size + 1) 0 #[.int .i64 lo, .string ⟨#[]⟩] rfl rfl hth HI.out HO.out ?_))
      intro w2 hw2
      obtain ⟨hB, hb⟩ := val_stored hres hw2 (by omega) hbw
      go_wp2
      refine bodyPost_ret (results_cell (b := w.heap.size + 1) (o := 0) rfl rfl hB.whole Try.underlying25 rfl (val_info2 _ _)) rfl ?_
      exact ⟨rfl, hb⟩
    · rw [if_neg (fun h => hr h.2)]
      rw [decide_eq_false hr] at cr
      obtain ⟨i, k, lo, hi, m⟩ := f
      simp only at hk hl HW cr ⊢
      clear hl hr
      subst hk
      have HI := hid (val_info 0 ⟨#[]⟩)
      have HO := hid (val_one 0 ⟨#[]⟩)
      unfold Gives
      go_enter Try.func11, Try.ntmps11
      go_wp2_with (first
        | (go_at_call 7; (with_reducible refine cr.mono ?_); rintro e w1 ⟨rfl, hb1⟩; obtain ⟨hk1, hres, hbw⟩ := HW.out _ hb1; have hth := val_there hres 0 ⟨#[]⟩)
        | (with_reducible refine wpList_store_named rfl 25 (.tmp 2) (.tmp 11) rfl (w.heap.size + 1) 0 #[.int .i64 0, .string ⟨#[]⟩] rfl rfl hth HI.out HO.out ?_))
      intro w2 hw2
      obtain ⟨hB, hb⟩ := val_stored hres hw2 (by omega) hbw
      go_wp2
      refine bodyPost_ret (results_cell (b := w.heap.size + 1) (o := 0) rfl rfl hB.whole Try.underlying25 rfl (val_info2 _ _)) rfl ?_
      exact ⟨rfl, hb⟩
  · rw [if_neg (fun h => hk h.1)]
    have HB := hid (newB (w.alloc (.cells #[.int .i64 f.id, .int .i64 f.kind, .int .i64 f.lo, .int .i64 f.hi, .int .i64 f.most] 23)) (.cells #[.int .i64 0, .string ⟨#[]⟩] 25))
    have HW1 := hid (HW.out _ (Below.refl _ _))
    unfold W2 at HW1
    obtain ⟨i, k, lo, hi, m⟩ := f
    simp only at hk hl HW1 ⊢
    have hne : (k != 1) = true := by rw [bne_iff_ne]; exact hk
    clear hl hk HW
    unfold Gives
    go_enter Try.func11, Try.ntmps11
    go_wp2
    go_returns
    exact ⟨rfl, HW1.out.2.2⟩
theorem size_any (f : Fd) (w : World) : Calls Try.prog 13 #[.agg #[.int .i64 f.id, .int .i64 f.kind, .int .i64 f.lo, .int .i64 f.hi, .int .i64 f.most]] w (Gives (.int .i64 (f.size : Int)) w) := by
  have HB := hid (belowF f w)
  have HS := hid (five f w)
  have hsz : f.size = if f.Right then (if f.kind = 4 then 1 + f.most.toNat else wide (f.great - f.lo).toNat) else 0 := rfl
  rw [hsz]
  have cr := gives_from (right_any f (w.alloc (.cells #[.int .i64 f.id, .int .i64 f.kind, .int .i64 f.lo, .int .i64 f.hi, .int .i64 f.most] 23))) (w0 := (w.alloc (.cells #[.int .i64 f.id, .int .i64 f.kind, .int .i64 f.lo, .int .i64 f.hi, .int .i64 f.most] 23))) (Below.refl _ _)
  by_cases hr : f.Right
  · rw [if_pos hr]
    rw [decide_eq_true hr] at cr
    have hk := kinds hr
    have hsp := hr.span
    obtain ⟨T, hT⟩ : ∃ T : Nat, f.great - f.lo = (T : Int) := ⟨(f.great - f.lo).toNat, by omega⟩
    have hTb : T ≤ 2199023255552 := by omega
    have ct := fun (w1 : World) (hb : Below (w.alloc (.cells #[.int .i64 f.id, .int .i64 f.kind, .int .i64 f.lo, .int .i64 f.hi, .int .i64 f.most] 23)).heap.size (w.alloc (.cells #[.int .i64 f.id, .int .i64 f.kind, .int .i64 f.lo, .int .i64 f.hi, .int .i64 f.most] 23)) w1) => gives_from (top_any f hr w1) hb
    rw [hT] at ct
    have cl := len_any T (by omega)
    rw [hT]
    have h4 : f.kind = 4 → 0 ≤ f.most ∧ f.most ≤ 32 := by intro h4; unfold Fd.Right at hr; omega
    have h2 : f.kind = 2 → f.great - f.lo = 1 := by intro h2; unfold Fd.Right at hr; unfold Fd.great; rw [h2]; simp; omega
    rw [hT] at h2
    clear hr hsp hsz hT
    obtain ⟨i, k, lo, hi, m⟩ := f
    simp only at hk h4 h2 HB HS cr ct ⊢
    rw [show ((T : Int)).toNat = T from rfl]
    unfold Gives
    have HT := hid hTb
    rcases hk with rfl | rfl | rfl | rfl
    · clear h4 h2
      rw [if_neg (by decide)]
      clear hTb
      have hu : IntKind.u64.wrap (T : Int) = (T : Int) := by have := HT.out; rw [IntWalk.u64_in _ (by omega)]
      go_enter Try.func13, Try.ntmps13
      go_wp2_with (first
        | (go_at_call 7; (with_reducible refine cr.mono ?_); rintro e w1 ⟨rfl, hb1⟩; have hk1 := HS.out _ hb1)
        | (go_at_call 28; (with_reducible refine (ct _ hb1).mono ?_); rintro e w2 ⟨rfl, hb2⟩)
        | (go_at_call 27; (with_reducible refine (cl _).mono ?_); rintro e w3 ⟨L, rfl, hL1, hL2, nd, rfl⟩; have HL := hid hL2; clear hL2))
      go_ret
      exact ⟨ret_int (by have := HL.out; omega), HB.out _ (below_drewN hb2 _)⟩
    · have hT1 : T = 1 := by have := h2 rfl; omega
      subst hT1
      clear h4 h2
      rw [if_neg (by decide), show wide 1 = 1 from rfl]
      go_enter Try.func13, Try.ntmps13
      go_wp2_with (go_at_call 7; (with_reducible refine cr.mono ?_); rintro e w1 ⟨rfl, hb1⟩; have hk1 := HS.out _ hb1)
      go_ret
      exact ⟨rfl, HB.out _ hb1⟩
    · clear h4 h2
      rw [if_neg (by decide)]
      clear hTb
      have hu : IntKind.u64.wrap (T : Int) = (T : Int) := by have := HT.out; rw [IntWalk.u64_in _ (by omega)]
      go_enter Try.func13, Try.ntmps13
      go_wp2_with (first
        | (go_at_call 7; (with_reducible refine cr.mono ?_); rintro e w1 ⟨rfl, hb1⟩; have hk1 := HS.out _ hb1)
        | (go_at_call 28; (with_reducible refine (ct _ hb1).mono ?_); rintro e w2 ⟨rfl, hb2⟩)
        | (go_at_call 27; (with_reducible refine (cl _).mono ?_); rintro e w3 ⟨L, rfl, hL1, hL2, nd, rfl⟩; have HL := hid hL2; clear hL2))
      go_ret
      exact ⟨ret_int (by have := HL.out; omega), HB.out _ (below_drewN hb2 _)⟩
    · obtain ⟨m1, m2⟩ := h4 rfl
      clear h4 h2
      rw [if_pos rfl]
      obtain ⟨M, rfl⟩ := Int.eq_ofNat_of_zero_le m1
      rw [show ((M : Int)).toNat = M from rfl]
      go_enter Try.func13, Try.ntmps13
      go_wp2_with (go_at_call 7; (with_reducible refine cr.mono ?_); rintro e w1 ⟨rfl, hb1⟩; have hk1 := HS.out _ hb1)
      go_ret
      exact ⟨ret_int (by omega), HB.out _ hb1⟩
  · rw [if_neg hr]
    rw [decide_eq_false hr] at cr
    clear hr hsz
    unfold Gives
    go_enter Try.func13, Try.ntmps13
    go_wp2_with (go_at_call 7; (with_reducible refine cr.mono ?_); rintro e w1 ⟨rfl, hb1⟩; have hk1 := HS.out _ hb1)
    go_ret
    exact ⟨rfl, HB.out _ hb1⟩
end Go.Proofs.Ythpiffafakoheaa.field
