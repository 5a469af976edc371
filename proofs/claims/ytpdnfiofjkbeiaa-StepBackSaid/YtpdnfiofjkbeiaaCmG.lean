/- Contracts and lemmas that the claims of this seat share: FieldSpan, FieldSpanFrom, FieldRefRight, FieldSmall, FieldStore, FieldRefHas, Perm, Plan, PlanMore, FieldHas, SchemaFine. Each says its own conditions. -/
import Derived.Test.YtpdnfiofjkbeiaaCmD
import Derived.IntWalk
import Derived.Handy
import Derived.Deep.MidRow
import Derived.Laws.StructEq
import Derived.Below
import Derived.Test.YtpdnfiofjkbeiaaCmE
/- Contract of the reference's Span of layer 12 (field). No condition. -/
namespace Go.Proofs.Ytpdnfiofjkbeiaa.field
open Go.RowKit
set_option linter.unusedVariables false

theorem results_tmp4 {fn : Func} {t u v x : Tmp} (h : fn.results = #[.tmp t, .tmp u, .tmp v, .tmp x]) (tmps : Array Value) (P : Program) (w : World) :
    (results fn tmps).run P w = .ok (.tuple #[tmps.getD t undef, tmps.getD u undef, tmps.getD v undef, tmps.getD x undef]) w := by
  simp [results, h]
/-- a triple of numbers and a no -/
def SpanNo (w : World) (e : Ending) (w' : World) : Prop := (∃ a b c : Int, e = .returned (.tuple #[.int .i64 a, .int .i64 b, .int .i64 c, .bool false])) ∧ Below w.heap.size w w'
def SpanYes (a b c : Int) (w : World) (e : Ending) (w' : World) : Prop := e = .returned (.tuple #[.int .i64 a, .int .i64 b, .int .i64 c, .bool true]) ∧ Below w.heap.size w w'
theorem span_yes (f : Fd) (h : f.Right) (w : World) : Calls Try.prog 52 #[.agg #[.int .i64 f.id, .int .i64 f.kind, .int .i64 f.lo, .int .i64 f.hi, .int .i64 f.most]] w (SpanYes f.lo f.great f.long w) := by
  have HB := hid (belowF f w)
  obtain ⟨i, k, lo, hi, m⟩ := f
  obtain ⟨⟨h1, h2⟩, h⟩ := h
  simp only at h h1 h2 HB ⊢
  have g1 : i ≥ 0 := h1
  unfold SpanYes
  rcases h with ⟨rfl, h3, h4, h5, rfl⟩ | ⟨rfl, ⟨rfl, rfl⟩, rfl⟩ | ⟨rfl, ⟨rfl, rfl⟩, h3, h4⟩ | ⟨rfl, ⟨rfl, rfl⟩, h3, h4⟩
  · have g4 : lo ≥ -1099511627776 := h4
    rw [show Fd.great ⟨i, 1, lo, hi, 0⟩ = hi from rfl, show Fd.long ⟨i, 1, lo, hi, 0⟩ = 0 from rfl]
    go_enter Try.func52, Try.ntmps52
    go_wp2
    go_quiet (fail)
    go_wp2
    refine bodyPost_ret (results_tmp4 rfl _ _ _) rfl ?_
    exact ⟨rfl, HB.out _ (below_drewN (Below.refl _ _) _)⟩
  · rw [show Fd.great ⟨i, 2, 0, 0, 0⟩ = 1 from rfl, show Fd.long ⟨i, 2, 0, 0, 0⟩ = 0 from rfl]
    go_enter Try.func52, Try.ntmps52
    go_wp2
    go_quiet (fail)
    go_wp2
    refine bodyPost_ret (results_tmp4 rfl _ _ _) rfl ?_
    exact ⟨rfl, HB.out _ (below_drewN (Below.refl _ _) _)⟩
  · rw [show Fd.great ⟨i, 3, 0, 0, m⟩ = m - 1 from rfl, show Fd.long ⟨i, 3, 0, 0, m⟩ = 0 from rfl]
    have g3 : m ≥ 1 := h3
    go_enter Try.func52, Try.ntmps52
    go_wp2
    go_quiet (fail)
    go_wp2
    refine bodyPost_ret (results_tmp4 rfl _ _ _) rfl ?_
    exact ⟨rfl, HB.out _ (below_drewN (Below.refl _ _) _)⟩
  · rw [show Fd.great ⟨i, 4, 0, 0, m⟩ = 0 from rfl, show Fd.long ⟨i, 4, 0, 0, m⟩ = m from rfl]
    have g3 : m ≥ 0 := h3
    go_enter Try.func52, Try.ntmps52
    go_wp2
    go_quiet (fail)
    go_wp2
    refine bodyPost_ret (results_tmp4 rfl _ _ _) rfl ?_
    exact ⟨rfl, HB.out _ (below_drewN (Below.refl _ _) _)⟩
set_option maxHeartbeats 4000000 in
theorem span_no (f : Fd) (h : ¬ f.Right) (w : World) : Calls Try.prog 52 #[.agg #[.int .i64 f.id, .int .i64 f.kind, .int .i64 f.lo, .int .i64 f.hi, .int .i64 f.most]] w (SpanNo w) := by
  have HB := hid (belowF f w)
  obtain ⟨i, k, lo, hi, m⟩ := f
  replace h := Fd.wrong h
  simp only at h HB ⊢
  unfold SpanNo
  by_cases a0 : (0 ≤ i ∧ i ≤ 255)
  · have h : _ := Or.resolve_left h (by omega)
    obtain ⟨⟨h1, h2⟩, h⟩ := h
    have g1 : i ≥ 0 := h1
    clear a0
    rcases h with ⟨rfl, h⟩ | ⟨rfl, h⟩ | ⟨rfl, h⟩ | ⟨rfl, h⟩ | ⟨n1, n2, n3, n4⟩
    · by_cases c1 : lo ≥ -1099511627776
      · by_cases c2 : hi ≤ 1099511627776
        · by_cases c3 : lo ≤ hi
          · have hd : (m == 0) = false := by rw [beq_eq_false_iff_ne]; omega
            clear h
            go_enter Try.func52, Try.ntmps52
            go_wp2
            go_quiet (fail)
            go_wp2
            refine bodyPost_ret (results_tmp4 rfl _ _ _) rfl ?_
            exact ⟨⟨_, _, _, rfl⟩, HB.out _ (below_drewN (Below.refl _ _) _)⟩
          · have hd : decide (lo ≤ hi) = false := decide_eq_false c3
            clear h c3
            go_enter Try.func52, Try.ntmps52
            go_wp2
            go_quiet (fail)
            go_wp2
            refine bodyPost_ret (results_tmp4 rfl _ _ _) rfl ?_
            exact ⟨⟨_, _, _, rfl⟩, HB.out _ (below_drewN (Below.refl _ _) _)⟩
        · have hd : decide (hi ≤ 1099511627776) = false := decide_eq_false c2
          clear h c2
          go_enter Try.func52, Try.ntmps52
          go_wp2
          go_quiet (fail)
          go_wp2
          refine bodyPost_ret (results_tmp4 rfl _ _ _) rfl ?_
          exact ⟨⟨_, _, _, rfl⟩, HB.out _ (below_drewN (Below.refl _ _) _)⟩
      · have hd : decide (lo ≥ -1099511627776) = false := decide_eq_false c1
        clear h c1
        go_enter Try.func52, Try.ntmps52
        go_wp2
        go_quiet (fail)
        go_wp2
        refine bodyPost_ret (results_tmp4 rfl _ _ _) rfl ?_
        exact ⟨⟨_, _, _, rfl⟩, HB.out _ (below_drewN (Below.refl _ _) _)⟩
    · by_cases c1 : lo = 0
      · by_cases c2 : hi = 0
        · subst c1 c2
          have hd : (m == 0) = false := by rw [beq_eq_false_iff_ne]; omega
          clear h
          go_enter Try.func52, Try.ntmps52
          go_wp2
          go_quiet (fail)
          go_wp2
          refine bodyPost_ret (results_tmp4 rfl _ _ _) rfl ?_
          exact ⟨⟨_, _, _, rfl⟩, HB.out _ (below_drewN (Below.refl _ _) _)⟩
        · subst c1
          have hd : (hi == 0) = false := by rw [beq_eq_false_iff_ne]; omega
          clear h c2
          go_enter Try.func52, Try.ntmps52
          go_wp2
          go_quiet (fail)
          go_wp2
          refine bodyPost_ret (results_tmp4 rfl _ _ _) rfl ?_
          exact ⟨⟨_, _, _, rfl⟩, HB.out _ (below_drewN (Below.refl _ _) _)⟩
      · have hd : (lo == 0) = false := by rw [beq_eq_false_iff_ne]; omega
        clear h c1
        go_enter Try.func52, Try.ntmps52
        go_wp2
        go_quiet (fail)
        go_wp2
        refine bodyPost_ret (results_tmp4 rfl _ _ _) rfl ?_
        exact ⟨⟨_, _, _, rfl⟩, HB.out _ (below_drewN (Below.refl _ _) _)⟩
    · by_cases c1 : lo = 0
      · by_cases c2 : hi = 0
        · subst c1 c2
          by_cases c3 : m ≥ 1
          · have hd : decide (m ≤ 1000) = false := decide_eq_false (by omega)
            clear h
            go_enter Try.func52, Try.ntmps52
            go_wp2
            go_quiet (fail)
            go_wp2
            refine bodyPost_ret (results_tmp4 rfl _ _ _) rfl ?_
            exact ⟨⟨_, _, _, rfl⟩, HB.out _ (below_drewN (Below.refl _ _) _)⟩
          · have hd : decide (m ≥ 1) = false := decide_eq_false c3
            clear h c3
            go_enter Try.func52, Try.ntmps52
            go_wp2
            go_quiet (fail)
            go_wp2
            refine bodyPost_ret (results_tmp4 rfl _ _ _) rfl ?_
            exact ⟨⟨_, _, _, rfl⟩, HB.out _ (below_drewN (Below.refl _ _) _)⟩
        · subst c1
          have hd : (hi == 0) = false := by rw [beq_eq_false_iff_ne]; omega
          clear h c2
          go_enter Try.func52, Try.ntmps52
          go_wp2
          go_quiet (fail)
          go_wp2
          refine bodyPost_ret (results_tmp4 rfl _ _ _) rfl ?_
          exact ⟨⟨_, _, _, rfl⟩, HB.out _ (below_drewN (Below.refl _ _) _)⟩
      · have hd : (lo == 0) = false := by rw [beq_eq_false_iff_ne]; omega
        clear h c1
        go_enter Try.func52, Try.ntmps52
        go_wp2
        go_quiet (fail)
        go_wp2
        refine bodyPost_ret (results_tmp4 rfl _ _ _) rfl ?_
        exact ⟨⟨_, _, _, rfl⟩, HB.out _ (below_drewN (Below.refl _ _) _)⟩
    · by_cases c1 : lo = 0
      · by_cases c2 : hi = 0
        · subst c1 c2
          by_cases c3 : m ≥ 0
          · have hd : decide (m ≤ 32) = false := decide_eq_false (by omega)
            clear h
            go_enter Try.func52, Try.ntmps52
            go_wp2
            go_quiet (fail)
            go_wp2
            refine bodyPost_ret (results_tmp4 rfl _ _ _) rfl ?_
            exact ⟨⟨_, _, _, rfl⟩, HB.out _ (below_drewN (Below.refl _ _) _)⟩
          · have hd : decide (m ≥ 0) = false := decide_eq_false c3
            clear h c3
            go_enter Try.func52, Try.ntmps52
            go_wp2
            go_quiet (fail)
            go_wp2
            refine bodyPost_ret (results_tmp4 rfl _ _ _) rfl ?_
            exact ⟨⟨_, _, _, rfl⟩, HB.out _ (below_drewN (Below.refl _ _) _)⟩
        · subst c1
          have hd : (hi == 0) = false := by rw [beq_eq_false_iff_ne]; omega
          clear h c2
          go_enter Try.func52, Try.ntmps52
          go_wp2
          go_quiet (fail)
          go_wp2
          refine bodyPost_ret (results_tmp4 rfl _ _ _) rfl ?_
          exact ⟨⟨_, _, _, rfl⟩, HB.out _ (below_drewN (Below.refl _ _) _)⟩
      · have hd : (lo == 0) = false := by rw [beq_eq_false_iff_ne]; omega
        clear h c1
        go_enter Try.func52, Try.ntmps52
        go_wp2
        go_quiet (fail)
        go_wp2
        refine bodyPost_ret (results_tmp4 rfl _ _ _) rfl ?_
        exact ⟨⟨_, _, _, rfl⟩, HB.out _ (below_drewN (Below.refl _ _) _)⟩
    · have e1 : (k == 1) = false := by rw [beq_eq_false_iff_ne]; exact n1
      have e2 : (k == 2) = false := by rw [beq_eq_false_iff_ne]; exact n2
      have e3 : (k == 3) = false := by rw [beq_eq_false_iff_ne]; exact n3
      have e4 : (k == 4) = false := by rw [beq_eq_false_iff_ne]; exact n4
      clear n1 n2 n3 n4
      go_enter Try.func52, Try.ntmps52
      go_wp2
      go_wp2
      refine bodyPost_ret (results_tmp4 rfl _ _ _) rfl ?_
      exact ⟨⟨_, _, _, rfl⟩, HB.out _ (Below.refl _ _)⟩
  · clear h
    by_cases a1 : i ≥ 0
    · have hd : decide (i ≤ 255) = false := decide_eq_false (by omega)
      clear a0
      by_cases k1 : k = 1
      · subst k1
        go_enter Try.func52, Try.ntmps52
        go_wp2
        go_quiet (fail)
        go_wp2
        refine bodyPost_ret (results_tmp4 rfl _ _ _) rfl ?_
        exact ⟨⟨_, _, _, rfl⟩, HB.out _ (below_drewN (Below.refl _ _) _)⟩
      · by_cases k2 : k = 2
        · subst k2
          go_enter Try.func52, Try.ntmps52
          go_wp2
          go_quiet (fail)
          go_wp2
          refine bodyPost_ret (results_tmp4 rfl _ _ _) rfl ?_
          exact ⟨⟨_, _, _, rfl⟩, HB.out _ (below_drewN (Below.refl _ _) _)⟩
        · by_cases k3 : k = 3
          · subst k3
            go_enter Try.func52, Try.ntmps52
            go_wp2
            go_quiet (fail)
            go_wp2
            refine bodyPost_ret (results_tmp4 rfl _ _ _) rfl ?_
            exact ⟨⟨_, _, _, rfl⟩, HB.out _ (below_drewN (Below.refl _ _) _)⟩
          · by_cases k4 : k = 4
            · subst k4
              go_enter Try.func52, Try.ntmps52
              go_wp2
              go_quiet (fail)
              go_wp2
              refine bodyPost_ret (results_tmp4 rfl _ _ _) rfl ?_
              exact ⟨⟨_, _, _, rfl⟩, HB.out _ (below_drewN (Below.refl _ _) _)⟩
            · have e1 : (k == 1) = false := by rw [beq_eq_false_iff_ne]; exact k1
              have e2 : (k == 2) = false := by rw [beq_eq_false_iff_ne]; exact k2
              have e3 : (k == 3) = false := by rw [beq_eq_false_iff_ne]; exact k3
              have e4 : (k == 4) = false := by rw [beq_eq_false_iff_ne]; exact k4
              clear k1 k2 k3 k4
              go_enter Try.func52, Try.ntmps52
              go_wp2
              go_wp2
              refine bodyPost_ret (results_tmp4 rfl _ _ _) rfl ?_
              exact ⟨⟨_, _, _, rfl⟩, HB.out _ (Below.refl _ _)⟩
    · have hd : decide (i ≥ 0) = false := decide_eq_false a1
      clear a0 a1
      by_cases k1 : k = 1
      · subst k1
        go_enter Try.func52, Try.ntmps52
        go_wp2
        go_quiet (fail)
        go_wp2
        refine bodyPost_ret (results_tmp4 rfl _ _ _) rfl ?_
        exact ⟨⟨_, _, _, rfl⟩, HB.out _ (below_drewN (Below.refl _ _) _)⟩
      · by_cases k2 : k = 2
        · subst k2
          go_enter Try.func52, Try.ntmps52
          go_wp2
          go_quiet (fail)
          go_wp2
          refine bodyPost_ret (results_tmp4 rfl _ _ _) rfl ?_
          exact ⟨⟨_, _, _, rfl⟩, HB.out _ (below_drewN (Below.refl _ _) _)⟩
        · by_cases k3 : k = 3
          · subst k3
            go_enter Try.func52, Try.ntmps52
            go_wp2
            go_quiet (fail)
            go_wp2
            refine bodyPost_ret (results_tmp4 rfl _ _ _) rfl ?_
            exact ⟨⟨_, _, _, rfl⟩, HB.out _ (below_drewN (Below.refl _ _) _)⟩
          · by_cases k4 : k = 4
            · subst k4
              go_enter Try.func52, Try.ntmps52
              go_wp2
              go_quiet (fail)
              go_wp2
              refine bodyPost_ret (results_tmp4 rfl _ _ _) rfl ?_
              exact ⟨⟨_, _, _, rfl⟩, HB.out _ (below_drewN (Below.refl _ _) _)⟩
            · have e1 : (k == 1) = false := by rw [beq_eq_false_iff_ne]; exact k1
              have e2 : (k == 2) = false := by rw [beq_eq_false_iff_ne]; exact k2
              have e3 : (k == 3) = false := by rw [beq_eq_false_iff_ne]; exact k3
              have e4 : (k == 4) = false := by rw [beq_eq_false_iff_ne]; exact k4
              clear k1 k2 k3 k4
              go_enter Try.func52, Try.ntmps52
              go_wp2
              go_wp2
              refine bodyPost_ret (results_tmp4 rfl _ _ _) rfl ?_
              exact ⟨⟨_, _, _, rfl⟩, HB.out _ (Below.refl _ _)⟩
end Go.Proofs.Ytpdnfiofjkbeiaa.field
/- Contract of the reference's Span, seen from an elder world. No condition. -/
namespace Go.Proofs.Ytpdnfiofjkbeiaa.field
open Go.RowKit
set_option linter.unusedVariables false

theorem span_from (f : Fd) (h : f.Right) {w0 w : World} (hb : Below w0.heap.size w0 w) : Calls Try.prog 52 #[.agg #[.int .i64 f.id, .int .i64 f.kind, .int .i64 f.lo, .int .i64 f.hi, .int .i64 f.most]] w fun e w' => e = .returned (.tuple #[.int .i64 f.lo, .int .i64 f.great, .int .i64 f.long, .bool true]) ∧ Below w0.heap.size w0 w' :=
  (span_yes f h w).mono fun _ _ ⟨he, hw⟩ => ⟨he, hb.trans (hw.mono hb.size)⟩
theorem span_from_no (f : Fd) (h : ¬ f.Right) {w0 w : World} (hb : Below w0.heap.size w0 w) : Calls Try.prog 52 #[.agg #[.int .i64 f.id, .int .i64 f.kind, .int .i64 f.lo, .int .i64 f.hi, .int .i64 f.most]] w fun e w' => (∃ a b c : Int, e = .returned (.tuple #[.int .i64 a, .int .i64 b, .int .i64 c, .bool false])) ∧ Below w0.heap.size w0 w' :=
  (span_no f h w).mono fun _ _ ⟨he, hw⟩ => ⟨he, hb.trans (hw.mono hb.size)⟩
end Go.Proofs.Ytpdnfiofjkbeiaa.field
/- Contracts of the reference's Right, wide, Size of layer 12 (field). No condition. -/
namespace Go.Proofs.Ytpdnfiofjkbeiaa.field
open Go.RowKit
set_option linter.unusedVariables false

theorem refRight_any (f : Fd) (w : World) : Calls Try.prog 26 #[.agg #[.int .i64 f.id, .int .i64 f.kind, .int .i64 f.lo, .int .i64 f.hi, .int .i64 f.most]] w (Gives (.bool (decide f.Right)) w) := by
  have HB := hid (belowF f w)
  unfold Gives
  by_cases h : f.Right
  · rw [decide_eq_true h]
    have cs := span_from f h (w0 := (w.alloc (.cells #[.int .i64 f.id, .int .i64 f.kind, .int .i64 f.lo, .int .i64 f.hi, .int .i64 f.most] 23))) (Below.refl _ _)
    clear h
    generalize f.great = G at *
    generalize f.long = L at *
    go_enter Try.func26, Try.ntmps26
    go_wp2_with (go_at_call 52; (with_reducible refine cs.mono ?_); rintro e w1 ⟨rfl, hb1⟩)
    go_ret
    exact ⟨rfl, HB.out _ hb1⟩
  · rw [decide_eq_false h]
    have cs := span_from_no f h (w0 := (w.alloc (.cells #[.int .i64 f.id, .int .i64 f.kind, .int .i64 f.lo, .int .i64 f.hi, .int .i64 f.most] 23))) (Below.refl _ _)
    clear h
    go_enter Try.func26, Try.ntmps26
    go_wp2_with (go_at_call 52; (with_reducible refine cs.mono ?_); rintro e w1 ⟨⟨a, b, c, rfl⟩, hb1⟩)
    go_ret
    exact ⟨rfl, HB.out _ hb1⟩
theorem refWide_any (n : Nat) (hn : n < 281474976710656) (w : World) : Calls Try.prog 89 #[.int .i64 (n : Int)] w (Quiet (.int .i64 (wide n : Int)) w) := by
  go_enter Try.func89, Try.ntmps89
  go_wp2
  go_loopw [0, 3] (fun m k wr => ∃ (q j : Nat), m = .int .i64 (q : Int) ∧ k = .int .i64 (j : Int) ∧ q ≤ n ∧ j ≤ 100 ∧ Hid (j + wide q = wide n) ∧ w = wr) (fun m k wr => (intOf m).toNat)
  case atStart => exact ⟨n, 0, rfl, rfl, Nat.le_refl _, by omega, hid (by omega), rfl⟩
  case round =>
    obtain ⟨q, j, rfl, rfl, hq, hj, hw, rfl⟩ := hrel
    by_cases hlt : 0 < q
    · have hd := wide_div hlt (by omega)
      have hw6 := wide_le n
      have := hw.out
      have hj6 : j < 7 := by omega
      have HN : Hid (j + 1 + wide (q / 256) = wide n) := hid (by omega)
      clear hw hd this
      go_wp2
      go_round
      · exact ⟨q / 256, j + 1, by simp, by simp, by omega, by omega, HN, trivial⟩
      · simp [intOf]; omega
    · obtain rfl : q = 0 := by omega
      have hj2 := hw.out
      rw [show wide 0 = 0 from rfl] at hj2
      obtain rfl : j = wide n := by omega
      clear hw hj2 hlt
      generalize wide n = W at *
      go_wp2
      go_ret
      exact ⟨rfl, 0, rfl⟩
theorem refSize_any (f : Fd) (w : World) : Calls Try.prog 79 #[.agg #[.int .i64 f.id, .int .i64 f.kind, .int .i64 f.lo, .int .i64 f.hi, .int .i64 f.most]] w (Gives (.int .i64 (f.size : Int)) w) := by
  have HB := hid (belowF f w)
  have HS := hid (five f w)
  have hsz : f.size = if f.Right then (if f.kind = 4 then 1 + f.most.toNat else wide (f.great - f.lo).toNat) else 0 := rfl
  rw [hsz]
  unfold Gives
  by_cases hr : f.Right
  · rw [if_pos hr]
    have cs := span_from f hr (w0 := (w.alloc (.cells #[.int .i64 f.id, .int .i64 f.kind, .int .i64 f.lo, .int .i64 f.hi, .int .i64 f.most] 23))) (Below.refl _ _)
    have hsp := hr.span
    by_cases h4 : f.kind = 4
    · rw [if_pos h4]
      have hl : f.long = f.most := by unfold Fd.long; rw [if_pos h4]
      rw [hl] at cs
      have hm : 0 ≤ f.most ∧ f.most ≤ 32 := by unfold Fd.Right at hr; omega
      obtain ⟨M, hM⟩ := Int.eq_ofNat_of_zero_le hm.1
      rw [hM] at cs HB HS ⊢
      rw [show ((M : Int)).toNat = M from rfl]
      have m2 : M ≤ 32 := by omega
      have e4 : (f.kind == 4) = true := by rw [beq_iff_eq]; exact h4
      clear hl hm hsp hr hsz h4
      generalize f.great = G at *
      go_enter Try.func79, Try.ntmps79
      go_wp2_with (go_at_call 52; go_loud ((with_reducible refine cs.mono ?_); rintro e w1 ⟨rfl, hb1⟩; have hk1 := HS.out _ hb1))
      go_ret
      exact ⟨ret_int (by omega), HB.out _ hb1⟩
    · rw [if_neg h4]
      obtain ⟨T, hT⟩ : ∃ T : Nat, f.great - f.lo = (T : Int) := ⟨(f.great - f.lo).toNat, by omega⟩
      have hTb : T ≤ 2199023255552 := by omega
      rw [hT]
      rw [show ((T : Int)).toNat = T from rfl]
      have cw := refWide_any T (by omega)
      have e4 : (f.kind == 4) = false := by rw [beq_eq_false_iff_ne]; exact h4
      have s1 := hsp.2.2.1
      have s2 := hsp.2.2.2.1
      clear hsp hr hsz h4
      generalize f.great = G at *
      generalize f.long = L at *
      obtain rfl : G = f.lo + (T : Int) := by omega
      clear hT
      have hsub : f.lo + (T : Int) - f.lo = (T : Int) := by omega
      go_enter Try.func79, Try.ntmps79
      go_wp2_with (first
        | (go_at_call 52; (with_reducible refine cs.mono ?_); rintro e w1 ⟨rfl, hb1⟩; have hk1 := HS.out _ hb1)
        | (go_at_call 89; (try rw [hsub]); (with_reducible refine (cw _).mono ?_); rintro e w2 ⟨rfl, nd, rfl⟩))
      go_ret
      exact ⟨rfl, HB.out _ (below_drewN hb1 _)⟩
  · rw [if_neg hr]
    have cs := span_from_no f hr (w0 := (w.alloc (.cells #[.int .i64 f.id, .int .i64 f.kind, .int .i64 f.lo, .int .i64 f.hi, .int .i64 f.most] 23))) (Below.refl _ _)
    clear hr hsz
    go_enter Try.func79, Try.ntmps79
    go_wp2_with (go_at_call 52; (with_reducible refine cs.mono ?_); rintro e w1 ⟨⟨a, b, c, rfl⟩, hb1⟩; have hk1 := HS.out _ hb1)
    go_ret
    exact ⟨rfl, HB.out _ hb1⟩
end Go.Proofs.Ytpdnfiofjkbeiaa.field
/- Contracts of layer 12 (field): greatest, longest, top, Least, Size. No condition but a right field. -/
namespace Go.Proofs.Ytpdnfiofjkbeiaa.field
open Go.RowKit
set_option linter.unusedVariables false
theorem longest_any (f : Fd) (w : World) : Calls Try.prog 75 #[.agg #[.int .i64 f.id, .int .i64 f.kind, .int .i64 f.lo, .int .i64 f.hi, .int .i64 f.most]] w (Gives (.int .i64 f.long) w) := by
  obtain ⟨i, k, lo, hi, m⟩ := f
  simp only
  unfold Gives
  by_cases hk : k = 4
  · subst hk
    rw [show Fd.long ⟨i, 4, lo, hi, m⟩ = m from rfl]
    go_enter Try.func75, Try.ntmps75
    go_wp2
    go_ret
    exact ⟨rfl, newB _ _⟩
  · rw [show Fd.long ⟨i, k, lo, hi, m⟩ = 0 from if_neg hk]
    have e4 : (k == 4) = false := by rw [beq_eq_false_iff_ne]; exact hk
    clear hk
    go_enter Try.func75, Try.ntmps75
    go_wp2
    go_ret
    exact ⟨rfl, newB _ _⟩
end Go.Proofs.Ytpdnfiofjkbeiaa.field
/- A result that is a value of a field and lives in a variable: stored and returned. No condition. -/
namespace Go.Proofs.Ytpdnfiofjkbeiaa.field
open Go.RowKit
set_option linter.unusedVariables false

/-- a value that has just been boxed stays -/
theorem two (v : Va) (w w' : World) (hb : Below (w.alloc (.cells #[.int .i64 v.n, .string v.s] 25)).heap.size (w.alloc (.cells #[.int .i64 v.n, .string v.s] 25)) w') : (w'.cell? ⟨w.heap.size, 0, none⟩ = some (.int .i64 v.n) ∧ w'.cell? ⟨w.heap.size, 1, none⟩ = some (.string v.s)) := by
  have hB := (Block.new w 25 [.int .i64 v.n, .string v.s]).later hb
  exact ⟨hB.cell 0, hB.cell 1⟩
/-- the world in which a field has been boxed and the result's variable made -/
def W2 (f : Fd) (w : World) : World := (w.alloc (.cells #[.int .i64 f.id, .int .i64 f.kind, .int .i64 f.lo, .int .i64 f.hi, .int .i64 f.most] 23)).alloc (.cells #[.int .i64 0, .string ⟨#[]⟩] 25)
theorem W2.all (f : Fd) (w w' : World) (hb : Below (W2 f w).heap.size (W2 f w) w') : (w'.cell? ⟨w.heap.size, 0, none⟩ = some (.int .i64 f.id) ∧ w'.cell? ⟨w.heap.size, 1, none⟩ = some (.int .i64 f.kind) ∧ w'.cell? ⟨w.heap.size, 2, none⟩ = some (.int .i64 f.lo) ∧ w'.cell? ⟨w.heap.size, 3, none⟩ = some (.int .i64 f.hi) ∧ w'.cell? ⟨w.heap.size, 4, none⟩ = some (.int .i64 f.most)) ∧ Block w' (w.heap.size + 1) 25 [.int .i64 0, .string ⟨#[]⟩] ∧ Below w.heap.size w w' := by
  have h1 : Below (w.alloc (.cells #[.int .i64 f.id, .int .i64 f.kind, .int .i64 f.lo, .int .i64 f.hi, .int .i64 f.most] 23)).heap.size (w.alloc (.cells #[.int .i64 f.id, .int .i64 f.kind, .int .i64 f.lo, .int .i64 f.hi, .int .i64 f.most] 23)) w' := (newB _ _).trans (hb.mono (by unfold W2; simp))
  refine ⟨five f w w' h1, ?_, belowF f w w' h1⟩
  have h2 := (Block.new (w.alloc (.cells #[.int .i64 f.id, .int .i64 f.kind, .int .i64 f.lo, .int .i64 f.hi, .int .i64 f.most] 23)) 25 [.int .i64 0, .string ⟨#[]⟩]).later hb
  simpa using h2
theorem val_there {w : World} {b : Nat} {x y : Value} (h : Block w b 25 [x, y]) (n : Int) (s : ByteArray) : w.there b 0 (#[.int .i64 n, .string s] : Array Value).size := h.there 0 2 (by simp)
theorem val_info (n : Int) (s : ByteArray) : (Try.prog.info? 25).map (·.size) = some (#[.int .i64 n, .string s] : Array Value).size := by kernel_rfl
theorem val_info2 (n : Int) (s : ByteArray) : (Try.prog.info? 25).map (·.size) = some [Value.int .i64 n, Value.string s].length := by kernel_rfl
theorem val_one (n : Int) (s : ByteArray) : (#[.int .i64 n, .string s] : Array Value).all (·.oneCell') = true := by simp [Value.oneCell']
theorem val_stored {w w2 a : World} {b B : Nat} {x y : Value} {n : Int} {s : ByteArray} (h : Block w b 25 [x, y]) (hw : Hid (w.setCells b 0 (#[.int .i64 n, .string s] : Array Value).toList = w2)) (hb : B ≤ b) (ha : Below B a w) :
    Block w2 b 25 [.int .i64 n, .string s] ∧ Below B a w2 := by
  constructor
  · have := h.setCells (vs := [.int .i64 n, .string s]) (o := 0)
    rw [put_all _ _ (by simp)] at this
    rw [← hw.out]
    exact this
  · rw [← hw.out]
    exact below_setCells ha hb _ _
/-- three results of which the first lives in a variable -/
theorem results_cell3 {fn : Func} {p u v : Tmp} {ty : TypeId} {tmps : Array Value} {P : Program} {w : World} {b o : Nat} {cs : List Value} {d : TypeDesc} (h : fn.results = #[.cell p ty, .tmp u, .tmp v])
    (hp : tmps.getD p undef = .pointer (some ⟨b, o, none⟩)) (hc : w.rangeAt b o cs) (hu : P.underlying ty = some d) (hd : d.isRow = true) (hi : (P.info? ty).map (·.size) = some cs.length) :
    (results fn tmps).run P w = .ok (.tuple #[.agg cs.toArray, tmps.getD u undef, tmps.getD v undef]) w := by
  simp only [results, h]
  simp at hp
  simp [hp, asAddr, run_loadVar_mid w b o ty cs d hc hu hd hi]
end Go.Proofs.Ytpdnfiofjkbeiaa.field
/- Contract of the reference of layer 12 (field): Has. No condition. -/
namespace Go.Proofs.Ytpdnfiofjkbeiaa.field
open Go.RowKit
set_option linter.unusedVariables false
/-- the world in which a field and a value have been boxed -/
def WV (f : Fd) (v : Va) (w : World) : World := (w.alloc (.cells #[.int .i64 f.id, .int .i64 f.kind, .int .i64 f.lo, .int .i64 f.hi, .int .i64 f.most] 23)).alloc (.cells #[.int .i64 v.n, .string v.s] 25)
theorem WV.all (f : Fd) (v : Va) (w w' : World) (hb : Below (WV f v w).heap.size (WV f v w) w') : (w'.cell? ⟨w.heap.size, 0, none⟩ = some (.int .i64 f.id) ∧ w'.cell? ⟨w.heap.size, 1, none⟩ = some (.int .i64 f.kind) ∧ w'.cell? ⟨w.heap.size, 2, none⟩ = some (.int .i64 f.lo) ∧ w'.cell? ⟨w.heap.size, 3, none⟩ = some (.int .i64 f.hi) ∧ w'.cell? ⟨w.heap.size, 4, none⟩ = some (.int .i64 f.most)) ∧ (w'.cell? ⟨w.heap.size + 1, 0, none⟩ = some (.int .i64 v.n) ∧ w'.cell? ⟨w.heap.size + 1, 1, none⟩ = some (.string v.s)) ∧ Below w.heap.size w w' := by
  have h1 : Below (w.alloc (.cells #[.int .i64 f.id, .int .i64 f.kind, .int .i64 f.lo, .int .i64 f.hi, .int .i64 f.most] 23)).heap.size (w.alloc (.cells #[.int .i64 f.id, .int .i64 f.kind, .int .i64 f.lo, .int .i64 f.hi, .int .i64 f.most] 23)) w' := (newB _ _).trans (hb.mono (by unfold WV; simp))
  refine ⟨five f w w' h1, ?_, belowF f w w' h1⟩
  have h2 := two v (w.alloc (.cells #[.int .i64 f.id, .int .i64 f.kind, .int .i64 f.lo, .int .i64 f.hi, .int .i64 f.most] 23)) w' hb
  simpa using h2
theorem refHas_any (f : Fd) (v : Va) (w : World) : Calls Try.prog 27 #[.agg #[.int .i64 f.id, .int .i64 f.kind, .int .i64 f.lo, .int .i64 f.hi, .int .i64 f.most], .agg #[.int .i64 v.n, .string v.s]] w (Gives (.bool (decide (f.Has v))) w) := by
  have HW := hid (WV.all f v w)
  obtain ⟨V, hV⟩ : ∃ V, Hid (decide (f.Has v) = V) := ⟨_, rfl⟩
  rw [hV.out]
  unfold Gives
  by_cases h : f.Right
  · have cs := span_from f h (w0 := WV f v w) (Below.refl _ _)
    have HQ : Hid (f.Has v ↔ (v.n ≥ f.lo ∧ v.n ≤ f.great ∧ (v.s.size : Int) ≤ f.long)) := hid ⟨fun k => ⟨k.2.1.1, k.2.1.2, k.2.2⟩, fun k => ⟨h, ⟨k.1, k.2.1⟩, k.2.2⟩⟩
    unfold WV at cs HW
    clear h
    generalize f.great = G at *
    generalize f.long = L at *
    generalize hN : (v.s.size : Int) = N at *
    by_cases a1 : v.n ≥ f.lo
    · by_cases a2 : v.n ≤ G
      · by_cases a3 : N ≤ L
        · have HY : Hid (true = V) := hid (by rw [← hV.out]; symm; exact decide_eq_true (HQ.out.2 ⟨a1, a2, a3⟩))
          clear HQ hV
          go_enter Try.func27, Try.ntmps27
          go_wp2_with (go_at_call 52; (with_reducible refine cs.mono ?_); rintro e w1 ⟨rfl, hb1⟩; obtain ⟨hf1, hv1, hbw1⟩ := HW.out _ hb1; clear cs)
          go_ret
          exact ⟨ret_bool HY.out, hbw1⟩
        · have HY : Hid (false = V) := hid (by rw [← hV.out]; symm; exact decide_eq_false (fun k => a3 (HQ.out.1 k).2.2))
          have d3 : decide (N ≤ L) = false := decide_eq_false a3
          clear HQ hV a3
          go_enter Try.func27, Try.ntmps27
          go_wp2_with (go_at_call 52; (with_reducible refine cs.mono ?_); rintro e w1 ⟨rfl, hb1⟩; obtain ⟨hf1, hv1, hbw1⟩ := HW.out _ hb1; clear cs)
          go_ret
          exact ⟨ret_bool HY.out, hbw1⟩
      · have HY : Hid (false = V) := hid (by rw [← hV.out]; symm; exact decide_eq_false (fun k => a2 (HQ.out.1 k).2.1))
        have d3 : decide (v.n ≤ G) = false := decide_eq_false a2
        clear HQ hV a2
        go_enter Try.func27, Try.ntmps27
        go_wp2_with (go_at_call 52; (with_reducible refine cs.mono ?_); rintro e w1 ⟨rfl, hb1⟩; obtain ⟨hf1, hv1, hbw1⟩ := HW.out _ hb1; clear cs)
        go_ret
        exact ⟨ret_bool HY.out, hbw1⟩
    · have HY : Hid (false = V) := hid (by rw [← hV.out]; symm; exact decide_eq_false (fun k => a1 (HQ.out.1 k).1))
      have d3 : decide (v.n ≥ f.lo) = false := decide_eq_false a1
      clear HQ hV a1
      go_enter Try.func27, Try.ntmps27
      go_wp2_with (go_at_call 52; (with_reducible refine cs.mono ?_); rintro e w1 ⟨rfl, hb1⟩; obtain ⟨hf1, hv1, hbw1⟩ := HW.out _ hb1; clear cs)
      go_ret
      exact ⟨ret_bool HY.out, hbw1⟩
  · have cs := span_from_no f h (w0 := WV f v w) (Below.refl _ _)
    have HY : Hid (false = V) := hid (by rw [← hV.out]; symm; exact decide_eq_false (fun k => h k.1))
    unfold WV at cs HW
    clear h hV
    go_enter Try.func27, Try.ntmps27
    go_wp2_with (go_at_call 52; (with_reducible refine cs.mono ?_); rintro e w1 ⟨⟨a, b, c, rfl⟩, hb1⟩; obtain ⟨hf1, hv1, hbw1⟩ := HW.out _ hb1; clear cs)
    go_ret
    exact ⟨ret_bool HY.out, hbw1⟩
end Go.Proofs.Ytpdnfiofjkbeiaa.field
/- A region whose order is open: operations that look at no memory are taken first, in an order that the prover names; the others stand in one row. No condition. -/
namespace Go.Proofs.Ytpdnfiofjkbeiaa.perm
open Go

section
variable {P : Program} {ops : Array Oper} {md : Region.Mode}

/-- an operation that yields a value, or nothing -/
def plainOp : Op → Bool
  | .move _ | .assign _ | .load _ _ | .binOp .. | .unOp .. | .slice .. | .fieldAddr .. | .indexAddr .. | .index .. | .extract .. | .convert .. => true
  | .nilCheck _ => true
  | _ => false
theorem plain_value {ρ : Operand → Value} {o : Oper} {w w' : World} {n : Next} (h : plainOp o.op = true) (hr : (execOp ρ o).run P w = .ok n w') : ∃ u, n = .value u := by
  have key : ∀ (s : Sem Value), (do let x ← s; pure (Next.value x) : Sem Next).run P w = .ok n w' → ∃ u, n = .value u := fun s hs => by
    rw [Sem.run_bind] at hs
    cases hq : s.run P w with
    | ok u w1 => rw [hq] at hs; simp [Result.andThen] at hs; exact ⟨u, hs.1.symm⟩
    | halt x w1 => rw [hq] at hs; simp [Result.andThen] at hs
  unfold execOp at hr
  cases ho : o.op <;> rw [ho] at h hr <;> simp only [plainOp] at h <;> try cases h
  case move x => simp at hr; exact ⟨_, hr.1.symm⟩
  case assign x => simp at hr; exact ⟨_, hr.1.symm⟩
  case nilCheck x =>
    dsimp only at hr
    split at hr
    · simp [runtimePanic, Sem.run_bind, Result.andThen] at hr
    · simp [runtimePanic] at hr
    · simp [runtimePanic] at hr
    · split at hr
      · simp [runtimePanic] at hr
      · simp only [Sem.run_bind] at hr
        generalize Sem.run P program _ = r1 at hr
        cases r1 with
        | halt x w1 => simp [Result.andThen] at hr
        | ok p w1 =>
          simp only [Result.andThen] at hr
          generalize Sem.run P (nilAhead _ _ _ _) _ = r2 at hr
          cases r2 with
          | halt x w2 => simp at hr
          | ok q w2 =>
            simp only at hr
            split at hr
            · simp [unsupported, Result.andThen] at hr
            · simp at hr; exact ⟨_, hr.1.symm⟩
      · simp at hr; exact ⟨_, hr.1.symm⟩
    · simp at hr; exact ⟨_, hr.1.symm⟩
  all_goals exact key _ hr

theorem yieldsIf_of_in {o : Oper} {v : Value} {a : Act} (hp : plainOp o.op = true) (hy : YieldsIn P ops (fun _ => True) o v a) : YieldsIf P ops (fun _ => True) o v a := by
  rcases hy with ⟨hw, hv⟩ | hy
  · refine .inl ⟨hw, fun w' _ => ?_⟩
    have h3 := hv w' trivial
    unfold Oper.quietAt at h3
    generalize hr : (execOp a.eval o).run P w' = r at h3
    cases r with
    | halt x w2 => simp only [Oper.quietUpon] at h3
    | ok n w2 =>
      obtain ⟨u, rfl⟩ := plain_value hp hr
      simp only [Oper.quietUpon] at h3
      rw [h3.1, h3.2]
  · exact .inr hy

def lexFirst (md : Region.Mode) (ops : Array Oper) (F : Array Bool → Bool) : List Nat → Array Bool → Bool
  | [], listed => F listed
  | k :: is, listed => (Region.ready md ops listed).contains k && Region.free md ops listed k && ((ops[k]?).map (fun o => plainOp o.op) == some true) && lexFirst md ops F is (listed.setIfInBounds k true)
def seqOf (md : Region.Mode) (ops : Array Oper) : List Nat → Array Bool → Bool
  | [], listed => (Region.ready md ops listed).isEmpty
  | k :: js, listed => decide (Region.ready md ops listed = [k]) && decide (k < ops.size) && seqOf md ops js (listed.setIfInBounds k true)
def permB (md : Region.Mode) (ops : Array Oper) (is js : List Nat) : Bool :=
  Region.noSelect ops && decide (is.length + js.length = ops.size) && lexFirst md ops (seqOf md ops js) is (Array.replicate ops.size false)
def nth : List Oper → Nat → List Oper
  | [], _ => []
  | o :: _, 0 => [o]
  | _ :: l, k + 1 => nth l k
def pickOps (ops : List Oper) : List Nat → List Oper
  | [] => []
  | k :: is => nth ops k ++ pickOps ops is
theorem nth_of : ∀ {l : List Oper} {k : Nat} {o : Oper}, l[k]? = some o → nth l k = [o]
  | [], k, o, h => by simp at h
  | _ :: _, 0, o, h => by simp at h; simp [nth, h]
  | _ :: l, k + 1, o, h => by simp only [nth]; exact nth_of (by simpa using h)

theorem wpAny_seqOf {Q : Exit → Act → World → Prop} {l : List Oper} : ∀ (js : List Nat) (listed : Array Bool) (a : Act) (w : World), seqOf md l.toArray js listed = true →
    wpList P l.toArray Q (pickOps l js) a w → wpAny P md l.toArray Q js.length listed a w
  | [], _, _, _, hB, h => ⟨by simpa [seqOf] using hB, h⟩
  | k :: js, listed, a, w, hB, h => by
    simp only [seqOf, Bool.and_eq_true, decide_eq_true_eq] at hB
    obtain ⟨⟨hr, hk⟩, hB'⟩ := hB
    have hk' : k < l.length := by simpa using hk
    have h0 : l.toArray[k]? = some l[k] := by simp [hk']
    have e : pickOps l (k :: js) = l[k] :: pickOps l js := by simp [pickOps, nth_of (show l[k]? = some l[k] by simp [hk'])]
    rw [e] at h
    refine ⟨fun h1 => (by rw [hr] at h1; cases h1), fun i hi => ?_⟩
    rw [hr] at hi
    have hik : i = k := by simpa using hi
    subst hik
    have hw : wpOp P l.toArray Q i (wpList P l.toArray Q (pickOps l js)) a w := by unfold wpOp; simp only [h0]; exact h
    exact wpOp_mono (fun a' w' h' => wpAny_seqOf js _ a' w' hB' h') hw

theorem first_ops {Q : Exit → Act → World → Prop} {Lq : Act → Prop} {l : List Oper} {w : World} (F : Array Bool → Bool) (g : Nat) (hsel : Region.noSelect l.toArray = true)
    (hQ : ∀ c a a' w, Q (.panic c) a w → Q (.panic c) a' w) (hK : ∀ listed a, F listed = true → Lq a → wpAny P md l.toArray Q g listed a w) :
    ∀ (is : List Nat) (listed : Array Bool) (a : Act), lexFirst md l.toArray F is listed = true → wpQuiet P l.toArray (fun _ => True) Lq (pickOps l is) a →
      wpAnyH P md l.toArray Q (fun _ => True) (is.length + g) listed a w
  | [], listed, a, hB, h => by
    simp only [List.length_nil, Nat.zero_add]
    exact tail.held_of_any _ _ _ _ (hK _ _ (by simpa [lexFirst] using hB) h)
  | k :: is, listed, a, hB, h => by
    simp only [lexFirst, Bool.and_eq_true] at hB
    obtain ⟨⟨⟨hr, hf⟩, hp⟩, hB'⟩ := hB
    have hp' : (l.toArray[k]?).map (fun o => plainOp o.op) = some true := by simpa using hp
    obtain ⟨o, h0, ho⟩ := Option.map_eq_some_iff.1 hp'
    have hl0 : l[k]? = some o := by simpa using h0
    have e : pickOps l (k :: is) = o :: pickOps l is := by simp [pickOps, nth_of hl0]
    rw [e] at h
    have hst : qOp P l.toArray (fun _ => True) k (wpQuiet P l.toArray (fun _ => True) Lq (pickOps l is)) a := by unfold qOp; simp only [h0]; exact h
    obtain ⟨v, hy, hK'⟩ := yieldsIn_of_qOp h0 hst
    rw [show (k :: is).length + g = (is.length + g) + 1 from by simp only [List.length_cons]; omega]
    exact wpAnyH_take h0 hsel hf hr (fun c a w h => hQ c _ _ w h) (yieldsIf_of_in ho hy) trivial (first_ops F g hsel hQ hK is _ _ hB' hK')

/-- the operations 'is' look at no memory and are taken first; the others, 'js', stand in one row; nothing panics -/
theorem region {id : Nat} {Q : Exit → Act → World → Prop} {a : Act} {w : World} {l : List Oper} (is js : List Nat) (hmx : P.follows .mixedOrders = true) (hB : permB .any l.toArray is js = true)
    (h : wpQuiet P l.toArray (fun _ => True) (fun a' => wpList P l.toArray (NoPanic Q) (pickOps l js) a' w.drew) (pickOps l is) a) : (Code.region id l.toArray true).wp P Q a w := by
  simp only [permB, Bool.and_eq_true, decide_eq_true_eq] at hB
  obtain ⟨⟨hsel, hlen⟩, hlex⟩ := hB
  refine wp_region_noPanic (wp_region_held (S := fun _ => True) hmx ?_)
  have key := first_ops (md := .any) (Q := NoPanic Q) (w := { w with drawn := w.drawn + 1 }) (seqOf .any l.toArray js) js.length hsel (fun c a a' w h => h)
    (fun listed a' hF hL => wpAny_seqOf js listed a' _ hF hL) is _ a hlex h
  rwa [hlen] at key
end
end Go.Proofs.Ytpdnfiofjkbeiaa.perm
/- A region whose order is open, walked by a schedule that the prover names: an operation that yields the same in every world in which what there was stands is taken first; else the one that may come up comes up. No condition. -/
namespace Go.Proofs.Ytpdnfiofjkbeiaa.plan
open Go Go.RowKit

section
variable {P : Program} {md : Region.Mode} {Q : Exit → Act → World → Prop} {l : List Oper}

/-- what is still to be shown, when 'listed' have come up -/
def Rest (P : Program) (md : Region.Mode) (l : List Oper) (Q : Exit → Act → World → Prop) (f : Nat) (listed : Array Bool) (a : Act) (w : World) : Prop :=
  wpAnyH P md l.toArray (NoPanic Q) (Below w.heap.size w) f listed a w

theorem weaken {S S' : World → Prop} (hS : ∀ w, S' w → S w) : ∀ (f : Nat) (listed : Array Bool) (a : Act) (w : World), wpAnyH P md l.toArray Q S' f listed a w → wpAnyH P md l.toArray Q S f listed a w
  | 0, _, _, _, h => h
  | f + 1, _, _, _, h => ⟨h.1, fun i hi => wpOp_mono (fun a' w' h' => ⟨hS _ h'.1, weaken hS f _ a' w' h'.2⟩) (h.2 i hi)⟩

theorem Rest.first {f : Nat} {listed : Array Bool} {a : Act} {w : World} (i : Nat) (o : Oper) (v : Value) (hi : l[i]? = some o) (hs : Region.noSelect l.toArray = true) (hf : Region.free md l.toArray listed i = true)
    (hr : (Region.ready md l.toArray listed).contains i = true) (hw : Region.wanted o (yielded l.toArray a.tmps) = true) (hv : ∀ w', Below w.heap.size w w' → (execOp a.eval o).run P w' = .ok (.value v) w')
    (h : Rest P md l Q f (listed.setIfInBounds i true) (a.put o.dst v) w) : Rest P md l Q (f + 1) listed a w :=
  wpAnyH_take (by simpa using hi) hs hf hr (fun c a' w' h => h) (.inl ⟨hw, hv⟩) (Below.refl _ _) h

theorem Rest.value {f : Nat} {listed : Array Bool} {a : Act} {w : World} (i : Nat) (o : Oper) (v : Value) (hi : l[i]? = some o) (hr : Region.ready md l.toArray listed = [i])
    (hw : Region.wanted o (yielded l.toArray a.tmps) = true) (hv : (execOp a.eval o).run P w = .ok (.value v) w)
    (h : Rest P md l Q f (listed.setIfInBounds i true) (a.put o.dst v) w) : Rest P md l Q (f + 1) listed a w := by
  refine wpAnyH_all hr (by simp) fun j hj => ?_
  obtain rfl : j = i := by simpa using hj
  have hi' : l.toArray[j]? = some o := by simpa using hi
  unfold wpOp
  simp only [hi', hw, if_true, Oper.wp, hv, Oper.upon_value]
  exact .inl ⟨Below.refl _ _, h⟩

theorem Rest.call {f : Nat} {listed : Array Bool} {a : Act} {w : World} (i : Nat) (o : Oper) (F : FuncId) (args : Array Value) (hi : l[i]? = some o) (hr : Region.ready md l.toArray listed = [i])
    (hw : Region.wanted o (yielded l.toArray a.tmps) = true) (hv : (execOp a.eval o).run P w = .ok (.enter F args) w)
    (h : Calls P F args w fun e w' => ∃ v, e = .returned v ∧ Below w.heap.size w w' ∧ Rest P md l Q f (listed.setIfInBounds i true) (a.put o.dst v) w') : Rest P md l Q (f + 1) listed a w := by
  refine wpAnyH_all hr (by simp) fun j hj => ?_
  obtain rfl : j = i := by simpa using hj
  have hi' : l.toArray[j]? = some o := by simpa using hi
  unfold wpOp
  simp only [hi', hw, if_true, Oper.wp, hv, Oper.upon]
  refine .inl (h.mono ?_)
  rintro e w' ⟨v, rfl, hb, hR⟩
  exact ⟨hb, weaken (fun w'' hb' => hb.trans (hb'.mono hb.size)) _ _ _ _ hR⟩

theorem Rest.done {listed : Array Bool} {a : Act} {w : World} (hr : Region.ready md l.toArray listed = []) (h : Q .normal a w) : Rest P md l Q 0 listed a w := ⟨hr, NoPanic.normal h⟩

theorem exec_load {o : Oper} {a : Act} {w : World} {ty : TypeId} {x : Operand} {b : Nat} {cs : List Value} {d : TypeDesc} (ho : o.op = .load ty x) (hx : a.eval x = .pointer (some ⟨b, 0, none⟩)) (hc : w.rangeAt b 0 cs)
    (hu : P.underlying ty = some d) (hd : d.isRow = true) (hi : (P.info? ty).map (·.size) = some cs.length) : (execOp a.eval o).run P w = .ok (.value (.agg cs.toArray)) w := by
  unfold execOp
  simp [ho, hx, run_loadAt_mid w b 0 ty cs d hc hu hd hi]
theorem exec_convert {o : Oper} {a : Act} {w : World} {s d : TypeId} {x : Operand} {v u : Value} (ho : o.op = .convert s d x) (hx : a.eval x = v) (hr : (convert s d v).run P w = .ok u w) : (execOp a.eval o).run P w = .ok (.value u) w := by
  unfold execOp
  simp [ho, hx, hr]
theorem exec_eql {o : Oper} {a : Act} {w : World} {t t' : TypeId} {x y : Operand} {vx vy u : Value} (ho : o.op = .binOp .eql t x y t') (hx : a.eval x = vx) (hy : a.eval y = vy)
    (hg : (eqGuard .eql t x y vx vy).run P w = .ok () w) (hr : (binOp .eql t vx vy).run P w = .ok u w) : (execOp a.eval o).run P w = .ok (.value u) w := by
  unfold execOp
  simp [ho, hx, hy, Sem.run_bind, hg, hr]
theorem region {id : Nat} {a : Act} {w : World} (hmx : P.follows .mixedOrders = true) (h : Rest P .any l Q l.length (Array.replicate l.length false) a w.drew) : (Code.region id l.toArray true).wp P Q a w := by
  refine wp_region_noPanic (wp_region_held (S := Below w.drew.heap.size w.drew) hmx ?_)
  have e : l.toArray.size = l.length := by simp
  rw [e]
  exact h
end
end Go.Proofs.Ytpdnfiofjkbeiaa.plan
/- A region walked by a schedule that the prover names: an operation whose guard does not hold is passed by; comparisons of ints. No condition. -/
namespace Go.Proofs.Ytpdnfiofjkbeiaa.plan
open Go Go.RowKit

section
variable {P : Program} {md : Region.Mode} {Q : Exit → Act → World → Prop} {l : List Oper}
theorem Rest.skip {f : Nat} {listed : Array Bool} {a : Act} {w : World} (i : Nat) (o : Oper) (hi : l[i]? = some o) (hs : Region.noSelect l.toArray = true) (hf : Region.free md l.toArray listed i = true)
    (hr : (Region.ready md l.toArray listed).contains i = true) (hw : Region.wanted o (yielded l.toArray a.tmps) = false)
    (h : Rest P md l Q f (listed.setIfInBounds i true) (a.put o.dst undef) w) : Rest P md l Q (f + 1) listed a w :=
  wpAnyH_take (by simpa using hi) hs hf hr (fun c a' w' h => h) (.inr ⟨hw, rfl⟩) (Below.refl _ _) h
end
theorem eqg (t : TypeId) (x y : Operand) (k : IntKind) (n m : Int) (w : World) (P : Program) : (eqGuard .eql t x y (.int k n) (.int k m)).run P w = .ok () w := by simp [go_sem]
end Go.Proofs.Ytpdnfiofjkbeiaa.plan
/- Contract of Has of layer 12 (field). No condition. -/
namespace Go.Proofs.Ytpdnfiofjkbeiaa.field
open Go.RowKit
set_option linter.unusedVariables false

theorem exec_cell_int {P : Program} {o : Oper} {a : Act} {w : World} {ty : TypeId} {x : Operand} {ad : Addr} {k : IntKind} {n : Int} (ho : o.op = .load ty x) (hx : a.eval x = .pointer (some ad)) (hc : w.cell? ad = some (.int k n)) (hu : ∀ w', (isAgg ty).run P w' = .ok false w') :
    (execOp a.eval o).run P w = .ok (.value (.int k n)) w := by
  unfold execOp
  rw [ho]
  simp only [hx]
  go_simp
theorem exec_cell_str {P : Program} {o : Oper} {a : Act} {w : World} {ty : TypeId} {x : Operand} {ad : Addr} {s : ByteArray} (ho : o.op = .load ty x) (hx : a.eval x = .pointer (some ad)) (hc : w.cell? ad = some (.string s)) (hu : ∀ w', (isAgg ty).run P w' = .ok false w') :
    (execOp a.eval o).run P w = .ok (.value (.string s)) w := by
  unfold execOp
  rw [ho]
  simp only [hx]
  go_simp
theorem info_field : Hid ((Try.prog.info? 23).map (·.size) = some 5) := by show _ = _; kernel_rfl
theorem within_at (n lo hi : Int) (w : World) (b : Bool) (h : Hid (decide (lo ≤ n ∧ n ≤ hi) = b)) : Calls Try.prog 72 #[.int .i64 n, .int .i64 lo, .int .i64 hi] w (Gives (.bool b) w) := by
  by_cases hb : lo ≤ n ∧ n ≤ hi
  · obtain rfl : b = true := by rw [← h.out]; exact decide_eq_true hb
    exact (within_yes n lo hi w hb.1 hb.2).mono fun _ _ ⟨he, hw⟩ => ⟨he, hw ▸ Below.refl _ _⟩
  · obtain rfl : b = false := by rw [← h.out]; exact decide_eq_false hb
    exact (within_no n lo hi w (by omega)).mono fun _ _ ⟨he, hw⟩ => ⟨he, hw ▸ Below.refl _ _⟩
set_option maxRecDepth 20000 in
theorem has_any (f : Fd) (v : Va) (w : World) : Calls Try.prog 49 #[.agg #[.int .i64 f.id, .int .i64 f.kind, .int .i64 f.lo, .int .i64 f.hi, .int .i64 f.most], .agg #[.int .i64 v.n, .string v.s]] w (Gives (.bool (decide (f.Has v))) w) := by
  have HLF := info_field
  have HB := hid (fun w' hb => (WV.all f v w w' hb).2.2)
  obtain ⟨w0, hw0⟩ : ∃ x, Hid ((w.alloc (.cells #[.int .i64 f.id, .int .i64 f.kind, .int .i64 f.lo, .int .i64 f.hi, .int .i64 f.most] 23)).alloc (.cells #[.int .i64 v.n, .string v.s] 25) = x) := ⟨_, rfl⟩
  have HB2 : Hid (∀ w', Below w0.heap.size w0 w' → Below w.heap.size w w') := hid (by rw [← hw0.out]; exact HB.out)
  have HBF : Hid (Block w0.drew w.heap.size 23 [.int .i64 f.id, .int .i64 f.kind, .int .i64 f.lo, .int .i64 f.hi, .int .i64 f.most]) := hid (by rw [← hw0.out]; exact ((Block.new w 23 [.int .i64 f.id, .int .i64 f.kind, .int .i64 f.lo, .int .i64 f.hi, .int .i64 f.most]).alloc _).drewN 1)
  have HBV : Hid (Block w0.drew (w.heap.size + 1) 25 [.int .i64 v.n, .string v.s]) := hid (by
    have h := Block.new (w.alloc (.cells #[.int .i64 f.id, .int .i64 f.kind, .int .i64 f.lo, .int .i64 f.hi, .int .i64 f.most] 23)) 25 [.int .i64 v.n, .string v.s]
    rw [World.size_alloc] at h
    rw [← hw0.out]
    exact h.drewN 1)
  obtain ⟨r, hr⟩ : ∃ r, Hid (decide (f.Has v) = r) := ⟨_, rfl⟩
  rw [hr.out]
  unfold Gives
  go_enter Try.func49, Try.ntmps49
  go_wp2
  rw [hw0.out]
  clear HB hw0
  have hb : Below w0.heap.size w0 w0.drew := below_drewN (Below.refl _ _) 1
  have hblk := HBF.out
  have hval := HBV.out
  refine plan.region (by kernel_rfl) ?_
  by_cases h : f.Right
  · by_cases hi : f.lo ≤ v.n ∧ v.n ≤ f.great
    · have hin : Hid (decide (f.lo ≤ v.n ∧ v.n ≤ f.great) = true) := decide_eq_true hi
      refine plan.Rest.first 0 _ (.agg #[.int .i64 f.id, .int .i64 f.kind, .int .i64 f.lo, .int .i64 f.hi, .int .i64 f.most]) rfl (by kernel_rfl) (by kernel_rfl) (by kernel_rfl) (by kernel_rfl) (fun w' hb' => plan.exec_load rfl (by kernel_rfl) (hblk.later hb').whole Try.underlying23 rfl HLF.out) ?_
      refine plan.Rest.call 1 _ 48 #[.agg #[.int .i64 f.id, .int .i64 f.kind, .int .i64 f.lo, .int .i64 f.hi, .int .i64 f.most]] rfl (by kernel_rfl) (by kernel_rfl) (by kernel_rfl) ((right_yes f h w0.drew).mono ?_)
      rintro e W1 ⟨rfl, hn⟩
      have hb := hb.trans (hn.mono hb.size)
      have hblk := hblk.later hn
      have hval := hval.later hn
      refine ⟨_, rfl, hn, ?_⟩
      refine plan.Rest.first 2 _ (.bool true) rfl (by kernel_rfl) (by kernel_rfl) (by kernel_rfl) (by kernel_rfl) (fun w' hb' => (by kernel_rfl)) ?_
      refine plan.Rest.first 3 _ (.pointer (some ⟨w.heap.size + 1, 0, none⟩)) rfl (by kernel_rfl) (by kernel_rfl) (by kernel_rfl) (by kernel_rfl) (fun w' hb' => (by kernel_rfl)) ?_
      refine plan.Rest.first 4 _ (.int .i64 v.n) rfl (by kernel_rfl) (by kernel_rfl) (by kernel_rfl) (by kernel_rfl) (fun w' hb' => exec_cell_int (ad := ⟨w.heap.size + 1, 0, none⟩) rfl (by kernel_rfl) ((hval.later hb').cell 0) Try.isAgg3) ?_
      refine plan.Rest.first 5 _ (.pointer (some ⟨w.heap.size, 2, none⟩)) rfl (by kernel_rfl) (by kernel_rfl) (by kernel_rfl) (by kernel_rfl) (fun w' hb' => (by kernel_rfl)) ?_
      refine plan.Rest.first 6 _ (.int .i64 f.lo) rfl (by kernel_rfl) (by kernel_rfl) (by kernel_rfl) (by kernel_rfl) (fun w' hb' => exec_cell_int (ad := ⟨w.heap.size, 2, none⟩) rfl (by kernel_rfl) ((hblk.later hb').cell 2) Try.isAgg3) ?_
      refine plan.Rest.first 7 _ (.agg #[.int .i64 f.id, .int .i64 f.kind, .int .i64 f.lo, .int .i64 f.hi, .int .i64 f.most]) rfl (by kernel_rfl) (by kernel_rfl) (by kernel_rfl) (by kernel_rfl) (fun w' hb' => plan.exec_load rfl (by kernel_rfl) (hblk.later hb').whole Try.underlying23 rfl HLF.out) ?_
      refine plan.Rest.call 8 _ 74 #[.agg #[.int .i64 f.id, .int .i64 f.kind, .int .i64 f.lo, .int .i64 f.hi, .int .i64 f.most]] rfl (by kernel_rfl) (by kernel_rfl) (by kernel_rfl) ((greatest_any f h W1).mono ?_)
      rintro e W2 ⟨rfl, hn⟩
      have hb := hb.trans (hn.mono hb.size)
      have hblk := hblk.later hn
      have hval := hval.later hn
      refine ⟨_, rfl, hn, ?_⟩
      refine plan.Rest.call 9 _ 72 #[.int .i64 v.n, .int .i64 f.lo, .int .i64 f.great] rfl (by kernel_rfl) (by kernel_rfl) (by kernel_rfl) ((within_at v.n f.lo f.great W2 true hin).mono ?_)
      rintro e W3 ⟨rfl, hn⟩
      have hb := hb.trans (hn.mono hb.size)
      have hblk := hblk.later hn
      have hval := hval.later hn
      refine ⟨_, rfl, hn, ?_⟩
      refine plan.Rest.first 10 _ (.bool true) rfl (by kernel_rfl) (by kernel_rfl) (by kernel_rfl) (by kernel_rfl) (fun w' hb' => (by kernel_rfl)) ?_
      refine plan.Rest.first 11 _ (.bool true) rfl (by kernel_rfl) (by kernel_rfl) (by kernel_rfl) (by kernel_rfl) (fun w' hb' => (by kernel_rfl)) ?_
      refine plan.Rest.first 12 _ (.pointer (some ⟨w.heap.size + 1, 1, none⟩)) rfl (by kernel_rfl) (by kernel_rfl) (by kernel_rfl) (by kernel_rfl) (fun w' hb' => (by kernel_rfl)) ?_
      refine plan.Rest.first 13 _ (.string v.s) rfl (by kernel_rfl) (by kernel_rfl) (by kernel_rfl) (by kernel_rfl) (fun w' hb' => exec_cell_str (ad := ⟨w.heap.size + 1, 1, none⟩) rfl (by kernel_rfl) ((hval.later hb').cell 1) Try.isAgg9) ?_
      refine plan.Rest.first 14 _ (.int .i64 (v.s.size : Int)) rfl (by kernel_rfl) (by kernel_rfl) (by kernel_rfl) (by kernel_rfl) (fun w' hb' => (by kernel_rfl)) ?_
      refine plan.Rest.first 15 _ (.agg #[.int .i64 f.id, .int .i64 f.kind, .int .i64 f.lo, .int .i64 f.hi, .int .i64 f.most]) rfl (by kernel_rfl) (by kernel_rfl) (by kernel_rfl) (by kernel_rfl) (fun w' hb' => plan.exec_load rfl (by kernel_rfl) (hblk.later hb').whole Try.underlying23 rfl HLF.out) ?_
      refine plan.Rest.call 16 _ 75 #[.agg #[.int .i64 f.id, .int .i64 f.kind, .int .i64 f.lo, .int .i64 f.hi, .int .i64 f.most]] rfl (by kernel_rfl) (by kernel_rfl) (by kernel_rfl) ((longest_any f W3).mono ?_)
      rintro e W4 ⟨rfl, hn⟩
      have hb := hb.trans (hn.mono hb.size)
      have hblk := hblk.later hn
      have hval := hval.later hn
      refine ⟨_, rfl, hn, ?_⟩
      refine plan.Rest.first 17 _ (.bool (decide ((v.s.size : Int) ≤ f.long))) rfl (by kernel_rfl) (by kernel_rfl) (by kernel_rfl) (by kernel_rfl) (fun w' hb' => (by kernel_rfl)) ?_
      refine plan.Rest.first 18 _ (.bool (decide ((v.s.size : Int) ≤ f.long))) rfl (by kernel_rfl) (by kernel_rfl) (by kernel_rfl) (by kernel_rfl) (fun w' hb' => (by kernel_rfl)) ?_
      refine plan.Rest.value 19 _ (.bool (decide ((v.s.size : Int) ≤ f.long))) rfl (by kernel_rfl) (by kernel_rfl) (by kernel_rfl) ?_
      refine plan.Rest.done (by kernel_rfl) ?_
      go_wp2
      exact bodyPost_ret (v := .bool (decide ((v.s.size : Int) ≤ f.long))) (by kernel_rfl) (by kernel_rfl) ⟨ret_bool (by rw [← hr.out]; exact decide_eq_decide.2 ⟨fun k => ⟨h, hi, k⟩, fun k => k.2.2⟩), HB2.out _ hb⟩
    · have hin : Hid (decide (f.lo ≤ v.n ∧ v.n ≤ f.great) = false) := decide_eq_false hi
      refine plan.Rest.first 0 _ (.agg #[.int .i64 f.id, .int .i64 f.kind, .int .i64 f.lo, .int .i64 f.hi, .int .i64 f.most]) rfl (by kernel_rfl) (by kernel_rfl) (by kernel_rfl) (by kernel_rfl) (fun w' hb' => plan.exec_load rfl (by kernel_rfl) (hblk.later hb').whole Try.underlying23 rfl HLF.out) ?_
      refine plan.Rest.call 1 _ 48 #[.agg #[.int .i64 f.id, .int .i64 f.kind, .int .i64 f.lo, .int .i64 f.hi, .int .i64 f.most]] rfl (by kernel_rfl) (by kernel_rfl) (by kernel_rfl) ((right_yes f h w0.drew).mono ?_)
      rintro e W1 ⟨rfl, hn⟩
      have hb := hb.trans (hn.mono hb.size)
      have hblk := hblk.later hn
      have hval := hval.later hn
      refine ⟨_, rfl, hn, ?_⟩
      refine plan.Rest.first 2 _ (.bool true) rfl (by kernel_rfl) (by kernel_rfl) (by kernel_rfl) (by kernel_rfl) (fun w' hb' => (by kernel_rfl)) ?_
      refine plan.Rest.first 3 _ (.pointer (some ⟨w.heap.size + 1, 0, none⟩)) rfl (by kernel_rfl) (by kernel_rfl) (by kernel_rfl) (by kernel_rfl) (fun w' hb' => (by kernel_rfl)) ?_
      refine plan.Rest.first 4 _ (.int .i64 v.n) rfl (by kernel_rfl) (by kernel_rfl) (by kernel_rfl) (by kernel_rfl) (fun w' hb' => exec_cell_int (ad := ⟨w.heap.size + 1, 0, none⟩) rfl (by kernel_rfl) ((hval.later hb').cell 0) Try.isAgg3) ?_
      refine plan.Rest.first 5 _ (.pointer (some ⟨w.heap.size, 2, none⟩)) rfl (by kernel_rfl) (by kernel_rfl) (by kernel_rfl) (by kernel_rfl) (fun w' hb' => (by kernel_rfl)) ?_
      refine plan.Rest.first 6 _ (.int .i64 f.lo) rfl (by kernel_rfl) (by kernel_rfl) (by kernel_rfl) (by kernel_rfl) (fun w' hb' => exec_cell_int (ad := ⟨w.heap.size, 2, none⟩) rfl (by kernel_rfl) ((hblk.later hb').cell 2) Try.isAgg3) ?_
      refine plan.Rest.first 7 _ (.agg #[.int .i64 f.id, .int .i64 f.kind, .int .i64 f.lo, .int .i64 f.hi, .int .i64 f.most]) rfl (by kernel_rfl) (by kernel_rfl) (by kernel_rfl) (by kernel_rfl) (fun w' hb' => plan.exec_load rfl (by kernel_rfl) (hblk.later hb').whole Try.underlying23 rfl HLF.out) ?_
      refine plan.Rest.call 8 _ 74 #[.agg #[.int .i64 f.id, .int .i64 f.kind, .int .i64 f.lo, .int .i64 f.hi, .int .i64 f.most]] rfl (by kernel_rfl) (by kernel_rfl) (by kernel_rfl) ((greatest_any f h W1).mono ?_)
      rintro e W2 ⟨rfl, hn⟩
      have hb := hb.trans (hn.mono hb.size)
      have hblk := hblk.later hn
      have hval := hval.later hn
      refine ⟨_, rfl, hn, ?_⟩
      refine plan.Rest.call 9 _ 72 #[.int .i64 v.n, .int .i64 f.lo, .int .i64 f.great] rfl (by kernel_rfl) (by kernel_rfl) (by kernel_rfl) ((within_at v.n f.lo f.great W2 false hin).mono ?_)
      rintro e W3 ⟨rfl, hn⟩
      have hb := hb.trans (hn.mono hb.size)
      have hblk := hblk.later hn
      have hval := hval.later hn
      refine ⟨_, rfl, hn, ?_⟩
      refine plan.Rest.first 10 _ (.bool false) rfl (by kernel_rfl) (by kernel_rfl) (by kernel_rfl) (by kernel_rfl) (fun w' hb' => (by kernel_rfl)) ?_
      refine plan.Rest.first 11 _ (.bool false) rfl (by kernel_rfl) (by kernel_rfl) (by kernel_rfl) (by kernel_rfl) (fun w' hb' => (by kernel_rfl)) ?_
      refine plan.Rest.skip 12 _ rfl (by kernel_rfl) (by kernel_rfl) (by kernel_rfl) (by kernel_rfl) ?_
      refine plan.Rest.skip 13 _ rfl (by kernel_rfl) (by kernel_rfl) (by kernel_rfl) (by kernel_rfl) ?_
      refine plan.Rest.skip 14 _ rfl (by kernel_rfl) (by kernel_rfl) (by kernel_rfl) (by kernel_rfl) ?_
      refine plan.Rest.skip 15 _ rfl (by kernel_rfl) (by kernel_rfl) (by kernel_rfl) (by kernel_rfl) ?_
      refine plan.Rest.skip 16 _ rfl (by kernel_rfl) (by kernel_rfl) (by kernel_rfl) (by kernel_rfl) ?_
      refine plan.Rest.skip 17 _ rfl (by kernel_rfl) (by kernel_rfl) (by kernel_rfl) (by kernel_rfl) ?_
      refine plan.Rest.first 18 _ (.bool false) rfl (by kernel_rfl) (by kernel_rfl) (by kernel_rfl) (by kernel_rfl) (fun w' hb' => (by kernel_rfl)) ?_
      refine plan.Rest.value 19 _ (.bool false) rfl (by kernel_rfl) (by kernel_rfl) (by kernel_rfl) ?_
      refine plan.Rest.done (by kernel_rfl) ?_
      go_wp2
      exact bodyPost_ret (v := .bool false) (by kernel_rfl) (by kernel_rfl) ⟨ret_bool (by rw [← hr.out]; exact (decide_eq_false (fun k => hi k.2.1)).symm), HB2.out _ hb⟩
  · refine plan.Rest.first 0 _ (.agg #[.int .i64 f.id, .int .i64 f.kind, .int .i64 f.lo, .int .i64 f.hi, .int .i64 f.most]) rfl (by kernel_rfl) (by kernel_rfl) (by kernel_rfl) (by kernel_rfl) (fun w' hb' => plan.exec_load rfl (by kernel_rfl) (hblk.later hb').whole Try.underlying23 rfl HLF.out) ?_
    refine plan.Rest.call 1 _ 48 #[.agg #[.int .i64 f.id, .int .i64 f.kind, .int .i64 f.lo, .int .i64 f.hi, .int .i64 f.most]] rfl (by kernel_rfl) (by kernel_rfl) (by kernel_rfl) ((right_no f h w0.drew).mono ?_)
    rintro e W1 ⟨rfl, hn⟩
    have hb := hb.trans (hn.mono hb.size)
    have hblk := hblk.later hn
    have hval := hval.later hn
    refine ⟨_, rfl, hn, ?_⟩
    refine plan.Rest.first 2 _ (.bool false) rfl (by kernel_rfl) (by kernel_rfl) (by kernel_rfl) (by kernel_rfl) (fun w' hb' => (by kernel_rfl)) ?_
    refine plan.Rest.skip 3 _ rfl (by kernel_rfl) (by kernel_rfl) (by kernel_rfl) (by kernel_rfl) ?_
    refine plan.Rest.skip 4 _ rfl (by kernel_rfl) (by kernel_rfl) (by kernel_rfl) (by kernel_rfl) ?_
    refine plan.Rest.skip 5 _ rfl (by kernel_rfl) (by kernel_rfl) (by kernel_rfl) (by kernel_rfl) ?_
    refine plan.Rest.skip 6 _ rfl (by kernel_rfl) (by kernel_rfl) (by kernel_rfl) (by kernel_rfl) ?_
    refine plan.Rest.skip 7 _ rfl (by kernel_rfl) (by kernel_rfl) (by kernel_rfl) (by kernel_rfl) ?_
    refine plan.Rest.skip 8 _ rfl (by kernel_rfl) (by kernel_rfl) (by kernel_rfl) (by kernel_rfl) ?_
    refine plan.Rest.skip 9 _ rfl (by kernel_rfl) (by kernel_rfl) (by kernel_rfl) (by kernel_rfl) ?_
    refine plan.Rest.first 10 _ (.bool false) rfl (by kernel_rfl) (by kernel_rfl) (by kernel_rfl) (by kernel_rfl) (fun w' hb' => (by kernel_rfl)) ?_
    refine plan.Rest.first 11 _ (.bool false) rfl (by kernel_rfl) (by kernel_rfl) (by kernel_rfl) (by kernel_rfl) (fun w' hb' => (by kernel_rfl)) ?_
    refine plan.Rest.skip 12 _ rfl (by kernel_rfl) (by kernel_rfl) (by kernel_rfl) (by kernel_rfl) ?_
    refine plan.Rest.skip 13 _ rfl (by kernel_rfl) (by kernel_rfl) (by kernel_rfl) (by kernel_rfl) ?_
    refine plan.Rest.skip 14 _ rfl (by kernel_rfl) (by kernel_rfl) (by kernel_rfl) (by kernel_rfl) ?_
    refine plan.Rest.skip 15 _ rfl (by kernel_rfl) (by kernel_rfl) (by kernel_rfl) (by kernel_rfl) ?_
    refine plan.Rest.skip 16 _ rfl (by kernel_rfl) (by kernel_rfl) (by kernel_rfl) (by kernel_rfl) ?_
    refine plan.Rest.skip 17 _ rfl (by kernel_rfl) (by kernel_rfl) (by kernel_rfl) (by kernel_rfl) ?_
    refine plan.Rest.first 18 _ (.bool false) rfl (by kernel_rfl) (by kernel_rfl) (by kernel_rfl) (by kernel_rfl) (fun w' hb' => (by kernel_rfl)) ?_
    refine plan.Rest.value 19 _ (.bool false) rfl (by kernel_rfl) (by kernel_rfl) (by kernel_rfl) ?_
    refine plan.Rest.done (by kernel_rfl) ?_
    go_wp2
    exact bodyPost_ret (v := .bool false) (by kernel_rfl) (by kernel_rfl) ⟨ret_bool (by rw [← hr.out]; exact (decide_eq_false (fun k => h k.1)).symm), HB2.out _ hb⟩
end Go.Proofs.Ytpdnfiofjkbeiaa.field
/- Contract of layer 13 (schema): Fine. No condition. -/
namespace Go.Proofs.Ytpdnfiofjkbeiaa.schema
open Go.RowKit
open Go.Proofs.Ytpdnfiofjkbeiaa.field (Gives newB gives_from)
set_option linter.unusedVariables false

/-- a form that has just been boxed stays -/
theorem boxM (i : Int) (a : Option Addr) (L : List field.Fd) (cap : Nat) (w w' : World) (hb : Below (w.alloc (.cells #[.int .i64 i, .slice a L.length cap] 60)).heap.size (w.alloc (.cells #[.int .i64 i, .slice a L.length cap] 60)) w') : w'.cell? ⟨w.heap.size, 0, none⟩ = some (.int .i64 i) ∧ w'.cell? ⟨w.heap.size, 1, none⟩ = some (.slice a L.length cap) ∧ Below w.heap.size w w' := by
  have hB := (Block.new w 60 [.int .i64 i, .slice a L.length cap]).later hb
  exact ⟨hB.cell 0, hB.cell 1, below_out hb⟩
/-- a call that gives v, from every later world -/
abbrev From (F : FuncId) (args : Array Value) (v : Value) (w0 : World) : Prop := ∀ w', Below w0.heap.size w0 w' → Calls Try.prog F args w' fun e w2 => e = .returned v ∧ Below w0.heap.size w0 w2
theorem from_all {F : FuncId} {args : Array Value} {v : Value} (w0 : World) (h : ∀ w', Calls Try.prog F args w' (Gives v w')) : From F args v w0 := fun w' hb => gives_from (h w') hb
theorem from_fields {F : FuncId} {args : Array Value} {v : Value} {a : Option Addr} {L : List field.Fd} {w0 : World} (hf : field.Fds w0 a L) (h : ∀ w', field.Fds w' a L → Calls Try.prog F args w' (Gives v w')) : From F args v w0 := fun w' hb => gives_from (h w' (hf.below hb)) hb
theorem within_from (n lo hi : Int) (w0 : World) (v : Bool) (h : decide (lo ≤ n ∧ n ≤ hi) = v) : From 76 #[.int .i64 n, .int .i64 lo, .int .i64 hi] (.bool v) w0 := from_all w0 (fun w' => h ▸ within_any n lo hi w')
theorem fine_any (i : Int) (a : Option Addr) (cap : Nat) (L : List field.Fd) (w : World) (h : field.Fds w a L) (hL : L.length ≤ maxLen) :
    Calls Try.prog 50 #[.agg #[.int .i64 i, .slice a L.length cap]] w (Gives (.bool (decide (Fine (i, L)))) w) := by
  have HX := hid (boxM i a L cap w)
  have HF := h.below (newB w (.cells #[.int .i64 i, .slice a L.length cap] 60))
  obtain ⟨v, hv⟩ : ∃ v : Bool, Hid (decide (Fine (i, L)) = v) := ⟨_, rfl⟩
  rw [hv.out]
  unfold Gives
  have cA := fun v h => within_from i 0 200 (w.alloc (.cells #[.int .i64 i, .slice a L.length cap] 60)) v h
  have cB := fun v h => within_from (L.length : Int) 1 8 (w.alloc (.cells #[.int .i64 i, .slice a L.length cap] 60)) v h
  have cC := from_fields HF (fun w' h' => fineFields_any a cap L w' h' hL)
  clear h
  by_cases h1 : 0 ≤ i ∧ i ≤ 200
  · replace cA := cA true (decide_eq_true h1)
    by_cases h2 : 1 ≤ L.length ∧ L.length ≤ 8
    · replace cB := cB true (decide_eq_true (by omega))
      have cD := from_fields HF (fun w' h' => long_any i a cap L w' h' (by omega))
      by_cases h3 : FineF L
      · rw [decide_eq_true h3] at cC
        have hsz := size_le L
        by_cases h4 : size L ≤ 64
        · obtain rfl : true = v := by rw [← hv.out]; exact (decide_eq_true ⟨h1, h2, h3, h4⟩).symm
          have hd : decide ((size L : Int) ≤ 64) = true := decide_eq_true (by omega)
          clear h3 HF
          generalize size L = s at *
          go_enter Try.func50, Try.ntmps50
          go_wp2_with (first
            | (go_at_call 76; ((with_reducible refine (cA _ (by first | exact Below.refl _ _ | assumption)).mono ?_); rintro e w2 ⟨rfl, hb2⟩; obtain ⟨z0, z1, hbo⟩ := HX.out _ hb2))
            | (go_at_call 76; ((with_reducible refine (cB _ (by first | exact Below.refl _ _ | assumption)).mono ?_); rintro e w2 ⟨rfl, hb2⟩; obtain ⟨z0, z1, hbo⟩ := HX.out _ hb2))
            | (go_at_call 77; ((with_reducible refine (cC _ (by first | exact Below.refl _ _ | assumption)).mono ?_); rintro e w2 ⟨rfl, hb2⟩; obtain ⟨z0, z1, hbo⟩ := HX.out _ hb2))
            | (go_at_call 78; ((with_reducible refine (cD _ (by first | exact Below.refl _ _ | assumption)).mono ?_); rintro e w2 ⟨rfl, hb2⟩; obtain ⟨z0, z1, hbo⟩ := HX.out _ hb2)))
          go_ret
          exact ⟨by first | rfl | exact ret_bool (by assumption), by assumption⟩
        · obtain rfl : false = v := by rw [← hv.out]; exact (decide_eq_false (fun h => h4 h.2.2.2)).symm
          have hd : decide ((size L : Int) ≤ 64) = false := decide_eq_false (by omega)
          clear h3 HF h4
          generalize size L = s at *
          go_enter Try.func50, Try.ntmps50
          go_wp2_with (first
            | (go_at_call 76; ((with_reducible refine (cA _ (by first | exact Below.refl _ _ | assumption)).mono ?_); rintro e w2 ⟨rfl, hb2⟩; obtain ⟨z0, z1, hbo⟩ := HX.out _ hb2))
            | (go_at_call 76; ((with_reducible refine (cB _ (by first | exact Below.refl _ _ | assumption)).mono ?_); rintro e w2 ⟨rfl, hb2⟩; obtain ⟨z0, z1, hbo⟩ := HX.out _ hb2))
            | (go_at_call 77; ((with_reducible refine (cC _ (by first | exact Below.refl _ _ | assumption)).mono ?_); rintro e w2 ⟨rfl, hb2⟩; obtain ⟨z0, z1, hbo⟩ := HX.out _ hb2))
            | (go_at_call 78; ((with_reducible refine (cD _ (by first | exact Below.refl _ _ | assumption)).mono ?_); rintro e w2 ⟨rfl, hb2⟩; obtain ⟨z0, z1, hbo⟩ := HX.out _ hb2)))
          go_ret
          exact ⟨by first | rfl | exact ret_bool (by assumption), by assumption⟩
      · obtain rfl : false = v := by rw [← hv.out]; exact (decide_eq_false (fun h => h3 h.2.2.1)).symm
        rw [decide_eq_false h3] at cC
        clear h3 HF cD
        go_enter Try.func50, Try.ntmps50
        go_wp2_with (first
          | (go_at_call 76; ((with_reducible refine (cA _ (by first | exact Below.refl _ _ | assumption)).mono ?_); rintro e w2 ⟨rfl, hb2⟩; obtain ⟨z0, z1, hbo⟩ := HX.out _ hb2))
          | (go_at_call 76; ((with_reducible refine (cB _ (by first | exact Below.refl _ _ | assumption)).mono ?_); rintro e w2 ⟨rfl, hb2⟩; obtain ⟨z0, z1, hbo⟩ := HX.out _ hb2))
          | (go_at_call 77; ((with_reducible refine (cC _ (by first | exact Below.refl _ _ | assumption)).mono ?_); rintro e w2 ⟨rfl, hb2⟩; obtain ⟨z0, z1, hbo⟩ := HX.out _ hb2))
          | (go_at_call 78; ((with_reducible refine (cD _ (by first | exact Below.refl _ _ | assumption)).mono ?_); rintro e w2 ⟨rfl, hb2⟩; obtain ⟨z0, z1, hbo⟩ := HX.out _ hb2)))
        go_ret
        exact ⟨by first | rfl | exact ret_bool (by assumption), by assumption⟩
    · obtain rfl : false = v := by rw [← hv.out]; exact (decide_eq_false (fun h => h2 h.2.1)).symm
      replace cB := cB false (decide_eq_false (by omega))
      clear HF cC h2
      go_enter Try.func50, Try.ntmps50
      go_wp2_with (first
        | (go_at_call 76; ((with_reducible refine (cA _ (by first | exact Below.refl _ _ | assumption)).mono ?_); rintro e w2 ⟨rfl, hb2⟩; obtain ⟨z0, z1, hbo⟩ := HX.out _ hb2))
        | (go_at_call 76; ((with_reducible refine (cB _ (by first | exact Below.refl _ _ | assumption)).mono ?_); rintro e w2 ⟨rfl, hb2⟩; obtain ⟨z0, z1, hbo⟩ := HX.out _ hb2))
        | (go_at_call 77; ((with_reducible refine (cC _ (by first | exact Below.refl _ _ | assumption)).mono ?_); rintro e w2 ⟨rfl, hb2⟩; obtain ⟨z0, z1, hbo⟩ := HX.out _ hb2))
        | (go_at_call 78; ((with_reducible refine (cD _ (by first | exact Below.refl _ _ | assumption)).mono ?_); rintro e w2 ⟨rfl, hb2⟩; obtain ⟨z0, z1, hbo⟩ := HX.out _ hb2)))
      go_ret
      exact ⟨by first | rfl | exact ret_bool (by assumption), by assumption⟩
  · obtain rfl : false = v := by rw [← hv.out]; exact (decide_eq_false (fun h => h1 h.1)).symm
    replace cA := cA false (decide_eq_false h1)
    clear HF cC cB h1
    go_enter Try.func50, Try.ntmps50
    go_wp2_with (first
      | (go_at_call 76; ((with_reducible refine (cA _ (by first | exact Below.refl _ _ | assumption)).mono ?_); rintro e w2 ⟨rfl, hb2⟩; obtain ⟨z0, z1, hbo⟩ := HX.out _ hb2))
      | (go_at_call 76; ((with_reducible refine (cB _ (by first | exact Below.refl _ _ | assumption)).mono ?_); rintro e w2 ⟨rfl, hb2⟩; obtain ⟨z0, z1, hbo⟩ := HX.out _ hb2))
      | (go_at_call 77; ((with_reducible refine (cC _ (by first | exact Below.refl _ _ | assumption)).mono ?_); rintro e w2 ⟨rfl, hb2⟩; obtain ⟨z0, z1, hbo⟩ := HX.out _ hb2))
      | (go_at_call 78; ((with_reducible refine (cD _ (by first | exact Below.refl _ _ | assumption)).mono ?_); rintro e w2 ⟨rfl, hb2⟩; obtain ⟨z0, z1, hbo⟩ := HX.out _ hb2)))
    go_ret
    exact ⟨by first | rfl | exact ret_bool (by assumption), by assumption⟩
theorem fm_info2 (x y : Value) : (Try.prog.info? 60).map (·.size) = some [x, y].length := by kernel_rfl
end Go.Proofs.Ytpdnfiofjkbeiaa.schema
