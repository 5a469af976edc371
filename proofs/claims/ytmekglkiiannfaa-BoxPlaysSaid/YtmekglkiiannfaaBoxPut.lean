/- Contracts of a box of ints: Put and Take. No condition. -/
import Derived.Test.YtmekglkiiannfaaBoxHold
import Derived.KernelRfl
import Derived.Laws.Rows
namespace Go.Proofs.Ytmekglkiiannfaa.box
open Go.Conc Go.RowKit
set_option linter.unusedVariables false

set_option maxRecDepth 100000 in
theorem put_room (b c cap : Nat) (vs : List Value) (x : Int) (w : World) (h : BoxAt 51 3 b c cap vs w) (hr : vs.length < cap) :
    Calls Try.prog 9 #[.pointer (some ⟨b, 0, none⟩), .int .i64 x] w fun e w' => e = .returned (.bool true) ∧ BoxAt 51 3 b c cap (vs ++ [.int .i64 x]) w' ∧ But w.heap.size c w w' := by
  obtain ⟨hb, ps, s, r, hc, hl, hp⟩ := h
  refine calls_of_loneTo fun cs => ?_
  rw [enter_at (c := Try.f9.body.getD .skip) _ Try.func9 rfl]
  simp only [Try.f9, Option.getD_some]
  walk_nrm
  have HP := hid (BoxAt.pushed (bt := 51) (.int .i64 x) hb hc hl hp)
  have hcell : (w.alloc (.cells #[.int .i64 x] 3)).cell? ⟨b, 0, none⟩ = some (.chan (some c)) := by
    rw [(hb.alloc _).cell]; rfl
  have hc1 : (w.alloc (.cells #[.int .i64 x] 3)).heap[c]? = some (.chan cap (ptrs ps).toArray false s r false) := (Below.heap_alloc w _ c (Array.getElem?_eq_some_iff.1 hc).1).trans hc
  have hroom : (ptrs ps).toArray.size < cap := by simp [ptrs]; omega
  have Hroom := hid hroom
  have HC1 := hid hc1
  generalize hQ : (ptrs ps).toArray = Q at *
  clear hb hc hl hp hroom hc1
  refine LoneTo.goes (n := 60) ?_
  s_c stepG_seq
  s_reg
  s_op
  s_op
  s_c stepG_region_end
  s_c stepG_seq
  s_c stepG_seq
  s_reg
  s_op
  s_op
  s_c stepG_region_end
  s_cond false
  s_c stepG_skip
  s_c stepG_seq
  s_reg
  s_op
  s_op
  s_op
  s_op
  s_c stepG_region_end
  s_c stepG_seq
  s_reg
  s_stop
  refine LoneTo.step (step_lone_select_send_room (c := c) (cap := cap) (buf := Q) (s := s) (r := r) (tm := false) (stepG_comm (cases := #[scase c (.pointer (some ⟨w.heap.size, 0, none⟩)) (.pointer none)]) (blocking := false) (shape := .select) (w' := w.alloc (.cells #[.int .i64 x] 3)) rfl rfl (by decide) (by simp [go_sem, execOp, scase, Act.eval])) HC1.out Hroom.out) ?_
  rw [Frame.finish_at]
  walk_nrm
  refine LoneTo.goes (n := 30) ?_
  s_op
  s_op
  s_c stepG_region_end
  s_c stepG_block
  s_cond true
  s_c stepG_seq
  s_reg
  s_op
  s_c stepG_region_end
  s_c stepG_ret'
  s_stop
  exact LoneTo.done ⟨.returned (.bool true), _, rfl, ⟨rfl, HP.out⟩, rfl, rfl, rfl, rfl, _, Try.func9, by simp [results, Try.f9, Frame.at]⟩

set_option maxRecDepth 100000 in
theorem put_full (b c cap : Nat) (vs : List Value) (x : Int) (w : World) (h : BoxAt 51 3 b c cap vs w) (hr : cap ≤ vs.length) :
    Calls Try.prog 9 #[.pointer (some ⟨b, 0, none⟩), .int .i64 x] w fun e w' => e = .returned (.bool false) ∧ BoxAt 51 3 b c cap vs w' ∧ But w.heap.size c w w' := by
  obtain ⟨hb, ps, s, r, hc, hl, hp⟩ := h
  refine calls_of_loneTo fun cs => ?_
  rw [enter_at (c := Try.f9.body.getD .skip) _ Try.func9 rfl]
  simp only [Try.f9, Option.getD_some]
  walk_nrm
  have HP : Hid (BoxAt 51 3 b c cap vs (w.alloc (.cells #[.int .i64 x] 3)) ∧ But w.heap.size c w (w.alloc (.cells #[.int .i64 x] 3))) := ⟨BoxAt.later ⟨hb, ps, s, r, hc, hl, hp⟩ ((Below.refl _ w).alloc (Nat.le_refl _) _), Below.but ((Below.refl _ w).alloc (Nat.le_refl _) _)⟩
  have hcell : (w.alloc (.cells #[.int .i64 x] 3)).cell? ⟨b, 0, none⟩ = some (.chan (some c)) := by
    rw [(hb.alloc _).cell]; rfl
  have hc1 : (w.alloc (.cells #[.int .i64 x] 3)).heap[c]? = some (.chan cap (ptrs ps).toArray false s r false) := (Below.heap_alloc w _ c (Array.getElem?_eq_some_iff.1 hc).1).trans hc
  have hroom : cap ≤ (ptrs ps).toArray.size := by simp [ptrs]; omega
  have Hroom := hid hroom
  have HC1 := hid hc1
  generalize hQ : (ptrs ps).toArray = Q at *
  clear hb hc hl hp hroom hc1
  refine LoneTo.goes (n := 60) ?_
  s_c stepG_seq
  s_reg
  s_op
  s_op
  s_c stepG_region_end
  s_c stepG_seq
  s_c stepG_seq
  s_reg
  s_op
  s_op
  s_c stepG_region_end
  s_cond false
  s_c stepG_skip
  s_c stepG_seq
  s_reg
  s_op
  s_op
  s_op
  s_op
  s_c stepG_region_end
  s_c stepG_seq
  s_reg
  s_stop
  refine LoneTo.step (step_lone_select_send_full (c := c) (cap := cap) (buf := Q) (s := s) (r := r) (tm := false) (stepG_comm (cases := #[scase c (.pointer (some ⟨w.heap.size, 0, none⟩)) (.pointer none)]) (blocking := false) (shape := .select) (w' := w.alloc (.cells #[.int .i64 x] 3)) rfl rfl (by decide) (by simp [go_sem, execOp, scase, Act.eval])) HC1.out Hroom.out) ?_
  rw [Frame.finish_at]
  walk_nrm
  refine LoneTo.goes (n := 30) ?_
  s_op
  s_op
  s_c stepG_region_end
  s_c stepG_block
  s_cond false
  s_c stepG_seq
  s_reg
  s_op
  s_c stepG_region_end
  s_c stepG_ret'
  s_stop
  exact LoneTo.done ⟨.returned (.bool false), _, rfl, ⟨rfl, HP.out⟩, rfl, rfl, rfl, rfl, _, Try.func9, by simp [results, Try.f9, Frame.at]⟩
theorem put_nil (x : Int) (w : World) : Calls Try.prog 9 #[.pointer none, .int .i64 x] w fun e w' => e = .returned (.bool false) ∧ Below w.heap.size w w' := by
  go_enter Try.func9, Try.ntmps9
  go_wp2
  go_ret
  exact ⟨rfl, (Below.refl _ w).alloc (Nat.le_refl _) _⟩
theorem put_any (b c cap : Nat) (xs : List Int) (x : Int) (w : World) (h : BoxAt 51 3 b c cap (xs.map (Value.int .i64)) w) :
    Calls Try.prog 9 #[.pointer (some ⟨b, 0, none⟩), .int .i64 x] w fun e w' => e = .returned (.bool (decide (xs.length < cap))) ∧ BoxAt 51 3 b c cap ((if xs.length < cap then xs ++ [x] else xs).map (Value.int .i64)) w' ∧ But w.heap.size c w w' := by
  by_cases hr : xs.length < cap
  · rw [if_pos hr, decide_eq_true hr, List.map_append]
    exact put_room b c cap _ x w h (by simpa using hr)
  · rw [if_neg hr, decide_eq_false hr]
    exact put_full b c cap _ x w h (by simpa using hr)
end Go.Proofs.Ytmekglkiiannfaa.box
