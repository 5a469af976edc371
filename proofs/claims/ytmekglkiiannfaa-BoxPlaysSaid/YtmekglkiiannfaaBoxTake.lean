/- Contracts of a box of ints: Take, Len, Room and New. No condition. -/
import Derived.Test.YtmekglkiiannfaaBoxPut
namespace Go.Proofs.Ytmekglkiiannfaa.box
open Go.Conc Go.RowKit
set_option linter.unusedVariables false

set_option maxRecDepth 100000 in
theorem take_some (hi b c cap : Nat) (x : Int) (xs : List Int) (w : World) (h : BoxIn hi 51 3 b c cap ((x :: xs).map (Value.int .i64)) w) :
    Calls Try.prog 11 #[.pointer (some ⟨b, 0, none⟩)] w fun e w' => e = .returned (.tuple #[.int .i64 x, .bool true]) ∧ BoxIn hi 51 3 b c cap (xs.map (Value.int .i64)) w' ∧ But w.heap.size c w w' := by
  obtain ⟨hb, hb1, hc1, ps0, s, r, hc, hl, hp, hq⟩ := h
  obtain ⟨p, ps, rfl⟩ : ∃ p ps, ps0 = p :: ps := by
    cases ps0 with
    | nil => simp at hl
    | cons p ps => exact ⟨p, ps, rfl⟩
  refine calls_of_loneTo fun cs => ?_
  rw [enter_at (c := Try.f11.body.getD .skip) _ Try.func11 rfl]
  simp only [Try.f11, Option.getD_some]
  walk_nrm
  obtain ⟨h1, h2, h3⟩ := BoxAt.popped (bt := 51) (v := .int .i64 x) (vs := xs.map (Value.int .i64)) hb hc (by simpa using hl) (by simpa using hp)
  have h4 : BoxIn hi 51 3 b c cap (xs.map (Value.int .i64)) (w.setChan c cap (ptrs ps).toArray false s (r + 1) false) := by
    have hno : ∀ q t cs, Block w q t cs → q ≠ c := by rintro q t cs h rfl; unfold Block at h; rw [hc] at h; cases h
    refine ⟨h1.1, hb1, hc1, ps, s, r + 1, heap_setChan _ _ _ _ _ _ _ _ (Array.getElem?_eq_some_iff.1 hc).1, by simpa using hl, fun i q u hi hu => ?_, fun q hm => hq q (List.mem_cons_of_mem _ hm)⟩
    have hB := hp (i + 1) q u (by simpa using hi) (by simpa using hu)
    exact hB.but h3 hB.lt (hno _ _ _ hB)
  have HP := hid (And.intro h4 h3)
  have hcell : w.cell? ⟨b, 0, none⟩ = some (.chan (some c)) := by rw [hb.cell]; rfl
  have hload : (w.setChan c cap (ptrs ps).toArray false s (r + 1) false).cell? ⟨p, 0, none⟩ = some (.int .i64 x) := by rw [h2.cell]; rfl
  have hsome : 0 < (ptrs (p :: ps)).toArray.size := by simp [ptrs]
  have hd : (ptrs (p :: ps)).toArray.getD 0 undef = .pointer (some ⟨p, 0, none⟩) := by simp [ptrs]
  have tl : (ptrs (p :: ps)).toArray.extract 1 (ptrs (p :: ps)).toArray.size = (ptrs ps).toArray := by simp [ptrs]; exact List.take_of_length_le (by simp)
  have Hsome := hid hsome
  have HC1 := hid hc
  have HD := hid hd
  have TL := hid tl
  generalize hQ : (ptrs (p :: ps)).toArray = Q at *
  generalize hR : (ptrs ps).toArray = R at *
  clear hb hc hl hp h1 h2 h3 h4 hq hb1 hc1 hsome hd tl
  have HL := hid hload
  clear hload
  refine LoneTo.goes (n := 60) ?_
  s_c stepG_seq
  s_reg
  s_op
  s_op
  s_c stepG_region_end
  s_c stepG_seq
  s_c stepG_seq
  s_reg
  s_op
  s_op
  s_c stepG_region_end
  s_cond false
  s_c stepG_skip
  s_c stepG_seq
  s_reg
  s_op
  s_op
  s_op
  s_op
  s_c stepG_region_end
  s_c stepG_seq
  s_reg
  s_stop
  refine LoneTo.step (step_lone_select_recv_buf (c := c) (cap := cap) (buf := Q) (closed := false) (s := s) (r := r) (tm := false) (z := .pointer none) (stepG_comm (cases := #[rcase c (.pointer none)]) (blocking := false) (shape := .select) (w' := w) rfl rfl (by decide) (by simp [go_sem, execOp, rcase, Act.eval])) HC1.out Hsome.out) ?_
  rw [Frame.finish_at, HD.out, TL.out]
  walk_nrm
  have hload := HL.out
  clear hcell
  refine LoneTo.goes (n := 30) ?_
  s_op
  s_op
  s_c stepG_region_end
  s_c stepG_block
  s_cond true
  s_c stepG_seq
  s_reg
  s_op
  s_op
  s_c stepG_region_end
  s_c stepG_seq
  s_reg
  s_op
  s_op
  s_op
  s_op
  s_op
  s_c stepG_region_end
  s_c stepG_ret'
  s_stop
  exact LoneTo.done ⟨.returned (.tuple #[.int .i64 x, .bool true]), _, rfl, ⟨rfl, HP.out⟩, rfl, rfl, rfl, rfl, _, Try.func11, by simp [results, Try.f11, Frame.at]⟩

set_option maxRecDepth 100000 in
theorem take_empty (b c cap : Nat) (w : World) (h : BoxAt 51 3 b c cap [] w) :
    Calls Try.prog 11 #[.pointer (some ⟨b, 0, none⟩)] w fun e w' => e = .returned (.tuple #[.int .i64 0, .bool false]) ∧ w' = w := by
  obtain ⟨hb, ps0, s, r, hc, hl, hp⟩ := h
  obtain rfl : ps0 = [] := List.eq_nil_of_length_eq_zero (by simpa using hl)
  refine calls_of_loneTo fun cs => ?_
  rw [enter_at (c := Try.f11.body.getD .skip) _ Try.func11 rfl]
  simp only [Try.f11, Option.getD_some]
  walk_nrm
  have hcell : w.cell? ⟨b, 0, none⟩ = some (.chan (some c)) := by rw [hb.cell]; rfl
  have HC1 := hid hc
  clear hb hc hl hp
  refine LoneTo.goes (n := 60) ?_
  s_c stepG_seq
  s_reg
  s_op
  s_op
  s_c stepG_region_end
  s_c stepG_seq
  s_c stepG_seq
  s_reg
  s_op
  s_op
  s_c stepG_region_end
  s_cond false
  s_c stepG_skip
  s_c stepG_seq
  s_reg
  s_op
  s_op
  s_op
  s_op
  s_c stepG_region_end
  s_c stepG_seq
  s_reg
  s_stop
  refine LoneTo.step (step_lone_select_default (c := c) (cap := cap) (s := s) (r := r) (tm := false) (z := .pointer none) (stepG_comm (cases := #[rcase c (.pointer none)]) (blocking := false) (shape := .select) (w' := w) rfl rfl (by decide) (by simp [go_sem, execOp, rcase, Act.eval])) HC1.out) ?_
  rw [Frame.finish_at]
  walk_nrm
  refine LoneTo.goes (n := 30) ?_
  s_op
  s_op
  s_c stepG_region_end
  s_c stepG_block
  s_cond false
  s_c stepG_seq
  s_reg
  s_op
  s_op
  s_op
  s_c stepG_region_end
  s_c stepG_ret'
  s_stop
  exact LoneTo.done ⟨.returned (.tuple #[.int .i64 0, .bool false]), _, rfl, ⟨rfl, rfl⟩, rfl, rfl, rfl, rfl, _, Try.func11, by simp [results, Try.f11, Frame.at]⟩
theorem take_nil (w : World) : Calls Try.prog 11 #[.pointer none] w fun e w' => e = .returned (.tuple #[.int .i64 0, .bool false]) ∧ w' = w := by
  go_enter Try.func11, Try.ntmps11
  go_wp2
  go_ret2
  exact ⟨rfl, rfl⟩
theorem take_in (hi b c cap : Nat) (xs : List Int) (w : World) (h : BoxIn hi 51 3 b c cap (xs.map (Value.int .i64)) w) :
    Calls Try.prog 11 #[.pointer (some ⟨b, 0, none⟩)] w fun e w' => e = .returned (.tuple #[.int .i64 (xs.head?.getD 0), .bool (!xs.isEmpty)]) ∧ BoxIn hi 51 3 b c cap (xs.tail.map (Value.int .i64)) w' ∧ But w.heap.size c w w' := by
  cases xs with
  | nil => exact (take_empty b c cap w h.at).mono fun e w' ⟨he, hw⟩ => by subst hw; exact ⟨he, h, But.refl _ _ _⟩
  | cons x xs => exact take_some hi b c cap x xs w h
theorem take_any (b c cap : Nat) (xs : List Int) (w : World) (h : BoxAt 51 3 b c cap (xs.map (Value.int .i64)) w) :
    Calls Try.prog 11 #[.pointer (some ⟨b, 0, none⟩)] w fun e w' => e = .returned (.tuple #[.int .i64 (xs.head?.getD 0), .bool (!xs.isEmpty)]) ∧ BoxAt 51 3 b c cap (xs.tail.map (Value.int .i64)) w' ∧ But w.heap.size c w w' :=
  (take_in w.heap.size b c cap xs w h.in).mono fun e w' ⟨he, h1, h2⟩ => ⟨he, h1.at, h2⟩
theorem len_any (b c cap : Nat) (vs : List Value) (w : World) (h : BoxAt 51 3 b c cap vs w) :
    Calls Try.prog 15 #[.pointer (some ⟨b, 0, none⟩)] w fun e w' => e = .returned (.int .i64 vs.length) ∧ w' = w := by
  obtain ⟨hb, ps, s, r, hc, hl, hp⟩ := h
  have hcell : w.cell? ⟨b, 0, none⟩ = some (.chan (some c)) := by rw [hb.cell]; rfl
  have hlen := fun ty => run_len_chan (P := Try.prog) 49 ty Try.underlying49 hc
  rw [show (ptrs ps).toArray.size = vs.length from by simp [ptrs, hl]] at hlen
  clear hb hc hl hp
  go_enter Try.func15, Try.ntmps15
  go_wp2
  go_ret
  exact ⟨rfl, rfl⟩
theorem room_any (b c cap : Nat) (vs : List Value) (w : World) (h : BoxAt 51 3 b c cap vs w) :
    Calls Try.prog 16 #[.pointer (some ⟨b, 0, none⟩)] w fun e w' => e = .returned (.int .i64 cap) ∧ w' = w := by
  obtain ⟨hb, ps, s, r, hc, hl, hp⟩ := h
  have hcell : w.cell? ⟨b, 0, none⟩ = some (.chan (some c)) := by rw [hb.cell]; rfl
  have hcap := fun ty => run_cap_chan (P := Try.prog) 49 ty Try.underlying49 hc
  clear hb hc hl hp
  go_enter Try.func16, Try.ntmps16
  go_wp2
  go_ret
  exact ⟨rfl, rfl⟩
theorem len_nil (w : World) : Calls Try.prog 15 #[.pointer none] w fun e w' => e = .returned (.int .i64 0) ∧ w' = w := by
  go_enter Try.func15, Try.ntmps15
  go_wp2
  go_ret
  exact ⟨rfl, rfl⟩
theorem room_nil (w : World) : Calls Try.prog 16 #[.pointer none] w fun e w' => e = .returned (.int .i64 0) ∧ w' = w := by
  go_enter Try.func16, Try.ntmps16
  go_wp2
  go_ret
  exact ⟨rfl, rfl⟩
end Go.Proofs.Ytmekglkiiannfaa.box
