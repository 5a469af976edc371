/- StepRight returns true for every two steps, and each argument reads afterwards as it read before. No condition. -/
import Derived.Test.YtpdnfiofjkbeiaaCmL
import Derived.Test.YtpdnfiofjkbeiaaCmM
import Derived.Conc.WalkWords
import Derived.Test.YtpdnfiofjkbeiaaCmA
/- StepRight returns true. No condition. -/
namespace Go.Proofs.Ytpdnfiofjkbeiaa.stepRight
open Go.RowKit Go.Proofs.Ytpdnfiofjkbeiaa.step
open Go.Proofs.Ytpdnfiofjkbeiaa.field (Gives newB gives_from)
open Go.Proofs.Ytpdnfiofjkbeiaa.schema (below_out exec_load_at exec_two)
set_option linter.unusedVariables false

theorem exec_eql_bool {o : Oper} {a : Act} {w : World} {x y : Operand} {t' : TypeId} {r : Bool} (ho : o.op = .binOp .eql 4 x y t') (hx : a.eval x = .bool r) (hy : a.eval y = .bool r) : (execOp a.eval o).run Try.prog w = .ok (.value (.bool true)) w :=
  exec_two ho hx hy (by simp [go_sem]) (by simp [go_sem])
/-- two steps in one row -/
theorem pair_list (p q : St) (W : World) (t : TypeId) : Sts (W.alloc (.cells (p.C ++ q.C).toArray t)) (some ⟨W.heap.size, 0, none⟩) [p, q] := by
  have hB := Block.new W t (p.C ++ q.C)
  refine .inr ⟨_, 0, rfl, hB.lt, fun i x hx j v hv => ?_⟩
  have hj : j < 16 := (List.getElem?_eq_some_iff.1 hv).1
  have hpl : p.C.length = 16 := rfl
  rw [Nat.zero_add, hB.cell]
  match i, hx with
  | 0, hx =>
    simp only [List.getElem?_cons_zero, Option.some.injEq] at hx
    subst hx
    rw [show 0 * 16 + j = j by omega, List.getElem?_append_left (by omega)]
    exact hv
  | 1, hx =>
    simp only [List.getElem?_cons_succ, List.getElem?_cons_zero, Option.some.injEq] at hx
    subst hx
    rw [List.getElem?_append_right (by omega), show 1 * 16 + j - p.C.length = j by omega]
    exact hv
  | n + 2, hx => simp at hx
set_option maxRecDepth 20000 in
set_option maxHeartbeats 3200000 in
theorem walk0 (s : Sp) (ta : Option Addr) (tc : Nat) (la : Option Addr) (lc : Nat) (u : Sp) (ua : Option Addr) (uc : Nat) (va : Option Addr) (vc : Nat) (w : World) (h : Lists w s ta la) (h' : Lists w u ua va) :
    Calls Try.prog 3 #[.agg #[.int .i64 s.op, .int .i64 s.fm, .int .i64 s.fd, .int .i64 s.pl, .int .i64 s.tt, .int .i64 s.a, .int .i64 s.b, .int .i64 s.f.id, .int .i64 s.f.kind, .int .i64 s.f.lo, .int .i64 s.f.hi, .int .i64 s.f.most, .int .i64 s.v.n, .string s.v.s, .slice ta s.t.length tc, .slice la s.l.length lc], .agg #[.int .i64 u.op, .int .i64 u.fm, .int .i64 u.fd, .int .i64 u.pl, .int .i64 u.tt, .int .i64 u.a, .int .i64 u.b, .int .i64 u.f.id, .int .i64 u.f.kind, .int .i64 u.f.lo, .int .i64 u.f.hi, .int .i64 u.f.most, .int .i64 u.v.n, .string u.v.s, .slice ua u.t.length uc, .slice va u.l.length vc]] w (Yes w) := by
  obtain ⟨hA, hU, hw⟩ := WP2.all s ta tc la lc u ua uc va vc w
  have hl1 := h.below hw
  have hl2 := h'.below hw
  have hsz : ((w.alloc (.cells #[.int .i64 s.op, .int .i64 s.fm, .int .i64 s.fd, .int .i64 s.pl, .int .i64 s.tt, .int .i64 s.a, .int .i64 s.b, .int .i64 s.f.id, .int .i64 s.f.kind, .int .i64 s.f.lo, .int .i64 s.f.hi, .int .i64 s.f.most, .int .i64 s.v.n, .string s.v.s, .slice ta s.t.length tc, .slice la s.l.length lc] 29)).alloc (.cells #[.int .i64 u.op, .int .i64 u.fm, .int .i64 u.fd, .int .i64 u.pl, .int .i64 u.tt, .int .i64 u.a, .int .i64 u.b, .int .i64 u.f.id, .int .i64 u.f.kind, .int .i64 u.f.lo, .int .i64 u.f.hi, .int .i64 u.f.most, .int .i64 u.v.n, .string u.v.s, .slice ua u.t.length uc, .slice va u.l.length vc] 29)).heap.size = w.heap.size + 1 + 1 := by simp
  unfold WP2 at hA hU hw hl1 hl2
  obtain ⟨W0, hW0⟩ : ∃ x, (w.alloc (.cells #[.int .i64 s.op, .int .i64 s.fm, .int .i64 s.fd, .int .i64 s.pl, .int .i64 s.tt, .int .i64 s.a, .int .i64 s.b, .int .i64 s.f.id, .int .i64 s.f.kind, .int .i64 s.f.lo, .int .i64 s.f.hi, .int .i64 s.f.most, .int .i64 s.v.n, .string s.v.s, .slice ta s.t.length tc, .slice la s.l.length lc] 29)).alloc (.cells #[.int .i64 u.op, .int .i64 u.fm, .int .i64 u.fd, .int .i64 u.pl, .int .i64 u.tt, .int .i64 u.a, .int .i64 u.b, .int .i64 u.f.id, .int .i64 u.f.kind, .int .i64 u.f.lo, .int .i64 u.f.hi, .int .i64 u.f.most, .int .i64 u.v.n, .string u.v.s, .slice ua u.t.length uc, .slice va u.l.length vc] 29) = x := ⟨_, rfl⟩
  have HW0 := hid hW0
  rw [hW0] at hA hU hw hl1 hl2 hsz
  have hR := pair_list ⟨s, ta, tc, la, lc⟩ ⟨u, ua, uc, va, vc⟩ W0 29
  have bR := newB W0 (.cells #[.int .i64 s.op, .int .i64 s.fm, .int .i64 s.fd, .int .i64 s.pl, .int .i64 s.tt, .int .i64 s.a, .int .i64 s.b, .int .i64 s.f.id, .int .i64 s.f.kind, .int .i64 s.f.lo, .int .i64 s.f.hi, .int .i64 s.f.most, .int .i64 s.v.n, .string s.v.s, .slice ta s.t.length tc, .slice la s.l.length lc, .int .i64 u.op, .int .i64 u.fm, .int .i64 u.fd, .int .i64 u.pl, .int .i64 u.tt, .int .i64 u.a, .int .i64 u.b, .int .i64 u.f.id, .int .i64 u.f.kind, .int .i64 u.f.lo, .int .i64 u.f.hi, .int .i64 u.f.most, .int .i64 u.v.n, .string u.v.s, .slice ua u.t.length uc, .slice va u.l.length vc] 29)
  have hSL : StL (W0.alloc (.cells #[.int .i64 s.op, .int .i64 s.fm, .int .i64 s.fd, .int .i64 s.pl, .int .i64 s.tt, .int .i64 s.a, .int .i64 s.b, .int .i64 s.f.id, .int .i64 s.f.kind, .int .i64 s.f.lo, .int .i64 s.f.hi, .int .i64 s.f.most, .int .i64 s.v.n, .string s.v.s, .slice ta s.t.length tc, .slice la s.l.length lc, .int .i64 u.op, .int .i64 u.fm, .int .i64 u.fd, .int .i64 u.pl, .int .i64 u.tt, .int .i64 u.a, .int .i64 u.b, .int .i64 u.f.id, .int .i64 u.f.kind, .int .i64 u.f.lo, .int .i64 u.f.hi, .int .i64 u.f.most, .int .i64 u.v.n, .string u.v.s, .slice ua u.t.length uc, .slice va u.l.length vc] 29)) (some ⟨W0.heap.size, 0, none⟩) [⟨s, ta, tc, la, lc⟩, ⟨u, ua, uc, va, vc⟩] := ⟨hR, fun p hp => by
    rcases List.mem_cons.1 hp with e | e
    · rw [e]; exact hl1.below bR
    · rw [List.mem_singleton.1 e]; exact hl2.below bR⟩
  obtain ⟨W1, hW1⟩ : ∃ x, W0.alloc (.cells #[.int .i64 s.op, .int .i64 s.fm, .int .i64 s.fd, .int .i64 s.pl, .int .i64 s.tt, .int .i64 s.a, .int .i64 s.b, .int .i64 s.f.id, .int .i64 s.f.kind, .int .i64 s.f.lo, .int .i64 s.f.hi, .int .i64 s.f.most, .int .i64 s.v.n, .string s.v.s, .slice ta s.t.length tc, .slice la s.l.length lc, .int .i64 u.op, .int .i64 u.fm, .int .i64 u.fd, .int .i64 u.pl, .int .i64 u.tt, .int .i64 u.a, .int .i64 u.b, .int .i64 u.f.id, .int .i64 u.f.kind, .int .i64 u.f.lo, .int .i64 u.f.hi, .int .i64 u.f.most, .int .i64 u.v.n, .string u.v.s, .slice ua u.t.length uc, .slice va u.l.length vc] 29) = x := ⟨_, rfl⟩
  have HW1 := hid hW1
  rw [hW1] at hSL bR
  obtain ⟨g, hg⟩ : ∃ g : Bool, Hid (decide (GreatL (sps [⟨s, ta, tc, la, lc⟩, ⟨u, ua, uc, va, vc⟩])) = g) := ⟨_, hid rfl⟩
  have cG := great_any (some ⟨W0.heap.size, 0, none⟩) 2 [⟨s, ta, tc, la, lc⟩, ⟨u, ua, uc, va, vc⟩] W1 hSL (by unfold maxLen; simp)
  rw [hg.out] at cG
  replace cG : Calls Try.prog 6 #[.slice (some ⟨w.heap.size + 1 + 1, 0, none⟩) 2 2] W1 (Gives (.bool g) W1) := by rw [← hsz]; exact cG
  have HZ : Hid (∀ w', Below W0.heap.size W0 w' → Block w' w.heap.size 29 [.int .i64 s.op, .int .i64 s.fm, .int .i64 s.fd, .int .i64 s.pl, .int .i64 s.tt, .int .i64 s.a, .int .i64 s.b, .int .i64 s.f.id, .int .i64 s.f.kind, .int .i64 s.f.lo, .int .i64 s.f.hi, .int .i64 s.f.most, .int .i64 s.v.n, .string s.v.s, .slice ta s.t.length tc, .slice la s.l.length lc] ∧ Block w' (w.heap.size + 1) 29 [.int .i64 u.op, .int .i64 u.fm, .int .i64 u.fd, .int .i64 u.pl, .int .i64 u.tt, .int .i64 u.a, .int .i64 u.b, .int .i64 u.f.id, .int .i64 u.f.kind, .int .i64 u.f.lo, .int .i64 u.f.hi, .int .i64 u.f.most, .int .i64 u.v.n, .string u.v.s, .slice ua u.t.length uc, .slice va u.l.length vc]) := hid (fun w' hb => ⟨hA.later hb, hU.later hb⟩)
  have HL1 := hid hl1
  have HL2 := hid hl2
  have HB0 := hid hw
  have HBR := hid bR
  have cA : ∀ w', Calls Try.prog 7 #[] w' (Gives (.bool true) w') := fun w' => awake_any w'
  obtain ⟨r, hr⟩ : ∃ r : Bool, Hid (decide s.Right = r) := ⟨_, hid rfl⟩
  obtain ⟨q, hq⟩ : ∃ q : Bool, Hid (decide (s = u) = q) := ⟨_, hid rfl⟩
  have cR1 := fun w' (hb : Below W0.heap.size W0 w') => right_any s ta tc la lc w' (HL1.out.below hb)
  have cR2 := fun w' (hb : Below W0.heap.size W0 w') => refRight_any s ta tc la lc w' (HL1.out.below hb)
  have cS1 := fun w' (hb : Below W0.heap.size W0 w') => same_any s ta tc la lc u ua uc va vc w' (HL1.out.below hb) (HL2.out.below hb)
  have cS2 := fun w' (hb : Below W0.heap.size W0 w') => refSame_any s ta tc la lc u ua uc va vc w' (HL1.out.below hb) (HL2.out.below hb)
  have cS3 := fun w' (hb : Below W0.heap.size W0 w') => same_any s ta tc la lc s ta tc la lc w' (HL1.out.below hb) (HL1.out.below hb)
  rw [show decide (s = s) = true from decide_eq_true rfl] at cS3
  rw [hr.out] at cR1 cR2
  rw [hq.out] at cS1 cS2
  unfold Gives at cG cA cR1 cR2 cS1 cS2 cS3
  unfold Yes
  clear h h' hA hU hw hl1 hl2 hR bR hSL hsz hW1 hW0
  rw [← HW1.out, ← HW0.out] at cG
  cases g
  rotate_left
  · clear cR1 cR2 cS1 cS2 cS3
    go_enter Try.func3, Try.ntmps3
    go_wp2_with (first
      | (go_at_call 6; ((with_reducible refine cG.mono ?_); clear cG; rintro e w1 ⟨rfl, hb1⟩; rw [HW0.out, HW1.out] at hb1))
      | (go_at_call 7; ((with_reducible refine (cA _).mono ?_); rintro e w8 ⟨rfl, hb8⟩)))
    go_ret
    exact ⟨rfl, HB0.out.trans ((HBR.out.trans ((hb1.trans (hb8.mono hb1.size)).mono HBR.out.size)).mono HB0.out.size)⟩
  go_enter Try.func3, Try.ntmps3
  go_wp2_with (go_at_call 6; ((with_reducible refine cG.mono ?_); clear cG; rintro e w1 ⟨rfl, hb1⟩; rw [HW0.out, HW1.out] at hb1))
  have hb01 := HBR.out.trans (hb1.mono HBR.out.size)
  have hb : Below W0.heap.size W0 w1.drew := below_drewN hb01 1
  refine plan.region (by kernel_rfl) ?_
  refine plan.Rest.first 0 _ (.agg #[.int .i64 s.op, .int .i64 s.fm, .int .i64 s.fd, .int .i64 s.pl, .int .i64 s.tt, .int .i64 s.a, .int .i64 s.b, .int .i64 s.f.id, .int .i64 s.f.kind, .int .i64 s.f.lo, .int .i64 s.f.hi, .int .i64 s.f.most, .int .i64 s.v.n, .string s.v.s, .slice ta s.t.length tc, .slice la s.l.length lc]) rfl (by kernel_rfl) (by kernel_rfl) (by kernel_rfl) (by kernel_rfl) (fun w' hb' => exec_load_at (b := w.heap.size) (off := 0) rfl (by kernel_rfl) ((HZ.out _ (hb.trans (hb'.mono hb.size))).1).whole Try.underlying29 rfl info_st.out) ?_
  refine plan.Rest.first 2 _ (.agg #[.int .i64 s.op, .int .i64 s.fm, .int .i64 s.fd, .int .i64 s.pl, .int .i64 s.tt, .int .i64 s.a, .int .i64 s.b, .int .i64 s.f.id, .int .i64 s.f.kind, .int .i64 s.f.lo, .int .i64 s.f.hi, .int .i64 s.f.most, .int .i64 s.v.n, .string s.v.s, .slice ta s.t.length tc, .slice la s.l.length lc]) rfl (by kernel_rfl) (by kernel_rfl) (by kernel_rfl) (by kernel_rfl) (fun w' hb' => exec_load_at (b := w.heap.size) (off := 0) rfl (by kernel_rfl) ((HZ.out _ (hb.trans (hb'.mono hb.size))).1).whole Try.underlying29 rfl info_st.out) ?_
  refine plan.Rest.call 1 _ 8 #[.agg #[.int .i64 s.op, .int .i64 s.fm, .int .i64 s.fd, .int .i64 s.pl, .int .i64 s.tt, .int .i64 s.a, .int .i64 s.b, .int .i64 s.f.id, .int .i64 s.f.kind, .int .i64 s.f.lo, .int .i64 s.f.hi, .int .i64 s.f.most, .int .i64 s.v.n, .string s.v.s, .slice ta s.t.length tc, .slice la s.l.length lc]] rfl (by kernel_rfl) (by kernel_rfl) (by kernel_rfl) ((cR1 w1.drew hb).mono ?_)
  rintro e W1 ⟨rfl, hn⟩
  have hb := hb.trans (hn.mono hb.size)
  refine ⟨_, rfl, hn, ?_⟩
  refine plan.Rest.call 3 _ 9 #[.agg #[.int .i64 s.op, .int .i64 s.fm, .int .i64 s.fd, .int .i64 s.pl, .int .i64 s.tt, .int .i64 s.a, .int .i64 s.b, .int .i64 s.f.id, .int .i64 s.f.kind, .int .i64 s.f.lo, .int .i64 s.f.hi, .int .i64 s.f.most, .int .i64 s.v.n, .string s.v.s, .slice ta s.t.length tc, .slice la s.l.length lc]] rfl (by kernel_rfl) (by kernel_rfl) (by kernel_rfl) ((cR2 W1 hb).mono ?_)
  rintro e W2 ⟨rfl, hn⟩
  have hb := hb.trans (hn.mono hb.size)
  refine ⟨_, rfl, hn, ?_⟩
  refine plan.Rest.first 4 _ (.bool true) rfl (by kernel_rfl) (by kernel_rfl) (by kernel_rfl) (by kernel_rfl) (fun w' hb' => (exec_eql_bool (r := r) rfl (by kernel_rfl) (by kernel_rfl))) ?_
  refine plan.Rest.first 5 _ (.bool true) rfl (by kernel_rfl) (by kernel_rfl) (by kernel_rfl) (by kernel_rfl) (fun w' hb' => (by kernel_rfl)) ?_
  refine plan.Rest.first 6 _ (.agg #[.int .i64 s.op, .int .i64 s.fm, .int .i64 s.fd, .int .i64 s.pl, .int .i64 s.tt, .int .i64 s.a, .int .i64 s.b, .int .i64 s.f.id, .int .i64 s.f.kind, .int .i64 s.f.lo, .int .i64 s.f.hi, .int .i64 s.f.most, .int .i64 s.v.n, .string s.v.s, .slice ta s.t.length tc, .slice la s.l.length lc]) rfl (by kernel_rfl) (by kernel_rfl) (by kernel_rfl) (by kernel_rfl) (fun w' hb' => exec_load_at (b := w.heap.size) (off := 0) rfl (by kernel_rfl) ((HZ.out _ (hb.trans (hb'.mono hb.size))).1).whole Try.underlying29 rfl info_st.out) ?_
  refine plan.Rest.first 7 _ (.agg #[.int .i64 u.op, .int .i64 u.fm, .int .i64 u.fd, .int .i64 u.pl, .int .i64 u.tt, .int .i64 u.a, .int .i64 u.b, .int .i64 u.f.id, .int .i64 u.f.kind, .int .i64 u.f.lo, .int .i64 u.f.hi, .int .i64 u.f.most, .int .i64 u.v.n, .string u.v.s, .slice ua u.t.length uc, .slice va u.l.length vc]) rfl (by kernel_rfl) (by kernel_rfl) (by kernel_rfl) (by kernel_rfl) (fun w' hb' => exec_load_at (b := w.heap.size + 1) (off := 0) rfl (by kernel_rfl) ((HZ.out _ (hb.trans (hb'.mono hb.size))).2).whole Try.underlying29 rfl info_st.out) ?_
  refine plan.Rest.first 9 _ (.agg #[.int .i64 s.op, .int .i64 s.fm, .int .i64 s.fd, .int .i64 s.pl, .int .i64 s.tt, .int .i64 s.a, .int .i64 s.b, .int .i64 s.f.id, .int .i64 s.f.kind, .int .i64 s.f.lo, .int .i64 s.f.hi, .int .i64 s.f.most, .int .i64 s.v.n, .string s.v.s, .slice ta s.t.length tc, .slice la s.l.length lc]) rfl (by kernel_rfl) (by kernel_rfl) (by kernel_rfl) (by kernel_rfl) (fun w' hb' => exec_load_at (b := w.heap.size) (off := 0) rfl (by kernel_rfl) ((HZ.out _ (hb.trans (hb'.mono hb.size))).1).whole Try.underlying29 rfl info_st.out) ?_
  refine plan.Rest.first 10 _ (.agg #[.int .i64 u.op, .int .i64 u.fm, .int .i64 u.fd, .int .i64 u.pl, .int .i64 u.tt, .int .i64 u.a, .int .i64 u.b, .int .i64 u.f.id, .int .i64 u.f.kind, .int .i64 u.f.lo, .int .i64 u.f.hi, .int .i64 u.f.most, .int .i64 u.v.n, .string u.v.s, .slice ua u.t.length uc, .slice va u.l.length vc]) rfl (by kernel_rfl) (by kernel_rfl) (by kernel_rfl) (by kernel_rfl) (fun w' hb' => exec_load_at (b := w.heap.size + 1) (off := 0) rfl (by kernel_rfl) ((HZ.out _ (hb.trans (hb'.mono hb.size))).2).whole Try.underlying29 rfl info_st.out) ?_
  refine plan.Rest.call 8 _ 10 #[.agg #[.int .i64 s.op, .int .i64 s.fm, .int .i64 s.fd, .int .i64 s.pl, .int .i64 s.tt, .int .i64 s.a, .int .i64 s.b, .int .i64 s.f.id, .int .i64 s.f.kind, .int .i64 s.f.lo, .int .i64 s.f.hi, .int .i64 s.f.most, .int .i64 s.v.n, .string s.v.s, .slice ta s.t.length tc, .slice la s.l.length lc], .agg #[.int .i64 u.op, .int .i64 u.fm, .int .i64 u.fd, .int .i64 u.pl, .int .i64 u.tt, .int .i64 u.a, .int .i64 u.b, .int .i64 u.f.id, .int .i64 u.f.kind, .int .i64 u.f.lo, .int .i64 u.f.hi, .int .i64 u.f.most, .int .i64 u.v.n, .string u.v.s, .slice ua u.t.length uc, .slice va u.l.length vc]] rfl (by kernel_rfl) (by kernel_rfl) (by kernel_rfl) ((cS1 W2 hb).mono ?_)
  rintro e W3 ⟨rfl, hn⟩
  have hb := hb.trans (hn.mono hb.size)
  refine ⟨_, rfl, hn, ?_⟩
  refine plan.Rest.call 11 _ 11 #[.agg #[.int .i64 s.op, .int .i64 s.fm, .int .i64 s.fd, .int .i64 s.pl, .int .i64 s.tt, .int .i64 s.a, .int .i64 s.b, .int .i64 s.f.id, .int .i64 s.f.kind, .int .i64 s.f.lo, .int .i64 s.f.hi, .int .i64 s.f.most, .int .i64 s.v.n, .string s.v.s, .slice ta s.t.length tc, .slice la s.l.length lc], .agg #[.int .i64 u.op, .int .i64 u.fm, .int .i64 u.fd, .int .i64 u.pl, .int .i64 u.tt, .int .i64 u.a, .int .i64 u.b, .int .i64 u.f.id, .int .i64 u.f.kind, .int .i64 u.f.lo, .int .i64 u.f.hi, .int .i64 u.f.most, .int .i64 u.v.n, .string u.v.s, .slice ua u.t.length uc, .slice va u.l.length vc]] rfl (by kernel_rfl) (by kernel_rfl) (by kernel_rfl) ((cS2 W3 hb).mono ?_)
  rintro e W4 ⟨rfl, hn⟩
  have hb := hb.trans (hn.mono hb.size)
  refine ⟨_, rfl, hn, ?_⟩
  refine plan.Rest.first 12 _ (.bool true) rfl (by kernel_rfl) (by kernel_rfl) (by kernel_rfl) (by kernel_rfl) (fun w' hb' => (exec_eql_bool (r := q) rfl (by kernel_rfl) (by kernel_rfl))) ?_
  refine plan.Rest.first 13 _ (.bool true) rfl (by kernel_rfl) (by kernel_rfl) (by kernel_rfl) (by kernel_rfl) (fun w' hb' => (by kernel_rfl)) ?_
  refine plan.Rest.first 14 _ (.bool true) rfl (by kernel_rfl) (by kernel_rfl) (by kernel_rfl) (by kernel_rfl) (fun w' hb' => (by kernel_rfl)) ?_
  refine plan.Rest.first 15 _ (.agg #[.int .i64 s.op, .int .i64 s.fm, .int .i64 s.fd, .int .i64 s.pl, .int .i64 s.tt, .int .i64 s.a, .int .i64 s.b, .int .i64 s.f.id, .int .i64 s.f.kind, .int .i64 s.f.lo, .int .i64 s.f.hi, .int .i64 s.f.most, .int .i64 s.v.n, .string s.v.s, .slice ta s.t.length tc, .slice la s.l.length lc]) rfl (by kernel_rfl) (by kernel_rfl) (by kernel_rfl) (by kernel_rfl) (fun w' hb' => exec_load_at (b := w.heap.size) (off := 0) rfl (by kernel_rfl) ((HZ.out _ (hb.trans (hb'.mono hb.size))).1).whole Try.underlying29 rfl info_st.out) ?_
  refine plan.Rest.first 16 _ (.agg #[.int .i64 s.op, .int .i64 s.fm, .int .i64 s.fd, .int .i64 s.pl, .int .i64 s.tt, .int .i64 s.a, .int .i64 s.b, .int .i64 s.f.id, .int .i64 s.f.kind, .int .i64 s.f.lo, .int .i64 s.f.hi, .int .i64 s.f.most, .int .i64 s.v.n, .string s.v.s, .slice ta s.t.length tc, .slice la s.l.length lc]) rfl (by kernel_rfl) (by kernel_rfl) (by kernel_rfl) (by kernel_rfl) (fun w' hb' => exec_load_at (b := w.heap.size) (off := 0) rfl (by kernel_rfl) ((HZ.out _ (hb.trans (hb'.mono hb.size))).1).whole Try.underlying29 rfl info_st.out) ?_
  refine plan.Rest.call 17 _ 10 #[.agg #[.int .i64 s.op, .int .i64 s.fm, .int .i64 s.fd, .int .i64 s.pl, .int .i64 s.tt, .int .i64 s.a, .int .i64 s.b, .int .i64 s.f.id, .int .i64 s.f.kind, .int .i64 s.f.lo, .int .i64 s.f.hi, .int .i64 s.f.most, .int .i64 s.v.n, .string s.v.s, .slice ta s.t.length tc, .slice la s.l.length lc], .agg #[.int .i64 s.op, .int .i64 s.fm, .int .i64 s.fd, .int .i64 s.pl, .int .i64 s.tt, .int .i64 s.a, .int .i64 s.b, .int .i64 s.f.id, .int .i64 s.f.kind, .int .i64 s.f.lo, .int .i64 s.f.hi, .int .i64 s.f.most, .int .i64 s.v.n, .string s.v.s, .slice ta s.t.length tc, .slice la s.l.length lc]] rfl (by kernel_rfl) (by kernel_rfl) (by kernel_rfl) ((cS3 W4 hb).mono ?_)
  rintro e W5 ⟨rfl, hn⟩
  have hb := hb.trans (hn.mono hb.size)
  refine ⟨_, rfl, hn, ?_⟩
  refine plan.Rest.first 18 _ (.bool true) rfl (by kernel_rfl) (by kernel_rfl) (by kernel_rfl) (by kernel_rfl) (fun w' hb' => (by kernel_rfl)) ?_
  refine plan.Rest.first 19 _ (.bool true) rfl (by kernel_rfl) (by kernel_rfl) (by kernel_rfl) (by kernel_rfl) (fun w' hb' => (by kernel_rfl)) ?_
  refine plan.Rest.call 20 _ 7 #[] rfl (by kernel_rfl) (by kernel_rfl) (by kernel_rfl) ((cA W5).mono ?_)
  rintro e W6 ⟨rfl, hn⟩
  have hb := hb.trans (hn.mono hb.size)
  refine ⟨_, rfl, hn, ?_⟩
  refine plan.Rest.first 21 _ (.bool true) rfl (by kernel_rfl) (by kernel_rfl) (by kernel_rfl) (by kernel_rfl) (fun w' hb' => (by kernel_rfl)) ?_
  refine plan.Rest.value 22 _ (.bool true) rfl (by kernel_rfl) (by kernel_rfl) (by kernel_rfl) ?_
  refine plan.Rest.done (by kernel_rfl) ?_
  walk_nrm
  go_wp2
  go_ret
  exact ⟨rfl, HB0.out.trans (hb.mono HB0.out.size)⟩
theorem walk (p q : St) (w : World) (hp : p.Good w) (hq : q.Good w) : Calls Try.prog 3 #[p.val, q.val] w (Yes w) := walk0 p.s p.ta p.tc p.la p.lc q.s q.ta q.tc q.la q.lc w hp.lists hq.lists
end Go.Proofs.Ytpdnfiofjkbeiaa.stepRight
/- StepRight returns true for every two steps, and each argument reads afterwards as it read before. No condition. -/
namespace Go.Proofs.Ytpdnfiofjkbeiaa.stepRight
open Go.ChangeShapes Go.WideShapes Go.ChangeAt Go.RowKit Go.Proofs.Ytpdnfiofjkbeiaa.step
open Go.ChangeMaps (open_string shut_string)
set_option linter.unusedVariables false
set_option maxRecDepth 100000 in
theorem lifted (os : Os) (started : os.Started) (H : Type) (enc : TypeId × Value → H) :
    ReturnsInHanded {} Try.checked os 3 .any (Rows.stepRightSpec.pre6 enc Try.prog Try.f3 Rows.stepRightRow.domain false) (Rows.stepRightSpec.post enc Try.prog Try.f3 false true false false) := by
  refine returnsInHanded_of_change_sized (C := Try.checked) own started (by kernel_rfl) Try.func3
    (ChangeSpec.witness6 (enc := enc) (C := Try.checked) false ⟨#[], #[.agg #[.int .i64 0, .int .i64 0, .int .i64 0, .int .i64 0, .int .i64 0, .int .i64 0, .int .i64 0, .int .i64 0, .int .i64 0, .int .i64 0, .int .i64 0, .int .i64 0, .int .i64 0, .string ⟨#[]⟩, .slice none 0 0, .slice none 0 0], .agg #[.int .i64 0, .int .i64 0, .int .i64 0, .int .i64 0, .int .i64 0, .int .i64 0, .int .i64 0, .int .i64 0, .int .i64 0, .int .i64 0, .int .i64 0, .int .i64 0, .int .i64 0, .string ⟨#[]⟩, .slice none 0 0, .slice none 0 0]], []⟩ 8 (by kernel_rfl) (by kernel_rfl) (by kernel_rfl) (by kernel_rfl)) ?_
  intro W base args ds gs before hval0 hW hcnd hsz0 _
  have hsz : (DataW.weightsEach Try.prog (Try.f3.params.toList ++ Rows.stepRightSpec.plain.varTypes Try.prog) (ds ++ gs)).all (· ≤ reachBytes) = true := hsz0
  clear hsz0
  have hval : ∀ (j : Nat) t v, Try.f3.params[j]? = some t → args[j]? = some v → Value.okWide Try.prog W .any base t v := hval0
  have hW' := hW
  obtain ⟨p, q, hA0, hV, rfl, hfz, hnd⟩ := hW
  have hA : DataW.TrodAll enc Try.prog W 0 (fun _ => true) true Try.f3.params.toList args.toList ds p := hA0
  rw [Try.params3] at hA hval hsz
  obtain ⟨v0, vs0, d0, ds0, p0, q0, hargs, rfl, rfl, h0, r0⟩ := trodAll_cons hA
  obtain ⟨v1, vs1, d1, ds1, p1, q1, rfl, rfl, rfl, h1, r1⟩ := trodAll_cons r0
  obtain ⟨rfl, rfl, rfl⟩ := trodAll_nil r1
  obtain rfl : args = #[v0, v1] := by cases args; simp_all
  obtain ⟨rfl, rfl⟩ := trodVars_none hV
  have k0 := h0
  have lt0 : ∀ x ∈ p0, x.block < W.heap.size := by obtain ⟨m, hm⟩ := k0; exact DataW.trod_lt m _ _ _ hm
  obtain ⟨pc0, fp0, rfl⟩ := open_St_arg Go.Proofs.Ytpdnfiofjkbeiaa.step.stType (hval 0 29 v0 rfl rfl) h0
  have k1 := h1
  have lt1 : ∀ x ∈ p1, x.block < W.heap.size := by obtain ⟨m, hm⟩ := k1; exact DataW.trod_lt m _ _ _ hm
  obtain ⟨pc1, fp1, rfl⟩ := open_St_arg Go.Proofs.Ytpdnfiofjkbeiaa.step.stType (hval 1 29 v1 rfl rfl) h1
  clear hA0 hval0
  refine (walk pc0 pc1 W fp0 fp1).mono fun e W' ⟨he, bel⟩ => ?_
  subst he
  exact ⟨_, rfl, _, _, _, [], _, [], hW', trodAll_mk1 (shut_bool Try.underlying4 _), (trodAll_cons_mk (Below.trod laidOut (by kernel_rfl) (of_decide_eq_true (by kernel_rfl)) k0 bel lt0) (trodAll_cons_mk (Below.trod laidOut (by kernel_rfl) (of_decide_eq_true (by kernel_rfl)) k1 bel lt1) trodAll_mk0)), rfl, bel.frame _, fun h => by cases h⟩

theorem holds : Rows.StepRightSaid :=
  OpenClaim.holds_of_wide 3 Try.f3 rfl rfl rfl rfl rfl rfl rfl ⟨rfl, rfl, rfl, rfl, rfl⟩ rfl rfl rfl rfl rfl (by kernel_rfl) Try.func3 (by kernel_rfl)
    (of_decide_eq_true (by kernel_rfl)) (by unfold Func.isWrapper; first | (rw [if_pos (by decide +kernel)]; kernel_rfl) | (rw [if_neg (by decide +kernel)]; exact ⟨rfl, rfl⟩))
    (fun os started H enc _ => lifted os started H enc)
#print axioms holds
end Go.Proofs.Ytpdnfiofjkbeiaa.stepRight
