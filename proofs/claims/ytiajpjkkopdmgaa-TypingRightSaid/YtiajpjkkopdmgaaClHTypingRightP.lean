/- Lemmas of the claim HTypingRight. Each says its own conditions. -/
import Derived.Test.YtiajpjkkopdmgaaClHTypingRightO
import Derived.Test.YtiajpjkkopdmgaaClHTypingRightG
import Derived.Test.YtiajpjkkopdmgaaClHTypingRightN
/- Contracts of layer 15 (step): Same; of the reference: Same. No condition. -/
namespace Go.Proofs.Ytiajpjkkopdmgaa.step
open Go.RowKit
open Go.Proofs.Ytiajpjkkopdmgaa.field (Gives newB gives_from)
open Go.Proofs.Ytiajpjkkopdmgaa.schema (below_out take_succ_at eq_take_succ neq_fd equalF_any exec_two exec_load_at exec_cell_slice info_fd field_at)
set_option linter.unusedVariables false

theorem info_st : Hid ((Try.prog.info? 32).map (·.size) = some 16) := by show _ = _; kernel_rfl
theorem info_va : Hid ((Try.prog.info? 28).map (·.size) = some 2) := by show _ = _; kernel_rfl
theorem range_f {W : World} {B : Nat} {s : Sp} {ta : Option Addr} {tc : Nat} {la : Option Addr} {lc : Nat} (h : Block W B 32 [.int .i64 s.op, .int .i64 s.fm, .int .i64 s.fd, .int .i64 s.pl, .int .i64 s.tt, .int .i64 s.a, .int .i64 s.b, .int .i64 s.f.id, .int .i64 s.f.kind, .int .i64 s.f.lo, .int .i64 s.f.hi, .int .i64 s.f.most, .int .i64 s.v.n, .string s.v.s, .slice ta s.t.length tc, .slice la s.l.length lc]) : W.rangeAt B 7 [.int .i64 s.f.id, .int .i64 s.f.kind, .int .i64 s.f.lo, .int .i64 s.f.hi, .int .i64 s.f.most] :=
  h.range 7 _ (fun j v hj => by
    match j, hj with
    | 0, hj => exact hj
    | 1, hj => exact hj
    | 2, hj => exact hj
    | 3, hj => exact hj
    | 4, hj => exact hj
    | n + 5, hj => simp at hj)
theorem range_v {W : World} {B : Nat} {s : Sp} {ta : Option Addr} {tc : Nat} {la : Option Addr} {lc : Nat} (h : Block W B 32 [.int .i64 s.op, .int .i64 s.fm, .int .i64 s.fd, .int .i64 s.pl, .int .i64 s.tt, .int .i64 s.a, .int .i64 s.b, .int .i64 s.f.id, .int .i64 s.f.kind, .int .i64 s.f.lo, .int .i64 s.f.hi, .int .i64 s.f.most, .int .i64 s.v.n, .string s.v.s, .slice ta s.t.length tc, .slice la s.l.length lc]) : W.rangeAt B 12 [.int .i64 s.v.n, .string s.v.s] :=
  h.range 12 _ (fun j v hj => by
    match j, hj with
    | 0, hj => exact hj
    | 1, hj => exact hj
    | n + 2, hj => simp at hj)
/-- the world in which two steps have been boxed -/
def WP2 (s : Sp) (ta : Option Addr) (tc : Nat) (la : Option Addr) (lc : Nat) (u : Sp) (ua : Option Addr) (uc : Nat) (va : Option Addr) (vc : Nat) (w : World) : World := (w.alloc (.cells #[.int .i64 s.op, .int .i64 s.fm, .int .i64 s.fd, .int .i64 s.pl, .int .i64 s.tt, .int .i64 s.a, .int .i64 s.b, .int .i64 s.f.id, .int .i64 s.f.kind, .int .i64 s.f.lo, .int .i64 s.f.hi, .int .i64 s.f.most, .int .i64 s.v.n, .string s.v.s, .slice ta s.t.length tc, .slice la s.l.length lc] 32)).alloc (.cells #[.int .i64 u.op, .int .i64 u.fm, .int .i64 u.fd, .int .i64 u.pl, .int .i64 u.tt, .int .i64 u.a, .int .i64 u.b, .int .i64 u.f.id, .int .i64 u.f.kind, .int .i64 u.f.lo, .int .i64 u.f.hi, .int .i64 u.f.most, .int .i64 u.v.n, .string u.v.s, .slice ua u.t.length uc, .slice va u.l.length vc] 32)
theorem WP2.all (s : Sp) (ta : Option Addr) (tc : Nat) (la : Option Addr) (lc : Nat) (u : Sp) (ua : Option Addr) (uc : Nat) (va : Option Addr) (vc : Nat) (w : World) : Block (WP2 s ta tc la lc u ua uc va vc w) w.heap.size 32 [.int .i64 s.op, .int .i64 s.fm, .int .i64 s.fd, .int .i64 s.pl, .int .i64 s.tt, .int .i64 s.a, .int .i64 s.b, .int .i64 s.f.id, .int .i64 s.f.kind, .int .i64 s.f.lo, .int .i64 s.f.hi, .int .i64 s.f.most, .int .i64 s.v.n, .string s.v.s, .slice ta s.t.length tc, .slice la s.l.length lc] ∧ Block (WP2 s ta tc la lc u ua uc va vc w) (w.heap.size + 1) 32 [.int .i64 u.op, .int .i64 u.fm, .int .i64 u.fd, .int .i64 u.pl, .int .i64 u.tt, .int .i64 u.a, .int .i64 u.b, .int .i64 u.f.id, .int .i64 u.f.kind, .int .i64 u.f.lo, .int .i64 u.f.hi, .int .i64 u.f.most, .int .i64 u.v.n, .string u.v.s, .slice ua u.t.length uc, .slice va u.l.length vc] ∧ Below w.heap.size w (WP2 s ta tc la lc u ua uc va vc w) := by
  refine ⟨(Block.new w 32 [.int .i64 s.op, .int .i64 s.fm, .int .i64 s.fd, .int .i64 s.pl, .int .i64 s.tt, .int .i64 s.a, .int .i64 s.b, .int .i64 s.f.id, .int .i64 s.f.kind, .int .i64 s.f.lo, .int .i64 s.f.hi, .int .i64 s.f.most, .int .i64 s.v.n, .string s.v.s, .slice ta s.t.length tc, .slice la s.l.length lc]).alloc _, ?_, (newB w _).trans ((newB _ _).mono (by simp))⟩
  have h := Block.new (w.alloc (.cells #[.int .i64 s.op, .int .i64 s.fm, .int .i64 s.fd, .int .i64 s.pl, .int .i64 s.tt, .int .i64 s.a, .int .i64 s.b, .int .i64 s.f.id, .int .i64 s.f.kind, .int .i64 s.f.lo, .int .i64 s.f.hi, .int .i64 s.f.most, .int .i64 s.v.n, .string s.v.s, .slice ta s.t.length tc, .slice la s.l.length lc] 32)) 32 [.int .i64 u.op, .int .i64 u.fm, .int .i64 u.fd, .int .i64 u.pl, .int .i64 u.tt, .int .i64 u.a, .int .i64 u.b, .int .i64 u.f.id, .int .i64 u.f.kind, .int .i64 u.f.lo, .int .i64 u.f.hi, .int .i64 u.f.most, .int .i64 u.v.n, .string u.v.s, .slice ua u.t.length uc, .slice va u.l.length vc]
  rw [show ((w.alloc (.cells #[.int .i64 s.op, .int .i64 s.fm, .int .i64 s.fd, .int .i64 s.pl, .int .i64 s.tt, .int .i64 s.a, .int .i64 s.b, .int .i64 s.f.id, .int .i64 s.f.kind, .int .i64 s.f.lo, .int .i64 s.f.hi, .int .i64 s.f.most, .int .i64 s.v.n, .string s.v.s, .slice ta s.t.length tc, .slice la s.l.length lc] 32))).heap.size = w.heap.size + 1 by simp] at h
  exact h
theorem sp_eq {s u : Sp} : s = u ↔ (s.op = u.op ∧ s.fm = u.fm ∧ s.fd = u.fd ∧ s.pl = u.pl ∧ s.tt = u.tt ∧ s.a = u.a ∧ s.b = u.b) ∧ s.f = u.f ∧ s.v = u.v ∧ s.t = u.t ∧ s.l = u.l := by
  constructor
  · rintro rfl; simp
  · rintro ⟨⟨h1, h2, h3, h4, h5, h6, h7⟩, h8, h9, h10, h11⟩
    cases s; cases u; simp only at *
    subst h1 h2 h3 h4 h5 h6 h7 h8 h9 h10 h11; rfl
set_option maxRecDepth 20000 in
set_option maxHeartbeats 3200000 in
theorem same_any (s : Sp) (ta : Option Addr) (tc : Nat) (la : Option Addr) (lc : Nat) (u : Sp) (ua : Option Addr) (uc : Nat) (va : Option Addr) (vc : Nat) (w : World) (h : Lists w s ta la) (h' : Lists w u ua va) :
    Calls Try.prog 72 #[.agg #[.int .i64 s.op, .int .i64 s.fm, .int .i64 s.fd, .int .i64 s.pl, .int .i64 s.tt, .int .i64 s.a, .int .i64 s.b, .int .i64 s.f.id, .int .i64 s.f.kind, .int .i64 s.f.lo, .int .i64 s.f.hi, .int .i64 s.f.most, .int .i64 s.v.n, .string s.v.s, .slice ta s.t.length tc, .slice la s.l.length lc], .agg #[.int .i64 u.op, .int .i64 u.fm, .int .i64 u.fd, .int .i64 u.pl, .int .i64 u.tt, .int .i64 u.a, .int .i64 u.b, .int .i64 u.f.id, .int .i64 u.f.kind, .int .i64 u.f.lo, .int .i64 u.f.hi, .int .i64 u.f.most, .int .i64 u.v.n, .string u.v.s, .slice ua u.t.length uc, .slice va u.l.length vc]] w (Gives (.bool (decide (s = u))) w) := by
  obtain ⟨hA, hU, hw⟩ := WP2.all s ta tc la lc u ua uc va vc w
  have hl1 := h.below hw
  have hl2 := h'.below hw
  unfold WP2 at hA hU hw hl1 hl2
  obtain ⟨W0, hW0⟩ : ∃ x, (w.alloc (.cells #[.int .i64 s.op, .int .i64 s.fm, .int .i64 s.fd, .int .i64 s.pl, .int .i64 s.tt, .int .i64 s.a, .int .i64 s.b, .int .i64 s.f.id, .int .i64 s.f.kind, .int .i64 s.f.lo, .int .i64 s.f.hi, .int .i64 s.f.most, .int .i64 s.v.n, .string s.v.s, .slice ta s.t.length tc, .slice la s.l.length lc] 32)).alloc (.cells #[.int .i64 u.op, .int .i64 u.fm, .int .i64 u.fd, .int .i64 u.pl, .int .i64 u.tt, .int .i64 u.a, .int .i64 u.b, .int .i64 u.f.id, .int .i64 u.f.kind, .int .i64 u.f.lo, .int .i64 u.f.hi, .int .i64 u.f.most, .int .i64 u.v.n, .string u.v.s, .slice ua u.t.length uc, .slice va u.l.length vc] 32) = x := ⟨_, rfl⟩
  have HW0 := hid hW0
  rw [hW0] at hA hU hw hl1 hl2
  have HZ : Hid (∀ w', Below W0.heap.size W0 w' → Block w' w.heap.size 32 [.int .i64 s.op, .int .i64 s.fm, .int .i64 s.fd, .int .i64 s.pl, .int .i64 s.tt, .int .i64 s.a, .int .i64 s.b, .int .i64 s.f.id, .int .i64 s.f.kind, .int .i64 s.f.lo, .int .i64 s.f.hi, .int .i64 s.f.most, .int .i64 s.v.n, .string s.v.s, .slice ta s.t.length tc, .slice la s.l.length lc] ∧ Block w' (w.heap.size + 1) 32 [.int .i64 u.op, .int .i64 u.fm, .int .i64 u.fd, .int .i64 u.pl, .int .i64 u.tt, .int .i64 u.a, .int .i64 u.b, .int .i64 u.f.id, .int .i64 u.f.kind, .int .i64 u.f.lo, .int .i64 u.f.hi, .int .i64 u.f.most, .int .i64 u.v.n, .string u.v.s, .slice ua u.t.length uc, .slice va u.l.length vc]) := hid (fun w' hb => ⟨hA.later hb, hU.later hb⟩)
  have HL1 := hid hl1
  have HL2 := hid hl2
  have HB0 := hid hw
  have cN1 := fun w' => numbers_any s ta tc la lc w'
  have cN2 := fun w' => numbers_any u ua uc va vc w'
  have cT0 := fun w' (hb : Below W0.heap.size W0 w') => equalI_any ta tc s.t ua uc u.t w' (HL1.out.below hb).t (HL2.out.below hb).t HL1.out.mt HL2.out.mt
  have cL0 := fun w' (hb : Below W0.heap.size W0 w') => equalF_any la lc s.l va vc u.l w' (HL1.out.below hb).l (HL2.out.below hb).l HL1.out.ml HL2.out.ml
  obtain ⟨r, hr⟩ : ∃ r : Bool, Hid (decide (s = u) = r) := ⟨_, rfl⟩
  rw [hr.out]
  unfold Gives at cN1 cN2 cT0 cL0 ⊢
  clear h h' hA hU hw hl1 hl2 hW0
  by_cases h0 : s.op = u.op ∧ s.fm = u.fm ∧ s.fd = u.fd ∧ s.pl = u.pl ∧ s.tt = u.tt ∧ s.a = u.a ∧ s.b = u.b
  · have HE0 := hid (fun W => eq_seven s.op s.fm s.fd s.pl s.tt s.a s.b u.op u.fm u.fd u.pl u.tt u.a u.b W)
    rw [decide_eq_true h0] at HE0
    by_cases h1 : s.f = u.f
    · have HE1 := hid (fun W => eq_fd s.f u.f W)
      rw [decide_eq_true h1] at HE1
      by_cases h2 : s.v = u.v
      · have HE2 := hid (fun W => eq_va s.v u.v W)
        rw [decide_eq_true h2] at HE2
        by_cases h3 : s.t = u.t
        · have cT := cT0
          rw [decide_eq_true h3] at cT
          have cL := cL0
          rw [show decide (s.l = u.l) = r by rw [← hr.out]; exact decide_eq_decide.2 ⟨fun e => sp_eq.2 ⟨h0, h1, h2, h3, e⟩, fun e => (sp_eq.1 e).2.2.2.2⟩] at cL
          clear h0 h1 h2 h3 cT0 cL0
          go_enter Try.func72, Try.ntmps72
          go_wp2
          rw [HW0.out]
          have hb : Below W0.heap.size W0 W0.drew := below_drewN (Below.refl _ _) 1
          refine plan.region (by kernel_rfl) ?_
          refine plan.Rest.first 0 _ (.agg #[.int .i64 s.op, .int .i64 s.fm, .int .i64 s.fd, .int .i64 s.pl, .int .i64 s.tt, .int .i64 s.a, .int .i64 s.b, .int .i64 s.f.id, .int .i64 s.f.kind, .int .i64 s.f.lo, .int .i64 s.f.hi, .int .i64 s.f.most, .int .i64 s.v.n, .string s.v.s, .slice ta s.t.length tc, .slice la s.l.length lc]) rfl (by kernel_rfl) (by kernel_rfl) (by kernel_rfl) (by kernel_rfl) (fun w' hb' => exec_load_at (b := w.heap.size) (off := 0) rfl (by kernel_rfl) ((HZ.out _ (hb.trans (hb'.mono hb.size))).1).whole Try.underlying32 rfl info_st.out) ?_
          refine plan.Rest.first 2 _ (.agg #[.int .i64 u.op, .int .i64 u.fm, .int .i64 u.fd, .int .i64 u.pl, .int .i64 u.tt, .int .i64 u.a, .int .i64 u.b, .int .i64 u.f.id, .int .i64 u.f.kind, .int .i64 u.f.lo, .int .i64 u.f.hi, .int .i64 u.f.most, .int .i64 u.v.n, .string u.v.s, .slice ua u.t.length uc, .slice va u.l.length vc]) rfl (by kernel_rfl) (by kernel_rfl) (by kernel_rfl) (by kernel_rfl) (fun w' hb' => exec_load_at (b := w.heap.size + 1) (off := 0) rfl (by kernel_rfl) ((HZ.out _ (hb.trans (hb'.mono hb.size))).2).whole Try.underlying32 rfl info_st.out) ?_
          refine plan.Rest.call 1 _ 97 #[.agg #[.int .i64 s.op, .int .i64 s.fm, .int .i64 s.fd, .int .i64 s.pl, .int .i64 s.tt, .int .i64 s.a, .int .i64 s.b, .int .i64 s.f.id, .int .i64 s.f.kind, .int .i64 s.f.lo, .int .i64 s.f.hi, .int .i64 s.f.most, .int .i64 s.v.n, .string s.v.s, .slice ta s.t.length tc, .slice la s.l.length lc]] rfl (by kernel_rfl) (by kernel_rfl) (by kernel_rfl) ((cN1 W0.drew).mono ?_)
          rintro e W1 ⟨rfl, hn⟩
          have hb := hb.trans (hn.mono hb.size)
          refine ⟨_, rfl, hn, ?_⟩
          refine plan.Rest.call 3 _ 97 #[.agg #[.int .i64 u.op, .int .i64 u.fm, .int .i64 u.fd, .int .i64 u.pl, .int .i64 u.tt, .int .i64 u.a, .int .i64 u.b, .int .i64 u.f.id, .int .i64 u.f.kind, .int .i64 u.f.lo, .int .i64 u.f.hi, .int .i64 u.f.most, .int .i64 u.v.n, .string u.v.s, .slice ua u.t.length uc, .slice va u.l.length vc]] rfl (by kernel_rfl) (by kernel_rfl) (by kernel_rfl) ((cN2 W1).mono ?_)
          rintro e W2 ⟨rfl, hn⟩
          have hb := hb.trans (hn.mono hb.size)
          refine ⟨_, rfl, hn, ?_⟩
          refine plan.Rest.first 4 _ (.bool true) rfl (by kernel_rfl) (by kernel_rfl) (by kernel_rfl) (by kernel_rfl) (fun w' hb' => (exec_two rfl (by kernel_rfl) (by kernel_rfl) (eqg_seven _ _ _ _ _) (HE0.out _))) ?_
          refine plan.Rest.first 5 _ (.bool true) rfl (by kernel_rfl) (by kernel_rfl) (by kernel_rfl) (by kernel_rfl) (fun w' hb' => (by kernel_rfl)) ?_
          refine plan.Rest.first 6 _ (.pointer (some ⟨w.heap.size, 7, none⟩)) rfl (by kernel_rfl) (by kernel_rfl) (by kernel_rfl) (by kernel_rfl) (fun w' hb' => (by kernel_rfl)) ?_
          refine plan.Rest.first 7 _ (.agg #[.int .i64 s.f.id, .int .i64 s.f.kind, .int .i64 s.f.lo, .int .i64 s.f.hi, .int .i64 s.f.most]) rfl (by kernel_rfl) (by kernel_rfl) (by kernel_rfl) (by kernel_rfl) (fun w' hb' => exec_load_at (b := w.heap.size) (off := 7) rfl (by kernel_rfl) (range_f ((HZ.out _ (hb.trans (hb'.mono hb.size))).1)) Try.underlying26 rfl info_fd.out) ?_
          refine plan.Rest.first 8 _ (.pointer (some ⟨w.heap.size + 1, 7, none⟩)) rfl (by kernel_rfl) (by kernel_rfl) (by kernel_rfl) (by kernel_rfl) (fun w' hb' => (by kernel_rfl)) ?_
          refine plan.Rest.first 9 _ (.agg #[.int .i64 u.f.id, .int .i64 u.f.kind, .int .i64 u.f.lo, .int .i64 u.f.hi, .int .i64 u.f.most]) rfl (by kernel_rfl) (by kernel_rfl) (by kernel_rfl) (by kernel_rfl) (fun w' hb' => exec_load_at (b := w.heap.size + 1) (off := 7) rfl (by kernel_rfl) (range_f ((HZ.out _ (hb.trans (hb'.mono hb.size))).2)) Try.underlying26 rfl info_fd.out) ?_
          refine plan.Rest.first 10 _ (.bool true) rfl (by kernel_rfl) (by kernel_rfl) (by kernel_rfl) (by kernel_rfl) (fun w' hb' => (exec_two rfl (by kernel_rfl) (by kernel_rfl) (eqg_fd _ _ _ _ _ _) (HE1.out _))) ?_
          refine plan.Rest.first 11 _ (.bool true) rfl (by kernel_rfl) (by kernel_rfl) (by kernel_rfl) (by kernel_rfl) (fun w' hb' => (by kernel_rfl)) ?_
          refine plan.Rest.first 12 _ (.bool true) rfl (by kernel_rfl) (by kernel_rfl) (by kernel_rfl) (by kernel_rfl) (fun w' hb' => (by kernel_rfl)) ?_
          refine plan.Rest.first 13 _ (.pointer (some ⟨w.heap.size, 12, none⟩)) rfl (by kernel_rfl) (by kernel_rfl) (by kernel_rfl) (by kernel_rfl) (fun w' hb' => (by kernel_rfl)) ?_
          refine plan.Rest.first 14 _ (.agg #[.int .i64 s.v.n, .string s.v.s]) rfl (by kernel_rfl) (by kernel_rfl) (by kernel_rfl) (by kernel_rfl) (fun w' hb' => exec_load_at (b := w.heap.size) (off := 12) rfl (by kernel_rfl) (range_v ((HZ.out _ (hb.trans (hb'.mono hb.size))).1)) Try.underlying28 rfl info_va.out) ?_
          refine plan.Rest.first 15 _ (.pointer (some ⟨w.heap.size + 1, 12, none⟩)) rfl (by kernel_rfl) (by kernel_rfl) (by kernel_rfl) (by kernel_rfl) (fun w' hb' => (by kernel_rfl)) ?_
          refine plan.Rest.first 16 _ (.agg #[.int .i64 u.v.n, .string u.v.s]) rfl (by kernel_rfl) (by kernel_rfl) (by kernel_rfl) (by kernel_rfl) (fun w' hb' => exec_load_at (b := w.heap.size + 1) (off := 12) rfl (by kernel_rfl) (range_v ((HZ.out _ (hb.trans (hb'.mono hb.size))).2)) Try.underlying28 rfl info_va.out) ?_
          refine plan.Rest.first 17 _ (.bool true) rfl (by kernel_rfl) (by kernel_rfl) (by kernel_rfl) (by kernel_rfl) (fun w' hb' => (exec_two rfl (by kernel_rfl) (by kernel_rfl) (eqg_va _ _ _ _ _ _) (HE2.out _))) ?_
          refine plan.Rest.first 18 _ (.bool true) rfl (by kernel_rfl) (by kernel_rfl) (by kernel_rfl) (by kernel_rfl) (fun w' hb' => (by kernel_rfl)) ?_
          refine plan.Rest.first 19 _ (.bool true) rfl (by kernel_rfl) (by kernel_rfl) (by kernel_rfl) (by kernel_rfl) (fun w' hb' => (by kernel_rfl)) ?_
          refine plan.Rest.first 20 _ (.pointer (some ⟨w.heap.size, 14, none⟩)) rfl (by kernel_rfl) (by kernel_rfl) (by kernel_rfl) (by kernel_rfl) (fun w' hb' => (by kernel_rfl)) ?_
          refine plan.Rest.first 21 _ (.slice ta s.t.length tc) rfl (by kernel_rfl) (by kernel_rfl) (by kernel_rfl) (by kernel_rfl) (fun w' hb' => exec_cell_slice (ad := ⟨w.heap.size, 14, none⟩) rfl (by kernel_rfl) (((HZ.out _ (hb.trans (hb'.mono hb.size))).1).cell 14) Try.isAgg29) ?_
          refine plan.Rest.first 22 _ (.pointer (some ⟨w.heap.size + 1, 14, none⟩)) rfl (by kernel_rfl) (by kernel_rfl) (by kernel_rfl) (by kernel_rfl) (fun w' hb' => (by kernel_rfl)) ?_
          refine plan.Rest.first 23 _ (.slice ua u.t.length uc) rfl (by kernel_rfl) (by kernel_rfl) (by kernel_rfl) (by kernel_rfl) (fun w' hb' => exec_cell_slice (ad := ⟨w.heap.size + 1, 14, none⟩) rfl (by kernel_rfl) (((HZ.out _ (hb.trans (hb'.mono hb.size))).2).cell 14) Try.isAgg29) ?_
          refine plan.Rest.call 24 _ 98 #[.slice ta s.t.length tc, .slice ua u.t.length uc] rfl (by kernel_rfl) (by kernel_rfl) (by kernel_rfl) ((cT W2 hb).mono ?_)
          rintro e W3 ⟨rfl, hn⟩
          have hb := hb.trans (hn.mono hb.size)
          refine ⟨_, rfl, hn, ?_⟩
          refine plan.Rest.first 25 _ (.bool true) rfl (by kernel_rfl) (by kernel_rfl) (by kernel_rfl) (by kernel_rfl) (fun w' hb' => (by kernel_rfl)) ?_
          refine plan.Rest.first 26 _ (.bool true) rfl (by kernel_rfl) (by kernel_rfl) (by kernel_rfl) (by kernel_rfl) (fun w' hb' => (by kernel_rfl)) ?_
          refine plan.Rest.first 27 _ (.pointer (some ⟨w.heap.size, 15, none⟩)) rfl (by kernel_rfl) (by kernel_rfl) (by kernel_rfl) (by kernel_rfl) (fun w' hb' => (by kernel_rfl)) ?_
          refine plan.Rest.first 28 _ (.slice la s.l.length lc) rfl (by kernel_rfl) (by kernel_rfl) (by kernel_rfl) (by kernel_rfl) (fun w' hb' => exec_cell_slice (ad := ⟨w.heap.size, 15, none⟩) rfl (by kernel_rfl) (((HZ.out _ (hb.trans (hb'.mono hb.size))).1).cell 15) Try.isAgg30) ?_
          refine plan.Rest.first 29 _ (.pointer (some ⟨w.heap.size + 1, 15, none⟩)) rfl (by kernel_rfl) (by kernel_rfl) (by kernel_rfl) (by kernel_rfl) (fun w' hb' => (by kernel_rfl)) ?_
          refine plan.Rest.first 30 _ (.slice va u.l.length vc) rfl (by kernel_rfl) (by kernel_rfl) (by kernel_rfl) (by kernel_rfl) (fun w' hb' => exec_cell_slice (ad := ⟨w.heap.size + 1, 15, none⟩) rfl (by kernel_rfl) (((HZ.out _ (hb.trans (hb'.mono hb.size))).2).cell 15) Try.isAgg30) ?_
          refine plan.Rest.call 31 _ 99 #[.slice la s.l.length lc, .slice va u.l.length vc] rfl (by kernel_rfl) (by kernel_rfl) (by kernel_rfl) ((cL W3 hb).mono ?_)
          rintro e W4 ⟨rfl, hn⟩
          have hb := hb.trans (hn.mono hb.size)
          refine ⟨_, rfl, hn, ?_⟩
          refine plan.Rest.first 32 _ (.bool r) rfl (by kernel_rfl) (by kernel_rfl) (by kernel_rfl) (by kernel_rfl) (fun w' hb' => (by kernel_rfl)) ?_
          refine plan.Rest.value 33 _ (.bool r) rfl (by kernel_rfl) (by kernel_rfl) (by kernel_rfl) ?_
          refine plan.Rest.done (by kernel_rfl) ?_
          walk_nrm
          go_wp2
          go_ret
          exact ⟨rfl, HB0.out.trans (hb.mono HB0.out.size)⟩
        · have cT := cT0
          rw [decide_eq_false h3] at cT
          obtain rfl : false = r := by rw [← hr.out]; exact (decide_eq_false (fun e => h3 (sp_eq.1 e).2.2.2.1)).symm
          clear h0 h1 h2 h3 cT0 cL0
          go_enter Try.func72, Try.ntmps72
          go_wp2
          rw [HW0.out]
          have hb : Below W0.heap.size W0 W0.drew := below_drewN (Below.refl _ _) 1
          refine plan.region (by kernel_rfl) ?_
          refine plan.Rest.first 0 _ (.agg #[.int .i64 s.op, .int .i64 s.fm, .int .i64 s.fd, .int .i64 s.pl, .int .i64 s.tt, .int .i64 s.a, .int .i64 s.b, .int .i64 s.f.id, .int .i64 s.f.kind, .int .i64 s.f.lo, .int .i64 s.f.hi, .int .i64 s.f.most, .int .i64 s.v.n, .string s.v.s, .slice ta s.t.length tc, .slice la s.l.length lc]) rfl (by kernel_rfl) (by kernel_rfl) (by kernel_rfl) (by kernel_rfl) (fun w' hb' => exec_load_at (b := w.heap.size) (off := 0) rfl (by kernel_rfl) ((HZ.out _ (hb.trans (hb'.mono hb.size))).1).whole Try.underlying32 rfl info_st.out) ?_
          refine plan.Rest.first 2 _ (.agg #[.int .i64 u.op, .int .i64 u.fm, .int .i64 u.fd, .int .i64 u.pl, .int .i64 u.tt, .int .i64 u.a, .int .i64 u.b, .int .i64 u.f.id, .int .i64 u.f.kind, .int .i64 u.f.lo, .int .i64 u.f.hi, .int .i64 u.f.most, .int .i64 u.v.n, .string u.v.s, .slice ua u.t.length uc, .slice va u.l.length vc]) rfl (by kernel_rfl) (by kernel_rfl) (by kernel_rfl) (by kernel_rfl) (fun w' hb' => exec_load_at (b := w.heap.size + 1) (off := 0) rfl (by kernel_rfl) ((HZ.out _ (hb.trans (hb'.mono hb.size))).2).whole Try.underlying32 rfl info_st.out) ?_
          refine plan.Rest.call 1 _ 97 #[.agg #[.int .i64 s.op, .int .i64 s.fm, .int .i64 s.fd, .int .i64 s.pl, .int .i64 s.tt, .int .i64 s.a, .int .i64 s.b, .int .i64 s.f.id, .int .i64 s.f.kind, .int .i64 s.f.lo, .int .i64 s.f.hi, .int .i64 s.f.most, .int .i64 s.v.n, .string s.v.s, .slice ta s.t.length tc, .slice la s.l.length lc]] rfl (by kernel_rfl) (by kernel_rfl) (by kernel_rfl) ((cN1 W0.drew).mono ?_)
          rintro e W1 ⟨rfl, hn⟩
          have hb := hb.trans (hn.mono hb.size)
          refine ⟨_, rfl, hn, ?_⟩
          refine plan.Rest.call 3 _ 97 #[.agg #[.int .i64 u.op, .int .i64 u.fm, .int .i64 u.fd, .int .i64 u.pl, .int .i64 u.tt, .int .i64 u.a, .int .i64 u.b, .int .i64 u.f.id, .int .i64 u.f.kind, .int .i64 u.f.lo, .int .i64 u.f.hi, .int .i64 u.f.most, .int .i64 u.v.n, .string u.v.s, .slice ua u.t.length uc, .slice va u.l.length vc]] rfl (by kernel_rfl) (by kernel_rfl) (by kernel_rfl) ((cN2 W1).mono ?_)
          rintro e W2 ⟨rfl, hn⟩
          have hb := hb.trans (hn.mono hb.size)
          refine ⟨_, rfl, hn, ?_⟩
          refine plan.Rest.first 4 _ (.bool true) rfl (by kernel_rfl) (by kernel_rfl) (by kernel_rfl) (by kernel_rfl) (fun w' hb' => (exec_two rfl (by kernel_rfl) (by kernel_rfl) (eqg_seven _ _ _ _ _) (HE0.out _))) ?_
          refine plan.Rest.first 5 _ (.bool true) rfl (by kernel_rfl) (by kernel_rfl) (by kernel_rfl) (by kernel_rfl) (fun w' hb' => (by kernel_rfl)) ?_
          refine plan.Rest.first 6 _ (.pointer (some ⟨w.heap.size, 7, none⟩)) rfl (by kernel_rfl) (by kernel_rfl) (by kernel_rfl) (by kernel_rfl) (fun w' hb' => (by kernel_rfl)) ?_
          refine plan.Rest.first 7 _ (.agg #[.int .i64 s.f.id, .int .i64 s.f.kind, .int .i64 s.f.lo, .int .i64 s.f.hi, .int .i64 s.f.most]) rfl (by kernel_rfl) (by kernel_rfl) (by kernel_rfl) (by kernel_rfl) (fun w' hb' => exec_load_at (b := w.heap.size) (off := 7) rfl (by kernel_rfl) (range_f ((HZ.out _ (hb.trans (hb'.mono hb.size))).1)) Try.underlying26 rfl info_fd.out) ?_
          refine plan.Rest.first 8 _ (.pointer (some ⟨w.heap.size + 1, 7, none⟩)) rfl (by kernel_rfl) (by kernel_rfl) (by kernel_rfl) (by kernel_rfl) (fun w' hb' => (by kernel_rfl)) ?_
          refine plan.Rest.first 9 _ (.agg #[.int .i64 u.f.id, .int .i64 u.f.kind, .int .i64 u.f.lo, .int .i64 u.f.hi, .int .i64 u.f.most]) rfl (by kernel_rfl) (by kernel_rfl) (by kernel_rfl) (by kernel_rfl) (fun w' hb' => exec_load_at (b := w.heap.size + 1) (off := 7) rfl (by kernel_rfl) (range_f ((HZ.out _ (hb.trans (hb'.mono hb.size))).2)) Try.underlying26 rfl info_fd.out) ?_
          refine plan.Rest.first 10 _ (.bool true) rfl (by kernel_rfl) (by kernel_rfl) (by kernel_rfl) (by kernel_rfl) (fun w' hb' => (exec_two rfl (by kernel_rfl) (by kernel_rfl) (eqg_fd _ _ _ _ _ _) (HE1.out _))) ?_
          refine plan.Rest.first 11 _ (.bool true) rfl (by kernel_rfl) (by kernel_rfl) (by kernel_rfl) (by kernel_rfl) (fun w' hb' => (by kernel_rfl)) ?_
          refine plan.Rest.first 12 _ (.bool true) rfl (by kernel_rfl) (by kernel_rfl) (by kernel_rfl) (by kernel_rfl) (fun w' hb' => (by kernel_rfl)) ?_
          refine plan.Rest.first 13 _ (.pointer (some ⟨w.heap.size, 12, none⟩)) rfl (by kernel_rfl) (by kernel_rfl) (by kernel_rfl) (by kernel_rfl) (fun w' hb' => (by kernel_rfl)) ?_
          refine plan.Rest.first 14 _ (.agg #[.int .i64 s.v.n, .string s.v.s]) rfl (by kernel_rfl) (by kernel_rfl) (by kernel_rfl) (by kernel_rfl) (fun w' hb' => exec_load_at (b := w.heap.size) (off := 12) rfl (by kernel_rfl) (range_v ((HZ.out _ (hb.trans (hb'.mono hb.size))).1)) Try.underlying28 rfl info_va.out) ?_
          refine plan.Rest.first 15 _ (.pointer (some ⟨w.heap.size + 1, 12, none⟩)) rfl (by kernel_rfl) (by kernel_rfl) (by kernel_rfl) (by kernel_rfl) (fun w' hb' => (by kernel_rfl)) ?_
          refine plan.Rest.first 16 _ (.agg #[.int .i64 u.v.n, .string u.v.s]) rfl (by kernel_rfl) (by kernel_rfl) (by kernel_rfl) (by kernel_rfl) (fun w' hb' => exec_load_at (b := w.heap.size + 1) (off := 12) rfl (by kernel_rfl) (range_v ((HZ.out _ (hb.trans (hb'.mono hb.size))).2)) Try.underlying28 rfl info_va.out) ?_
          refine plan.Rest.first 17 _ (.bool true) rfl (by kernel_rfl) (by kernel_rfl) (by kernel_rfl) (by kernel_rfl) (fun w' hb' => (exec_two rfl (by kernel_rfl) (by kernel_rfl) (eqg_va _ _ _ _ _ _) (HE2.out _))) ?_
          refine plan.Rest.first 18 _ (.bool true) rfl (by kernel_rfl) (by kernel_rfl) (by kernel_rfl) (by kernel_rfl) (fun w' hb' => (by kernel_rfl)) ?_
          refine plan.Rest.first 19 _ (.bool true) rfl (by kernel_rfl) (by kernel_rfl) (by kernel_rfl) (by kernel_rfl) (fun w' hb' => (by kernel_rfl)) ?_
          refine plan.Rest.first 20 _ (.pointer (some ⟨w.heap.size, 14, none⟩)) rfl (by kernel_rfl) (by kernel_rfl) (by kernel_rfl) (by kernel_rfl) (fun w' hb' => (by kernel_rfl)) ?_
          refine plan.Rest.first 21 _ (.slice ta s.t.length tc) rfl (by kernel_rfl) (by kernel_rfl) (by kernel_rfl) (by kernel_rfl) (fun w' hb' => exec_cell_slice (ad := ⟨w.heap.size, 14, none⟩) rfl (by kernel_rfl) (((HZ.out _ (hb.trans (hb'.mono hb.size))).1).cell 14) Try.isAgg29) ?_
          refine plan.Rest.first 22 _ (.pointer (some ⟨w.heap.size + 1, 14, none⟩)) rfl (by kernel_rfl) (by kernel_rfl) (by kernel_rfl) (by kernel_rfl) (fun w' hb' => (by kernel_rfl)) ?_
          refine plan.Rest.first 23 _ (.slice ua u.t.length uc) rfl (by kernel_rfl) (by kernel_rfl) (by kernel_rfl) (by kernel_rfl) (fun w' hb' => exec_cell_slice (ad := ⟨w.heap.size + 1, 14, none⟩) rfl (by kernel_rfl) (((HZ.out _ (hb.trans (hb'.mono hb.size))).2).cell 14) Try.isAgg29) ?_
          refine plan.Rest.call 24 _ 98 #[.slice ta s.t.length tc, .slice ua u.t.length uc] rfl (by kernel_rfl) (by kernel_rfl) (by kernel_rfl) ((cT W2 hb).mono ?_)
          rintro e W3 ⟨rfl, hn⟩
          have hb := hb.trans (hn.mono hb.size)
          refine ⟨_, rfl, hn, ?_⟩
          refine plan.Rest.first 25 _ (.bool false) rfl (by kernel_rfl) (by kernel_rfl) (by kernel_rfl) (by kernel_rfl) (fun w' hb' => (by kernel_rfl)) ?_
          refine plan.Rest.first 26 _ (.bool false) rfl (by kernel_rfl) (by kernel_rfl) (by kernel_rfl) (by kernel_rfl) (fun w' hb' => (by kernel_rfl)) ?_
          refine plan.Rest.skip 27 _ rfl (by kernel_rfl) (by kernel_rfl) (by kernel_rfl) (by kernel_rfl) ?_
          refine plan.Rest.skip 28 _ rfl (by kernel_rfl) (by kernel_rfl) (by kernel_rfl) (by kernel_rfl) ?_
          refine plan.Rest.skip 29 _ rfl (by kernel_rfl) (by kernel_rfl) (by kernel_rfl) (by kernel_rfl) ?_
          refine plan.Rest.skip 30 _ rfl (by kernel_rfl) (by kernel_rfl) (by kernel_rfl) (by kernel_rfl) ?_
          refine plan.Rest.skip 31 _ rfl (by kernel_rfl) (by kernel_rfl) (by kernel_rfl) (by kernel_rfl) ?_
          refine plan.Rest.first 32 _ (.bool false) rfl (by kernel_rfl) (by kernel_rfl) (by kernel_rfl) (by kernel_rfl) (fun w' hb' => (by kernel_rfl)) ?_
          refine plan.Rest.value 33 _ (.bool false) rfl (by kernel_rfl) (by kernel_rfl) (by kernel_rfl) ?_
          refine plan.Rest.done (by kernel_rfl) ?_
          walk_nrm
          go_wp2
          go_ret
          exact ⟨rfl, HB0.out.trans (hb.mono HB0.out.size)⟩
      · have HE2 := hid (fun W => eq_va s.v u.v W)
        rw [decide_eq_false h2] at HE2
        obtain rfl : false = r := by rw [← hr.out]; exact (decide_eq_false (fun e => h2 (sp_eq.1 e).2.2.1)).symm
        clear h0 h1 h2 cT0 cL0
        go_enter Try.func72, Try.ntmps72
        go_wp2
        rw [HW0.out]
        have hb : Below W0.heap.size W0 W0.drew := below_drewN (Below.refl _ _) 1
        refine plan.region (by kernel_rfl) ?_
        refine plan.Rest.first 0 _ (.agg #[.int .i64 s.op, .int .i64 s.fm, .int .i64 s.fd, .int .i64 s.pl, .int .i64 s.tt, .int .i64 s.a, .int .i64 s.b, .int .i64 s.f.id, .int .i64 s.f.kind, .int .i64 s.f.lo, .int .i64 s.f.hi, .int .i64 s.f.most, .int .i64 s.v.n, .string s.v.s, .slice ta s.t.length tc, .slice la s.l.length lc]) rfl (by kernel_rfl) (by kernel_rfl) (by kernel_rfl) (by kernel_rfl) (fun w' hb' => exec_load_at (b := w.heap.size) (off := 0) rfl (by kernel_rfl) ((HZ.out _ (hb.trans (hb'.mono hb.size))).1).whole Try.underlying32 rfl info_st.out) ?_
        refine plan.Rest.first 2 _ (.agg #[.int .i64 u.op, .int .i64 u.fm, .int .i64 u.fd, .int .i64 u.pl, .int .i64 u.tt, .int .i64 u.a, .int .i64 u.b, .int .i64 u.f.id, .int .i64 u.f.kind, .int .i64 u.f.lo, .int .i64 u.f.hi, .int .i64 u.f.most, .int .i64 u.v.n, .string u.v.s, .slice ua u.t.length uc, .slice va u.l.length vc]) rfl (by kernel_rfl) (by kernel_rfl) (by kernel_rfl) (by kernel_rfl) (fun w' hb' => exec_load_at (b := w.heap.size + 1) (off := 0) rfl (by kernel_rfl) ((HZ.out _ (hb.trans (hb'.mono hb.size))).2).whole Try.underlying32 rfl info_st.out) ?_
        refine plan.Rest.call 1 _ 97 #[.agg #[.int .i64 s.op, .int .i64 s.fm, .int .i64 s.fd, .int .i64 s.pl, .int .i64 s.tt, .int .i64 s.a, .int .i64 s.b, .int .i64 s.f.id, .int .i64 s.f.kind, .int .i64 s.f.lo, .int .i64 s.f.hi, .int .i64 s.f.most, .int .i64 s.v.n, .string s.v.s, .slice ta s.t.length tc, .slice la s.l.length lc]] rfl (by kernel_rfl) (by kernel_rfl) (by kernel_rfl) ((cN1 W0.drew).mono ?_)
        rintro e W1 ⟨rfl, hn⟩
        have hb := hb.trans (hn.mono hb.size)
        refine ⟨_, rfl, hn, ?_⟩
        refine plan.Rest.call 3 _ 97 #[.agg #[.int .i64 u.op, .int .i64 u.fm, .int .i64 u.fd, .int .i64 u.pl, .int .i64 u.tt, .int .i64 u.a, .int .i64 u.b, .int .i64 u.f.id, .int .i64 u.f.kind, .int .i64 u.f.lo, .int .i64 u.f.hi, .int .i64 u.f.most, .int .i64 u.v.n, .string u.v.s, .slice ua u.t.length uc, .slice va u.l.length vc]] rfl (by kernel_rfl) (by kernel_rfl) (by kernel_rfl) ((cN2 W1).mono ?_)
        rintro e W2 ⟨rfl, hn⟩
        have hb := hb.trans (hn.mono hb.size)
        refine ⟨_, rfl, hn, ?_⟩
        refine plan.Rest.first 4 _ (.bool true) rfl (by kernel_rfl) (by kernel_rfl) (by kernel_rfl) (by kernel_rfl) (fun w' hb' => (exec_two rfl (by kernel_rfl) (by kernel_rfl) (eqg_seven _ _ _ _ _) (HE0.out _))) ?_
        refine plan.Rest.first 5 _ (.bool true) rfl (by kernel_rfl) (by kernel_rfl) (by kernel_rfl) (by kernel_rfl) (fun w' hb' => (by kernel_rfl)) ?_
        refine plan.Rest.first 6 _ (.pointer (some ⟨w.heap.size, 7, none⟩)) rfl (by kernel_rfl) (by kernel_rfl) (by kernel_rfl) (by kernel_rfl) (fun w' hb' => (by kernel_rfl)) ?_
        refine plan.Rest.first 7 _ (.agg #[.int .i64 s.f.id, .int .i64 s.f.kind, .int .i64 s.f.lo, .int .i64 s.f.hi, .int .i64 s.f.most]) rfl (by kernel_rfl) (by kernel_rfl) (by kernel_rfl) (by kernel_rfl) (fun w' hb' => exec_load_at (b := w.heap.size) (off := 7) rfl (by kernel_rfl) (range_f ((HZ.out _ (hb.trans (hb'.mono hb.size))).1)) Try.underlying26 rfl info_fd.out) ?_
        refine plan.Rest.first 8 _ (.pointer (some ⟨w.heap.size + 1, 7, none⟩)) rfl (by kernel_rfl) (by kernel_rfl) (by kernel_rfl) (by kernel_rfl) (fun w' hb' => (by kernel_rfl)) ?_
        refine plan.Rest.first 9 _ (.agg #[.int .i64 u.f.id, .int .i64 u.f.kind, .int .i64 u.f.lo, .int .i64 u.f.hi, .int .i64 u.f.most]) rfl (by kernel_rfl) (by kernel_rfl) (by kernel_rfl) (by kernel_rfl) (fun w' hb' => exec_load_at (b := w.heap.size + 1) (off := 7) rfl (by kernel_rfl) (range_f ((HZ.out _ (hb.trans (hb'.mono hb.size))).2)) Try.underlying26 rfl info_fd.out) ?_
        refine plan.Rest.first 10 _ (.bool true) rfl (by kernel_rfl) (by kernel_rfl) (by kernel_rfl) (by kernel_rfl) (fun w' hb' => (exec_two rfl (by kernel_rfl) (by kernel_rfl) (eqg_fd _ _ _ _ _ _) (HE1.out _))) ?_
        refine plan.Rest.first 11 _ (.bool true) rfl (by kernel_rfl) (by kernel_rfl) (by kernel_rfl) (by kernel_rfl) (fun w' hb' => (by kernel_rfl)) ?_
        refine plan.Rest.first 12 _ (.bool true) rfl (by kernel_rfl) (by kernel_rfl) (by kernel_rfl) (by kernel_rfl) (fun w' hb' => (by kernel_rfl)) ?_
        refine plan.Rest.first 13 _ (.pointer (some ⟨w.heap.size, 12, none⟩)) rfl (by kernel_rfl) (by kernel_rfl) (by kernel_rfl) (by kernel_rfl) (fun w' hb' => (by kernel_rfl)) ?_
        refine plan.Rest.first 14 _ (.agg #[.int .i64 s.v.n, .string s.v.s]) rfl (by kernel_rfl) (by kernel_rfl) (by kernel_rfl) (by kernel_rfl) (fun w' hb' => exec_load_at (b := w.heap.size) (off := 12) rfl (by kernel_rfl) (range_v ((HZ.out _ (hb.trans (hb'.mono hb.size))).1)) Try.underlying28 rfl info_va.out) ?_
        refine plan.Rest.first 15 _ (.pointer (some ⟨w.heap.size + 1, 12, none⟩)) rfl (by kernel_rfl) (by kernel_rfl) (by kernel_rfl) (by kernel_rfl) (fun w' hb' => (by kernel_rfl)) ?_
        refine plan.Rest.first 16 _ (.agg #[.int .i64 u.v.n, .string u.v.s]) rfl (by kernel_rfl) (by kernel_rfl) (by kernel_rfl) (by kernel_rfl) (fun w' hb' => exec_load_at (b := w.heap.size + 1) (off := 12) rfl (by kernel_rfl) (range_v ((HZ.out _ (hb.trans (hb'.mono hb.size))).2)) Try.underlying28 rfl info_va.out) ?_
        refine plan.Rest.first 17 _ (.bool false) rfl (by kernel_rfl) (by kernel_rfl) (by kernel_rfl) (by kernel_rfl) (fun w' hb' => (exec_two rfl (by kernel_rfl) (by kernel_rfl) (eqg_va _ _ _ _ _ _) (HE2.out _))) ?_
        refine plan.Rest.first 18 _ (.bool false) rfl (by kernel_rfl) (by kernel_rfl) (by kernel_rfl) (by kernel_rfl) (fun w' hb' => (by kernel_rfl)) ?_
        refine plan.Rest.first 19 _ (.bool false) rfl (by kernel_rfl) (by kernel_rfl) (by kernel_rfl) (by kernel_rfl) (fun w' hb' => (by kernel_rfl)) ?_
        refine plan.Rest.skip 20 _ rfl (by kernel_rfl) (by kernel_rfl) (by kernel_rfl) (by kernel_rfl) ?_
        refine plan.Rest.skip 21 _ rfl (by kernel_rfl) (by kernel_rfl) (by kernel_rfl) (by kernel_rfl) ?_
        refine plan.Rest.skip 22 _ rfl (by kernel_rfl) (by kernel_rfl) (by kernel_rfl) (by kernel_rfl) ?_
        refine plan.Rest.skip 23 _ rfl (by kernel_rfl) (by kernel_rfl) (by kernel_rfl) (by kernel_rfl) ?_
        refine plan.Rest.skip 24 _ rfl (by kernel_rfl) (by kernel_rfl) (by kernel_rfl) (by kernel_rfl) ?_
        refine plan.Rest.first 25 _ (.bool false) rfl (by kernel_rfl) (by kernel_rfl) (by kernel_rfl) (by kernel_rfl) (fun w' hb' => (by kernel_rfl)) ?_
        refine plan.Rest.first 26 _ (.bool false) rfl (by kernel_rfl) (by kernel_rfl) (by kernel_rfl) (by kernel_rfl) (fun w' hb' => (by kernel_rfl)) ?_
        refine plan.Rest.skip 27 _ rfl (by kernel_rfl) (by kernel_rfl) (by kernel_rfl) (by kernel_rfl) ?_
        refine plan.Rest.skip 28 _ rfl (by kernel_rfl) (by kernel_rfl) (by kernel_rfl) (by kernel_rfl) ?_
        refine plan.Rest.skip 29 _ rfl (by kernel_rfl) (by kernel_rfl) (by kernel_rfl) (by kernel_rfl) ?_
        refine plan.Rest.skip 30 _ rfl (by kernel_rfl) (by kernel_rfl) (by kernel_rfl) (by kernel_rfl) ?_
        refine plan.Rest.skip 31 _ rfl (by kernel_rfl) (by kernel_rfl) (by kernel_rfl) (by kernel_rfl) ?_
        refine plan.Rest.first 32 _ (.bool false) rfl (by kernel_rfl) (by kernel_rfl) (by kernel_rfl) (by kernel_rfl) (fun w' hb' => (by kernel_rfl)) ?_
        refine plan.Rest.value 33 _ (.bool false) rfl (by kernel_rfl) (by kernel_rfl) (by kernel_rfl) ?_
        refine plan.Rest.done (by kernel_rfl) ?_
        walk_nrm
        go_wp2
        go_ret
        exact ⟨rfl, HB0.out.trans (hb.mono HB0.out.size)⟩
    · have HE1 := hid (fun W => eq_fd s.f u.f W)
      rw [decide_eq_false h1] at HE1
      obtain rfl : false = r := by rw [← hr.out]; exact (decide_eq_false (fun e => h1 (sp_eq.1 e).2.1)).symm
      clear h0 h1 cT0 cL0
      go_enter Try.func72, Try.ntmps72
      go_wp2
      rw [HW0.out]
      have hb : Below W0.heap.size W0 W0.drew := below_drewN (Below.refl _ _) 1
      refine plan.region (by kernel_rfl) ?_
      refine plan.Rest.first 0 _ (.agg #[.int .i64 s.op, .int .i64 s.fm, .int .i64 s.fd, .int .i64 s.pl, .int .i64 s.tt, .int .i64 s.a, .int .i64 s.b, .int .i64 s.f.id, .int .i64 s.f.kind, .int .i64 s.f.lo, .int .i64 s.f.hi, .int .i64 s.f.most, .int .i64 s.v.n, .string s.v.s, .slice ta s.t.length tc, .slice la s.l.length lc]) rfl (by kernel_rfl) (by kernel_rfl) (by kernel_rfl) (by kernel_rfl) (fun w' hb' => exec_load_at (b := w.heap.size) (off := 0) rfl (by kernel_rfl) ((HZ.out _ (hb.trans (hb'.mono hb.size))).1).whole Try.underlying32 rfl info_st.out) ?_
      refine plan.Rest.first 2 _ (.agg #[.int .i64 u.op, .int .i64 u.fm, .int .i64 u.fd, .int .i64 u.pl, .int .i64 u.tt, .int .i64 u.a, .int .i64 u.b, .int .i64 u.f.id, .int .i64 u.f.kind, .int .i64 u.f.lo, .int .i64 u.f.hi, .int .i64 u.f.most, .int .i64 u.v.n, .string u.v.s, .slice ua u.t.length uc, .slice va u.l.length vc]) rfl (by kernel_rfl) (by kernel_rfl) (by kernel_rfl) (by kernel_rfl) (fun w' hb' => exec_load_at (b := w.heap.size + 1) (off := 0) rfl (by kernel_rfl) ((HZ.out _ (hb.trans (hb'.mono hb.size))).2).whole Try.underlying32 rfl info_st.out) ?_
      refine plan.Rest.call 1 _ 97 #[.agg #[.int .i64 s.op, .int .i64 s.fm, .int .i64 s.fd, .int .i64 s.pl, .int .i64 s.tt, .int .i64 s.a, .int .i64 s.b, .int .i64 s.f.id, .int .i64 s.f.kind, .int .i64 s.f.lo, .int .i64 s.f.hi, .int .i64 s.f.most, .int .i64 s.v.n, .string s.v.s, .slice ta s.t.length tc, .slice la s.l.length lc]] rfl (by kernel_rfl) (by kernel_rfl) (by kernel_rfl) ((cN1 W0.drew).mono ?_)
      rintro e W1 ⟨rfl, hn⟩
      have hb := hb.trans (hn.mono hb.size)
      refine ⟨_, rfl, hn, ?_⟩
      refine plan.Rest.call 3 _ 97 #[.agg #[.int .i64 u.op, .int .i64 u.fm, .int .i64 u.fd, .int .i64 u.pl, .int .i64 u.tt, .int .i64 u.a, .int .i64 u.b, .int .i64 u.f.id, .int .i64 u.f.kind, .int .i64 u.f.lo, .int .i64 u.f.hi, .int .i64 u.f.most, .int .i64 u.v.n, .string u.v.s, .slice ua u.t.length uc, .slice va u.l.length vc]] rfl (by kernel_rfl) (by kernel_rfl) (by kernel_rfl) ((cN2 W1).mono ?_)
      rintro e W2 ⟨rfl, hn⟩
      have hb := hb.trans (hn.mono hb.size)
      refine ⟨_, rfl, hn, ?_⟩
      refine plan.Rest.first 4 _ (.bool true) rfl (by kernel_rfl) (by kernel_rfl) (by kernel_rfl) (by kernel_rfl) (fun w' hb' => (exec_two rfl (by kernel_rfl) (by kernel_rfl) (eqg_seven _ _ _ _ _) (HE0.out _))) ?_
      refine plan.Rest.first 5 _ (.bool true) rfl (by kernel_rfl) (by kernel_rfl) (by kernel_rfl) (by kernel_rfl) (fun w' hb' => (by kernel_rfl)) ?_
      refine plan.Rest.first 6 _ (.pointer (some ⟨w.heap.size, 7, none⟩)) rfl (by kernel_rfl) (by kernel_rfl) (by kernel_rfl) (by kernel_rfl) (fun w' hb' => (by kernel_rfl)) ?_
      refine plan.Rest.first 7 _ (.agg #[.int .i64 s.f.id, .int .i64 s.f.kind, .int .i64 s.f.lo, .int .i64 s.f.hi, .int .i64 s.f.most]) rfl (by kernel_rfl) (by kernel_rfl) (by kernel_rfl) (by kernel_rfl) (fun w' hb' => exec_load_at (b := w.heap.size) (off := 7) rfl (by kernel_rfl) (range_f ((HZ.out _ (hb.trans (hb'.mono hb.size))).1)) Try.underlying26 rfl info_fd.out) ?_
      refine plan.Rest.first 8 _ (.pointer (some ⟨w.heap.size + 1, 7, none⟩)) rfl (by kernel_rfl) (by kernel_rfl) (by kernel_rfl) (by kernel_rfl) (fun w' hb' => (by kernel_rfl)) ?_
      refine plan.Rest.first 9 _ (.agg #[.int .i64 u.f.id, .int .i64 u.f.kind, .int .i64 u.f.lo, .int .i64 u.f.hi, .int .i64 u.f.most]) rfl (by kernel_rfl) (by kernel_rfl) (by kernel_rfl) (by kernel_rfl) (fun w' hb' => exec_load_at (b := w.heap.size + 1) (off := 7) rfl (by kernel_rfl) (range_f ((HZ.out _ (hb.trans (hb'.mono hb.size))).2)) Try.underlying26 rfl info_fd.out) ?_
      refine plan.Rest.first 10 _ (.bool false) rfl (by kernel_rfl) (by kernel_rfl) (by kernel_rfl) (by kernel_rfl) (fun w' hb' => (exec_two rfl (by kernel_rfl) (by kernel_rfl) (eqg_fd _ _ _ _ _ _) (HE1.out _))) ?_
      refine plan.Rest.first 11 _ (.bool false) rfl (by kernel_rfl) (by kernel_rfl) (by kernel_rfl) (by kernel_rfl) (fun w' hb' => (by kernel_rfl)) ?_
      refine plan.Rest.first 12 _ (.bool false) rfl (by kernel_rfl) (by kernel_rfl) (by kernel_rfl) (by kernel_rfl) (fun w' hb' => (by kernel_rfl)) ?_
      refine plan.Rest.skip 13 _ rfl (by kernel_rfl) (by kernel_rfl) (by kernel_rfl) (by kernel_rfl) ?_
      refine plan.Rest.skip 14 _ rfl (by kernel_rfl) (by kernel_rfl) (by kernel_rfl) (by kernel_rfl) ?_
      refine plan.Rest.skip 15 _ rfl (by kernel_rfl) (by kernel_rfl) (by kernel_rfl) (by kernel_rfl) ?_
      refine plan.Rest.skip 16 _ rfl (by kernel_rfl) (by kernel_rfl) (by kernel_rfl) (by kernel_rfl) ?_
      refine plan.Rest.skip 17 _ rfl (by kernel_rfl) (by kernel_rfl) (by kernel_rfl) (by kernel_rfl) ?_
      refine plan.Rest.first 18 _ (.bool false) rfl (by kernel_rfl) (by kernel_rfl) (by kernel_rfl) (by kernel_rfl) (fun w' hb' => (by kernel_rfl)) ?_
      refine plan.Rest.first 19 _ (.bool false) rfl (by kernel_rfl) (by kernel_rfl) (by kernel_rfl) (by kernel_rfl) (fun w' hb' => (by kernel_rfl)) ?_
      refine plan.Rest.skip 20 _ rfl (by kernel_rfl) (by kernel_rfl) (by kernel_rfl) (by kernel_rfl) ?_
      refine plan.Rest.skip 21 _ rfl (by kernel_rfl) (by kernel_rfl) (by kernel_rfl) (by kernel_rfl) ?_
      refine plan.Rest.skip 22 _ rfl (by kernel_rfl) (by kernel_rfl) (by kernel_rfl) (by kernel_rfl) ?_
      refine plan.Rest.skip 23 _ rfl (by kernel_rfl) (by kernel_rfl) (by kernel_rfl) (by kernel_rfl) ?_
      refine plan.Rest.skip 24 _ rfl (by kernel_rfl) (by kernel_rfl) (by kernel_rfl) (by kernel_rfl) ?_
      refine plan.Rest.first 25 _ (.bool false) rfl (by kernel_rfl) (by kernel_rfl) (by kernel_rfl) (by kernel_rfl) (fun w' hb' => (by kernel_rfl)) ?_
      refine plan.Rest.first 26 _ (.bool false) rfl (by kernel_rfl) (by kernel_rfl) (by kernel_rfl) (by kernel_rfl) (fun w' hb' => (by kernel_rfl)) ?_
      refine plan.Rest.skip 27 _ rfl (by kernel_rfl) (by kernel_rfl) (by kernel_rfl) (by kernel_rfl) ?_
      refine plan.Rest.skip 28 _ rfl (by kernel_rfl) (by kernel_rfl) (by kernel_rfl) (by kernel_rfl) ?_
      refine plan.Rest.skip 29 _ rfl (by kernel_rfl) (by kernel_rfl) (by kernel_rfl) (by kernel_rfl) ?_
      refine plan.Rest.skip 30 _ rfl (by kernel_rfl) (by kernel_rfl) (by kernel_rfl) (by kernel_rfl) ?_
      refine plan.Rest.skip 31 _ rfl (by kernel_rfl) (by kernel_rfl) (by kernel_rfl) (by kernel_rfl) ?_
      refine plan.Rest.first 32 _ (.bool false) rfl (by kernel_rfl) (by kernel_rfl) (by kernel_rfl) (by kernel_rfl) (fun w' hb' => (by kernel_rfl)) ?_
      refine plan.Rest.value 33 _ (.bool false) rfl (by kernel_rfl) (by kernel_rfl) (by kernel_rfl) ?_
      refine plan.Rest.done (by kernel_rfl) ?_
      walk_nrm
      go_wp2
      go_ret
      exact ⟨rfl, HB0.out.trans (hb.mono HB0.out.size)⟩
  · have HE0 := hid (fun W => eq_seven s.op s.fm s.fd s.pl s.tt s.a s.b u.op u.fm u.fd u.pl u.tt u.a u.b W)
    rw [decide_eq_false h0] at HE0
    obtain rfl : false = r := by rw [← hr.out]; exact (decide_eq_false (fun e => h0 (sp_eq.1 e).1)).symm
    clear h0 cT0 cL0
    go_enter Try.func72, Try.ntmps72
    go_wp2
    rw [HW0.out]
    have hb : Below W0.heap.size W0 W0.drew := below_drewN (Below.refl _ _) 1
    refine plan.region (by kernel_rfl) ?_
    refine plan.Rest.first 0 _ (.agg #[.int .i64 s.op, .int .i64 s.fm, .int .i64 s.fd, .int .i64 s.pl, .int .i64 s.tt, .int .i64 s.a, .int .i64 s.b, .int .i64 s.f.id, .int .i64 s.f.kind, .int .i64 s.f.lo, .int .i64 s.f.hi, .int .i64 s.f.most, .int .i64 s.v.n, .string s.v.s, .slice ta s.t.length tc, .slice la s.l.length lc]) rfl (by kernel_rfl) (by kernel_rfl) (by kernel_rfl) (by kernel_rfl) (fun w' hb' => exec_load_at (b := w.heap.size) (off := 0) rfl (by kernel_rfl) ((HZ.out _ (hb.trans (hb'.mono hb.size))).1).whole Try.underlying32 rfl info_st.out) ?_
    refine plan.Rest.first 2 _ (.agg #[.int .i64 u.op, .int .i64 u.fm, .int .i64 u.fd, .int .i64 u.pl, .int .i64 u.tt, .int .i64 u.a, .int .i64 u.b, .int .i64 u.f.id, .int .i64 u.f.kind, .int .i64 u.f.lo, .int .i64 u.f.hi, .int .i64 u.f.most, .int .i64 u.v.n, .string u.v.s, .slice ua u.t.length uc, .slice va u.l.length vc]) rfl (by kernel_rfl) (by kernel_rfl) (by kernel_rfl) (by kernel_rfl) (fun w' hb' => exec_load_at (b := w.heap.size + 1) (off := 0) rfl (by kernel_rfl) ((HZ.out _ (hb.trans (hb'.mono hb.size))).2).whole Try.underlying32 rfl info_st.out) ?_
    refine plan.Rest.call 1 _ 97 #[.agg #[.int .i64 s.op, .int .i64 s.fm, .int .i64 s.fd, .int .i64 s.pl, .int .i64 s.tt, .int .i64 s.a, .int .i64 s.b, .int .i64 s.f.id, .int .i64 s.f.kind, .int .i64 s.f.lo, .int .i64 s.f.hi, .int .i64 s.f.most, .int .i64 s.v.n, .string s.v.s, .slice ta s.t.length tc, .slice la s.l.length lc]] rfl (by kernel_rfl) (by kernel_rfl) (by kernel_rfl) ((cN1 W0.drew).mono ?_)
    rintro e W1 ⟨rfl, hn⟩
    have hb := hb.trans (hn.mono hb.size)
    refine ⟨_, rfl, hn, ?_⟩
    refine plan.Rest.call 3 _ 97 #[.agg #[.int .i64 u.op, .int .i64 u.fm, .int .i64 u.fd, .int .i64 u.pl, .int .i64 u.tt, .int .i64 u.a, .int .i64 u.b, .int .i64 u.f.id, .int .i64 u.f.kind, .int .i64 u.f.lo, .int .i64 u.f.hi, .int .i64 u.f.most, .int .i64 u.v.n, .string u.v.s, .slice ua u.t.length uc, .slice va u.l.length vc]] rfl (by kernel_rfl) (by kernel_rfl) (by kernel_rfl) ((cN2 W1).mono ?_)
    rintro e W2 ⟨rfl, hn⟩
    have hb := hb.trans (hn.mono hb.size)
    refine ⟨_, rfl, hn, ?_⟩
    refine plan.Rest.first 4 _ (.bool false) rfl (by kernel_rfl) (by kernel_rfl) (by kernel_rfl) (by kernel_rfl) (fun w' hb' => (exec_two rfl (by kernel_rfl) (by kernel_rfl) (eqg_seven _ _ _ _ _) (HE0.out _))) ?_
    refine plan.Rest.first 5 _ (.bool false) rfl (by kernel_rfl) (by kernel_rfl) (by kernel_rfl) (by kernel_rfl) (fun w' hb' => (by kernel_rfl)) ?_
    refine plan.Rest.skip 6 _ rfl (by kernel_rfl) (by kernel_rfl) (by kernel_rfl) (by kernel_rfl) ?_
    refine plan.Rest.skip 7 _ rfl (by kernel_rfl) (by kernel_rfl) (by kernel_rfl) (by kernel_rfl) ?_
    refine plan.Rest.skip 8 _ rfl (by kernel_rfl) (by kernel_rfl) (by kernel_rfl) (by kernel_rfl) ?_
    refine plan.Rest.skip 9 _ rfl (by kernel_rfl) (by kernel_rfl) (by kernel_rfl) (by kernel_rfl) ?_
    refine plan.Rest.skip 10 _ rfl (by kernel_rfl) (by kernel_rfl) (by kernel_rfl) (by kernel_rfl) ?_
    refine plan.Rest.first 11 _ (.bool false) rfl (by kernel_rfl) (by kernel_rfl) (by kernel_rfl) (by kernel_rfl) (fun w' hb' => (by kernel_rfl)) ?_
    refine plan.Rest.first 12 _ (.bool false) rfl (by kernel_rfl) (by kernel_rfl) (by kernel_rfl) (by kernel_rfl) (fun w' hb' => (by kernel_rfl)) ?_
    refine plan.Rest.skip 13 _ rfl (by kernel_rfl) (by kernel_rfl) (by kernel_rfl) (by kernel_rfl) ?_
    refine plan.Rest.skip 14 _ rfl (by kernel_rfl) (by kernel_rfl) (by kernel_rfl) (by kernel_rfl) ?_
    refine plan.Rest.skip 15 _ rfl (by kernel_rfl) (by kernel_rfl) (by kernel_rfl) (by kernel_rfl) ?_
    refine plan.Rest.skip 16 _ rfl (by kernel_rfl) (by kernel_rfl) (by kernel_rfl) (by kernel_rfl) ?_
    refine plan.Rest.skip 17 _ rfl (by kernel_rfl) (by kernel_rfl) (by kernel_rfl) (by kernel_rfl) ?_
    refine plan.Rest.first 18 _ (.bool false) rfl (by kernel_rfl) (by kernel_rfl) (by kernel_rfl) (by kernel_rfl) (fun w' hb' => (by kernel_rfl)) ?_
    refine plan.Rest.first 19 _ (.bool false) rfl (by kernel_rfl) (by kernel_rfl) (by kernel_rfl) (by kernel_rfl) (fun w' hb' => (by kernel_rfl)) ?_
    refine plan.Rest.skip 20 _ rfl (by kernel_rfl) (by kernel_rfl) (by kernel_rfl) (by kernel_rfl) ?_
    refine plan.Rest.skip 21 _ rfl (by kernel_rfl) (by kernel_rfl) (by kernel_rfl) (by kernel_rfl) ?_
    refine plan.Rest.skip 22 _ rfl (by kernel_rfl) (by kernel_rfl) (by kernel_rfl) (by kernel_rfl) ?_
    refine plan.Rest.skip 23 _ rfl (by kernel_rfl) (by kernel_rfl) (by kernel_rfl) (by kernel_rfl) ?_
    refine plan.Rest.skip 24 _ rfl (by kernel_rfl) (by kernel_rfl) (by kernel_rfl) (by kernel_rfl) ?_
    refine plan.Rest.first 25 _ (.bool false) rfl (by kernel_rfl) (by kernel_rfl) (by kernel_rfl) (by kernel_rfl) (fun w' hb' => (by kernel_rfl)) ?_
    refine plan.Rest.first 26 _ (.bool false) rfl (by kernel_rfl) (by kernel_rfl) (by kernel_rfl) (by kernel_rfl) (fun w' hb' => (by kernel_rfl)) ?_
    refine plan.Rest.skip 27 _ rfl (by kernel_rfl) (by kernel_rfl) (by kernel_rfl) (by kernel_rfl) ?_
    refine plan.Rest.skip 28 _ rfl (by kernel_rfl) (by kernel_rfl) (by kernel_rfl) (by kernel_rfl) ?_
    refine plan.Rest.skip 29 _ rfl (by kernel_rfl) (by kernel_rfl) (by kernel_rfl) (by kernel_rfl) ?_
    refine plan.Rest.skip 30 _ rfl (by kernel_rfl) (by kernel_rfl) (by kernel_rfl) (by kernel_rfl) ?_
    refine plan.Rest.skip 31 _ rfl (by kernel_rfl) (by kernel_rfl) (by kernel_rfl) (by kernel_rfl) ?_
    refine plan.Rest.first 32 _ (.bool false) rfl (by kernel_rfl) (by kernel_rfl) (by kernel_rfl) (by kernel_rfl) (fun w' hb' => (by kernel_rfl)) ?_
    refine plan.Rest.value 33 _ (.bool false) rfl (by kernel_rfl) (by kernel_rfl) (by kernel_rfl) ?_
    refine plan.Rest.done (by kernel_rfl) ?_
    walk_nrm
    go_wp2
    go_ret
    exact ⟨rfl, HB0.out.trans (hb.mono HB0.out.size)⟩

end Go.Proofs.Ytiajpjkkopdmgaa.step
/- Contract of layer 15 (step): Right. No condition. -/
namespace Go.Proofs.Ytiajpjkkopdmgaa.step
open Go.RowKit
open Go.Proofs.Ytiajpjkkopdmgaa.field (Gives newB gives_from)
open Go.Proofs.Ytiajpjkkopdmgaa.schema (below_out take_succ_at)
set_option linter.unusedVariables false

def Sp.bareK (s : Sp) (k : Nat) : Sp := ((mem s.op).take k).foldl Sp.clear { s with op := 0 }
theorem bareK_succ {s : Sp} {k m : Nat} (h : (mem s.op)[k]? = some m) : s.bareK (k + 1) = (s.bareK k).clear m := by
  unfold Sp.bareK
  rw [take_succ_at h, List.foldl_append]
  rfl
theorem bareK_all (s : Sp) : s.bareK (mem s.op).length = (mem s.op).foldl Sp.clear { s with op := 0 } := by
  unfold Sp.bareK
  rw [List.take_of_length_le (Nat.le_refl _)]
theorem memI_cell {w w' : World} {a : Option Addr} {op : Int} (h : Ins w a (memI op)) (hb : Below w.heap.size w w') {k : Nat} (hk : k < (mem op).length) :
    ∃ b off m, a = some ⟨b, off, none⟩ ∧ b < w'.heap.size ∧ (mem op)[k]? = some m ∧ m < 12 ∧ w'.cell? ⟨b, off + k, none⟩ = some (.int .i64 (m : Int)) := by
  obtain ⟨b, off, p, h1, h2, h3, h4⟩ := int_at h hb (k := k) (by rw [memI_len]; exact hk)
  have hm := List.getElem?_eq_getElem hk
  have h5 := memI_at hm
  rw [h3] at h5
  obtain rfl := Option.some.inj h5
  exact ⟨b, off, _, h1, h2, hm, mem_lt op _ (List.mem_of_getElem? hm), h4⟩
set_option maxRecDepth 20000 in
set_option maxHeartbeats 3200000 in
theorem right_any (s : Sp) (ta : Option Addr) (tc : Nat) (la : Option Addr) (lc : Nat) (w : World) (h : Lists w s ta la) : Calls Try.prog 39 #[.agg #[.int .i64 s.op, .int .i64 s.fm, .int .i64 s.fd, .int .i64 s.pl, .int .i64 s.tt, .int .i64 s.a, .int .i64 s.b, .int .i64 s.f.id, .int .i64 s.f.kind, .int .i64 s.f.lo, .int .i64 s.f.hi, .int .i64 s.f.most, .int .i64 s.v.n, .string s.v.s, .slice ta s.t.length tc, .slice la s.l.length lc]] w (Gives (.bool (decide s.Right)) w) := by
  have HX := hid (boxP s ta tc la lc w)
  have HL := hid (h.below (newB w (.cells #[.int .i64 s.op, .int .i64 s.fm, .int .i64 s.fd, .int .i64 s.pl, .int .i64 s.tt, .int .i64 s.a, .int .i64 s.b, .int .i64 s.f.id, .int .i64 s.f.kind, .int .i64 s.f.lo, .int .i64 s.f.hi, .int .i64 s.f.most, .int .i64 s.v.n, .string s.v.s, .slice ta s.t.length tc, .slice la s.l.length lc] 32)))
  have cM := members_any s.op (w.alloc (.cells #[.int .i64 s.op, .int .i64 s.fm, .int .i64 s.fd, .int .i64 s.pl, .int .i64 s.tt, .int .i64 s.a, .int .i64 s.b, .int .i64 s.f.id, .int .i64 s.f.kind, .int .i64 s.f.lo, .int .i64 s.f.hi, .int .i64 s.f.most, .int .i64 s.v.n, .string s.v.s, .slice ta s.t.length tc, .slice la s.l.length lc] 32))
  obtain ⟨r, hr⟩ : ∃ r : Bool, Hid (decide s.Right = r) := ⟨_, rfl⟩
  rw [hr.out]
  unfold Gives
  unfold Members at cM
  clear h
  go_enter Try.func39, Try.ntmps39
  go_wp2_with (go_at_call 69; ((with_reducible refine cM.mono ?_); rintro e w1 ⟨aM, cMx, rfl, hI, hb1⟩; obtain ⟨⟨z0, z1, z2, z3, z4, z5, z6, z7, z8, z9, z10, z11, z12, z13, z14, z15⟩, hbo⟩ := HX.out _ hb1; have HB1 := hid hb1; have HBO := hid hbo; have HI := hid hI.ins; clear hb1 hbo hI))
  clear z0 z1 z2 z3 z4 z5 z6 z7 z8 z9 z10 z11 z12 z13 z14 z15 cM
  have HL1 := hid (HL.out.below HB1.out)
  have HX1 := hid (fun w' (hb : Below w1.heap.size w1 w') => HX.out w' (HB1.out.trans (hb.mono HB1.out.size)))
  have HBX : Hid (BoxAt w1 w1.heap.size (s.bareK 0) ta tc la lc (w1.alloc (.cells #[.int .i64 0, .int .i64 s.fm, .int .i64 s.fd, .int .i64 s.pl, .int .i64 s.tt, .int .i64 s.a, .int .i64 s.b, .int .i64 s.f.id, .int .i64 s.f.kind, .int .i64 s.f.lo, .int .i64 s.f.hi, .int .i64 s.f.most, .int .i64 s.v.n, .string s.v.s, .slice ta s.t.length tc, .slice la s.l.length lc] 32))) :=
    hid ⟨Block.new w1 32 [.int .i64 0, .int .i64 s.fm, .int .i64 s.fd, .int .i64 s.pl, .int .i64 s.tt, .int .i64 s.a, .int .i64 s.b, .int .i64 s.f.id, .int .i64 s.f.kind, .int .i64 s.f.lo, .int .i64 s.f.hi, .int .i64 s.f.most, .int .i64 s.v.n, .string s.v.s, .slice ta s.t.length tc, .slice la s.l.length lc], ⟨HL1.out.t, HL1.out.l, HL1.out.mt, HL1.out.ml⟩, Nat.le_refl _, newB _ _⟩
  generalize w1.alloc (.cells #[.int .i64 0, .int .i64 s.fm, .int .i64 s.fd, .int .i64 s.pl, .int .i64 s.tt, .int .i64 s.a, .int .i64 s.b, .int .i64 s.f.id, .int .i64 s.f.kind, .int .i64 s.f.lo, .int .i64 s.f.hi, .int .i64 s.f.most, .int .i64 s.v.n, .string s.v.s, .slice ta s.t.length tc, .slice la s.l.length lc] 32) = w2 at *
  obtain ⟨U, hU⟩ : ∃ U : Nat, Hid (w1.heap.size = U) := ⟨_, rfl⟩
  rw [hU.out] at HBX ⊢
  obtain ⟨N, hN⟩ : ∃ N : Nat, Hid ((mem s.op).length = N) := ⟨_, rfl⟩
  have hN5 : N ≤ 5 := by rw [← hN.out]; exact mem_len _
  rw [hN.out]
  go_loopw [14] (fun n wr => ∃ k : Nat, k ≤ N ∧ n = .int .i64 (k : Int) ∧ Hid (∀ m ∈ (mem s.op).take k, s.Fine m) ∧ Hid (∃ ta' tc' la' lc', BoxAt w1 U (s.bareK k) ta' tc' la' lc' wr)) (fun n _ => N - (intOf n).toNat)
  case atStart => exact ⟨0, Nat.zero_le _, rfl, hid (by simp), hid ⟨_, _, _, _, HBX.out⟩⟩
  case round =>
    obtain ⟨k, hk, rfl, HOK, HBW⟩ := hrel
    obtain ⟨ta', tc', la', lc', hbox⟩ := HBW.out
    have HB := hid hbox.below
    obtain ⟨⟨z0, z1, z2, z3, z4, z5, z6, z7, z8, z9, z10, z11, z12, z13, z14, z15⟩, hbo⟩ := HX1.out _ HB.out
    have HBOX := hid hbox
    by_cases hlt : k < N
    · obtain ⟨b, off, m, rfl, hbl, hm, hm12, c0⟩ := memI_cell HI.out HB.out (k := k) (by rw [hN.out]; exact hlt)
      have i1 : (k : Int) < N := by omega
      have HM := hid hm
      have HTK := hid (take_succ_at hm)
      have HSUC := hid (bareK_succ hm)
      have HMEM := hid (List.mem_of_getElem? hm)
      have cF := fine_any s ta tc la lc m hm12 _ (HL1.out.below HB.out)
      have cC := fun w' hb => clear_any U (s.bareK k) ta' tc' la' lc' m hm12 w' (HBOX.out.later hb)
      clear hm hbox hbo
      unfold Gives at cF
      unfold Cleared at cC
      by_cases hf : s.Fine m
      · rw [decide_eq_true hf] at cF
        have HFM := hid hf
        clear hf
        go_wp2_with (first
          | (go_at_call 70; ((with_reducible refine cF.mono ?_); rintro e w3 ⟨rfl, hb3⟩; have HB3 := hid hb3))
          | (go_at_call 71; ((with_reducible refine (cC _ hb3).mono ?_); rintro e w4 ⟨rfl, hbx4⟩; have HB4 := hid hbx4)))
        refine ⟨⟨k + 1, by omega, by go_num, hid ?_, hid ?_⟩, by simp [intOf]; omega⟩
        · rw [HTK.out]
          intro q hq
          rcases List.mem_append.1 hq with h | h
          · exact HOK.out q h
          · rw [List.mem_singleton.1 h]; exact HFM.out
        · rw [HSUC.out]; exact HB4.out
      · rw [decide_eq_false hf] at cF
        obtain rfl : false = r := by rw [← hr.out]; exact (decide_eq_false (fun h => hf (h.1 m HMEM.out))).symm
        clear hf cC
        go_wp2_with (go_at_call 70; ((with_reducible refine cF.mono ?_); rintro e w3 ⟨rfl, hb3⟩))
        go_ret
        exact ⟨rfl, HBO.out.trans ((HB.out.trans (hb3.mono HB.out.size)).mono HBO.out.size)⟩
    · obtain rfl : k = N := by omega
      have HALL : Hid (∀ m ∈ mem s.op, s.Fine m) := hid (by have := HOK.out; rw [← hN.out, List.take_of_length_le (Nat.le_refl _)] at this; exact this)
      have HRI : Hid (s.Right ↔ mem s.op ≠ [] ∧ s.bareK k = Sp.zero) := hid (by rw [← hN.out, bareK_all]; exact ⟨fun h => h.2, fun h => ⟨HALL.out, h⟩⟩)
      clear hbox hbo z0 z1 z2 z3 z4 z5 z6 z7 z8 z9 z10 z11 z12 z13 z14 z15
      by_cases hz : k = 0
      · have hme : mem s.op = [] := List.eq_nil_of_length_eq_zero (by rw [hN.out]; exact hz)
        obtain rfl : false = r := by rw [← hr.out]; exact (decide_eq_false (fun h => (HRI.out.1 h).1 hme)).symm
        have hd : decide ((k : Int) > 0) = false := decide_eq_false (by omega)
        have j1 : ¬ 0 < k := by omega
        have j2 : ¬ (0 : Int) < (k : Int) := by omega
        clear hme hlt
        go_wp2
        go_ret
        exact ⟨rfl, HBO.out.trans (HB.out.mono HBO.out.size)⟩
      · have hme : mem s.op ≠ [] := fun e => hz (by rw [← hN.out, e]; rfl)
        have hd : decide ((k : Int) > 0) = true := decide_eq_true (by omega)
        have j1 : 0 < k := by omega
        have j2 : (0 : Int) < (k : Int) := by omega
        have HRB : Hid (decide (s.bareK k = Sp.zero) = r) := hid (by rw [← hr.out]; exact decide_eq_decide.2 ⟨fun h => HRI.out.2 ⟨hme, h⟩, fun h => (HRI.out.1 h).2⟩)
        obtain ⟨u, hu⟩ : ∃ u, Hid (s.bareK k = u) := ⟨_, rfl⟩
        have HBU := HBOX
        rw [hu.out] at HBU HRB
        have hf := HBU.out.f
        have y0 := hf.cell 0
        have y1 := hf.cell 1
        have y2 := hf.cell 2
        have y3 := hf.cell 3
        have y4 := hf.cell 4
        have y5 := hf.cell 5
        have y6 := hf.cell 6
        have y7 := hf.cell 7
        have y8 := hf.cell 8
        have y9 := hf.cell 9
        have y10 := hf.cell 10
        have y11 := hf.cell 11
        have y12 := hf.cell 12
        have y13 := hf.cell 13
        have y14 := hf.cell 14
        have y15 := hf.cell 15
        have cS := fun w' (hb : Below w1.heap.size w1 w') => same_any u ta' tc' la' lc' Sp.zero none 0 none 0 w' ((HBU.out.lists).below hb) ⟨.inl rfl, .inl rfl, Nat.zero_le _, Nat.zero_le _⟩
        rw [HRB.out] at cS
        unfold Gives at cS
        replace cS : ∀ w', Below w1.heap.size w1 w' → Calls Try.prog 72 #[.agg #[.int .i64 u.op, .int .i64 u.fm, .int .i64 u.fd, .int .i64 u.pl, .int .i64 u.tt, .int .i64 u.a, .int .i64 u.b, .int .i64 u.f.id, .int .i64 u.f.kind, .int .i64 u.f.lo, .int .i64 u.f.hi, .int .i64 u.f.most, .int .i64 u.v.n, .string u.v.s, .slice ta' u.t.length tc', .slice la' u.l.length lc'], .agg #[.int .i64 0, .int .i64 0, .int .i64 0, .int .i64 0, .int .i64 0, .int .i64 0, .int .i64 0, .int .i64 0, .int .i64 0, .int .i64 0, .int .i64 0, .int .i64 0, .int .i64 0, .string ⟨#[]⟩, .slice none 0 0, .slice none 0 0]] w' fun e w2 => e = .returned (.bool r) ∧ Below w'.heap.size w' w2 := cS
        clear hf hme hlt hz
        go_wp2_with (go_at_call 72; ((with_reducible refine (cS _ (by first | exact HB.out | exact below_drewN HB.out _)).mono ?_); rintro e w3 ⟨rfl, hb3⟩))
        go_ret
        exact ⟨rfl, HBO.out.trans ((HB.out.trans (hb3.mono HB.out.size)).mono HBO.out.size)⟩
end Go.Proofs.Ytiajpjkkopdmgaa.step
