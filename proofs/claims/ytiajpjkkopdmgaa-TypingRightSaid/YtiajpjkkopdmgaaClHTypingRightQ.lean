/- Lemmas of the claim HTypingRight. Each says its own conditions. -/
import Derived.Test.YtiajpjkkopdmgaaClHTypingRightM
import Derived.Test.YtiajpjkkopdmgaaClHTypingRightP
import Derived.Test.YtiajpjkkopdmgaaClHTypingRightF
/- Contracts of layer 16 (typing): within, forward, On where the step does not fit. No condition but schemas and steps that are not too great. -/
namespace Go.Proofs.Ytiajpjkkopdmgaa.typing
open Go.RowKit Go.Proofs.Ytiajpjkkopdmgaa.schema
open Go.Proofs.Ytiajpjkkopdmgaa.field (Gives newB gives_from)
open Go.Proofs.Ytiajpjkkopdmgaa.step (Lists boxP)
set_option linter.unusedVariables false

theorem twithin_any (n lo hi : Int) (w : World) : Calls Try.prog 38 #[.int .i64 n, .int .i64 lo, .int .i64 hi] w (Gives (.bool (decide (lo ≤ n ∧ n ≤ hi))) w) := by
  obtain ⟨v, hv⟩ : ∃ v : Bool, Hid (decide (lo ≤ n ∧ n ≤ hi) = v) := ⟨_, rfl⟩
  rw [hv.out]
  unfold Gives
  by_cases h1 : lo ≤ n
  · by_cases h2 : n ≤ hi
    · obtain rfl : true = v := by rw [← hv.out]; simp [h1, h2]
      go_enter Try.func38, Try.ntmps38
      go_wp2
      go_ret
      exact ⟨rfl, Below.refl _ _⟩
    · obtain rfl : false = v := by rw [← hv.out]; simp [h1, h2]
      have hd : decide (n ≤ hi) = false := decide_eq_false h2
      go_enter Try.func38, Try.ntmps38
      go_wp2
      go_ret
      exact ⟨rfl, Below.refl _ _⟩
  · obtain rfl : false = v := by rw [← hv.out]; simp [h1]
    have hd : decide (lo ≤ n) = false := decide_eq_false h1
    go_enter Try.func38, Try.ntmps38
    go_wp2
    go_ret
    exact ⟨rfl, Below.refl _ _⟩

set_option maxRecDepth 20000 in
theorem forward_any (s : step.Sp) (ta : Option Addr) (tc : Nat) (la : Option Addr) (lc : Nat) (w : World) (hl : Lists w s ta la) : Calls Try.prog 19 #[.agg #[.int .i64 s.op, .int .i64 s.fm, .int .i64 s.fd, .int .i64 s.pl, .int .i64 s.tt, .int .i64 s.a, .int .i64 s.b, .int .i64 s.f.id, .int .i64 s.f.kind, .int .i64 s.f.lo, .int .i64 s.f.hi, .int .i64 s.f.most, .int .i64 s.v.n, .string s.v.s, .slice ta s.t.length tc, .slice la s.l.length lc]] w (Gives (.bool (decide ((1 ≤ s.op ∧ s.op ≤ 10) ∧ s.Right))) w) := by
  have HX := hid (boxP s ta tc la lc w)
  have hN := newB w (.cells #[.int .i64 s.op, .int .i64 s.fm, .int .i64 s.fd, .int .i64 s.pl, .int .i64 s.tt, .int .i64 s.a, .int .i64 s.b, .int .i64 s.f.id, .int .i64 s.f.kind, .int .i64 s.f.lo, .int .i64 s.f.hi, .int .i64 s.f.most, .int .i64 s.v.n, .string s.v.s, .slice ta s.t.length tc, .slice la s.l.length lc] 32)
  have cW := twithin_any s.op 1 10 ((w.alloc (.cells #[.int .i64 s.op, .int .i64 s.fm, .int .i64 s.fd, .int .i64 s.pl, .int .i64 s.tt, .int .i64 s.a, .int .i64 s.b, .int .i64 s.f.id, .int .i64 s.f.kind, .int .i64 s.f.lo, .int .i64 s.f.hi, .int .i64 s.f.most, .int .i64 s.v.n, .string s.v.s, .slice ta s.t.length tc, .slice la s.l.length lc] 32)))
  have cR := fun (w' : World) (hb : Below ((w.alloc (.cells #[.int .i64 s.op, .int .i64 s.fm, .int .i64 s.fd, .int .i64 s.pl, .int .i64 s.tt, .int .i64 s.a, .int .i64 s.b, .int .i64 s.f.id, .int .i64 s.f.kind, .int .i64 s.f.lo, .int .i64 s.f.hi, .int .i64 s.f.most, .int .i64 s.v.n, .string s.v.s, .slice ta s.t.length tc, .slice la s.l.length lc] 32))).heap.size ((w.alloc (.cells #[.int .i64 s.op, .int .i64 s.fm, .int .i64 s.fd, .int .i64 s.pl, .int .i64 s.tt, .int .i64 s.a, .int .i64 s.b, .int .i64 s.f.id, .int .i64 s.f.kind, .int .i64 s.f.lo, .int .i64 s.f.hi, .int .i64 s.f.most, .int .i64 s.v.n, .string s.v.s, .slice ta s.t.length tc, .slice la s.l.length lc] 32))) w') => step.right_any s ta tc la lc w' ((hl.below hN).below hb)
  obtain ⟨r, hr⟩ : ∃ r : Bool, Hid (decide ((1 ≤ s.op ∧ s.op ≤ 10) ∧ s.Right) = r) := ⟨_, rfl⟩
  rw [hr.out]
  unfold Gives at cW cR ⊢
  clear hN hl
  by_cases hw : 1 ≤ s.op ∧ s.op ≤ 10
  · rw [decide_eq_true hw] at cW
    have HR : Hid (decide s.Right = r) := hid (by rw [← hr.out]; simp [hw])
    rw [HR.out] at cR
    clear hw
    go_enter Try.func19, Try.ntmps19
    go_wp2_with (first
      | (go_at_call 38; ((with_reducible refine cW.mono ?_); rintro e w1 ⟨rfl, hb1⟩; obtain ⟨⟨z0, z1, z2, z3, z4, z5, z6, z7, z8, z9, z10, z11, z12, z13, z14, z15⟩, hbo⟩ := HX.out _ hb1))
      | (go_at_call 39; ((with_reducible refine (cR _ hb1).mono ?_); rintro e w2 ⟨rfl, hb2⟩)))
    go_ret
    exact ⟨rfl, hbo.trans (hb2.mono hbo.size)⟩
  · rw [decide_eq_false hw] at cW
    obtain rfl : false = r := by rw [← hr.out]; simp [hw]
    clear hw
    go_enter Try.func19, Try.ntmps19
    go_wp2_with (go_at_call 38; ((with_reducible refine cW.mono ?_); rintro e w1 ⟨rfl, hb1⟩; have hbo := (HX.out _ hb1).2))
    go_ret
    exact ⟨rfl, hbo⟩
/-- the call returns a schema and an error as r says -/
def OnAs (r : Int × List schema.Form × Nat) (w : World) (e : Ending) (w' : World) : Prop :=
  ∃ x xc G, e = .returned (.tuple #[.agg #[.int .i64 r.1, .slice x (List.length (α := Fm) G) xc], .int .i64 (r.2.2 : Nat)]) ∧ FmL w' x G ∧ forms G = r.2.1 ∧ Below w.heap.size w w'
theorem fit_iff (v : Int) (F : List schema.Form) (s : step.Sp) : Fit v F s ↔ Right v F ∧ (1 ≤ s.op ∧ s.op ≤ 10) ∧ s.Right := by
  unfold Fit
  constructor
  · rintro ⟨h1, h2, h3⟩
    exact ⟨h1, ⟨(step.mem_span h2.2.1).1, h3⟩, h2⟩
  · rintro ⟨h1, h2, h3⟩
    exact ⟨h1, h3, h2.2⟩
set_option maxRecDepth 20000 in
set_option maxHeartbeats 3200000 in
theorem on_no (v : Int) (a : Option Addr) (cc : Nat) (F : List Fm) (c : Ch) (hc : c = begin_ (forms F) c.s) (ta : Option Addr) (tc : Nat) (la : Option Addr) (lc : Nat) (w : World) (h : FmL w a F) (hF : Small w F) (hl : Lists w c.s ta la) (hL : c.s.l.length ≤ 40) (hf : ¬ Fit v (forms F) c.s) :
    Calls Try.prog 8 #[.agg #[.int .i64 v, .slice a F.length cc], .agg #[.int .i64 c.s.op, .int .i64 c.s.fm, .int .i64 c.s.fd, .int .i64 c.s.pl, .int .i64 c.s.tt, .int .i64 c.s.a, .int .i64 c.s.b, .int .i64 c.s.f.id, .int .i64 c.s.f.kind, .int .i64 c.s.f.lo, .int .i64 c.s.f.hi, .int .i64 c.s.f.most, .int .i64 c.s.v.n, .string c.s.v.s, .slice ta c.s.t.length tc, .slice la c.s.l.length lc]] w (OnAs (0, [], 2) w) := by
  have hbw : Below w.heap.size w ((((w.alloc (.cells #[.int .i64 v, .slice a F.length cc] 24))).alloc (.cells #[.int .i64 c.s.op, .int .i64 c.s.fm, .int .i64 c.s.fd, .int .i64 c.s.pl, .int .i64 c.s.tt, .int .i64 c.s.a, .int .i64 c.s.b, .int .i64 c.s.f.id, .int .i64 c.s.f.kind, .int .i64 c.s.f.lo, .int .i64 c.s.f.hi, .int .i64 c.s.f.most, .int .i64 c.s.v.n, .string c.s.v.s, .slice ta c.s.t.length tc, .slice la c.s.l.length lc] 32)).alloc (.cells #[.int .i64 0, .slice none 0 0] 24)) := by
    have h1 := newB w (.cells #[.int .i64 v, .slice a F.length cc] 24)
    have h2 := h1.alloc h1.size (.cells #[.int .i64 c.s.op, .int .i64 c.s.fm, .int .i64 c.s.fd, .int .i64 c.s.pl, .int .i64 c.s.tt, .int .i64 c.s.a, .int .i64 c.s.b, .int .i64 c.s.f.id, .int .i64 c.s.f.kind, .int .i64 c.s.f.lo, .int .i64 c.s.f.hi, .int .i64 c.s.f.most, .int .i64 c.s.v.n, .string c.s.v.s, .slice ta c.s.t.length tc, .slice la c.s.l.length lc] 32)
    exact h2.alloc h2.size _
  have HX : Hid (∀ w', Below (((((w.alloc (.cells #[.int .i64 v, .slice a F.length cc] 24))).alloc (.cells #[.int .i64 c.s.op, .int .i64 c.s.fm, .int .i64 c.s.fd, .int .i64 c.s.pl, .int .i64 c.s.tt, .int .i64 c.s.a, .int .i64 c.s.b, .int .i64 c.s.f.id, .int .i64 c.s.f.kind, .int .i64 c.s.f.lo, .int .i64 c.s.f.hi, .int .i64 c.s.f.most, .int .i64 c.s.v.n, .string c.s.v.s, .slice ta c.s.t.length tc, .slice la c.s.l.length lc] 32)).alloc (.cells #[.int .i64 0, .slice none 0 0] 24))).heap.size ((((w.alloc (.cells #[.int .i64 v, .slice a F.length cc] 24))).alloc (.cells #[.int .i64 c.s.op, .int .i64 c.s.fm, .int .i64 c.s.fd, .int .i64 c.s.pl, .int .i64 c.s.tt, .int .i64 c.s.a, .int .i64 c.s.b, .int .i64 c.s.f.id, .int .i64 c.s.f.kind, .int .i64 c.s.f.lo, .int .i64 c.s.f.hi, .int .i64 c.s.f.most, .int .i64 c.s.v.n, .string c.s.v.s, .slice ta c.s.t.length tc, .slice la c.s.l.length lc] 32)).alloc (.cells #[.int .i64 0, .slice none 0 0] 24)) w' → Block w' w.heap.size 24 [.int .i64 v, .slice a F.length cc] ∧ Block w' (w.heap.size + 1) 32 [.int .i64 c.s.op, .int .i64 c.s.fm, .int .i64 c.s.fd, .int .i64 c.s.pl, .int .i64 c.s.tt, .int .i64 c.s.a, .int .i64 c.s.b, .int .i64 c.s.f.id, .int .i64 c.s.f.kind, .int .i64 c.s.f.lo, .int .i64 c.s.f.hi, .int .i64 c.s.f.most, .int .i64 c.s.v.n, .string c.s.v.s, .slice ta c.s.t.length tc, .slice la c.s.l.length lc] ∧ Block w' (w.heap.size + 1 + 1) 24 [.int .i64 0, .slice none 0 0] ∧ Below w.heap.size w w') := hid (fun w' hb => by
    refine ⟨(((Block.new w _ _).alloc _).alloc _).later hb, Block.later (w := ((((w.alloc (.cells #[.int .i64 v, .slice a F.length cc] 24))).alloc (.cells #[.int .i64 c.s.op, .int .i64 c.s.fm, .int .i64 c.s.fd, .int .i64 c.s.pl, .int .i64 c.s.tt, .int .i64 c.s.a, .int .i64 c.s.b, .int .i64 c.s.f.id, .int .i64 c.s.f.kind, .int .i64 c.s.f.lo, .int .i64 c.s.f.hi, .int .i64 c.s.f.most, .int .i64 c.s.v.n, .string c.s.v.s, .slice ta c.s.t.length tc, .slice la c.s.l.length lc] 32)).alloc (.cells #[.int .i64 0, .slice none 0 0] 24))) ?_ hb, Block.later (w := ((((w.alloc (.cells #[.int .i64 v, .slice a F.length cc] 24))).alloc (.cells #[.int .i64 c.s.op, .int .i64 c.s.fm, .int .i64 c.s.fd, .int .i64 c.s.pl, .int .i64 c.s.tt, .int .i64 c.s.a, .int .i64 c.s.b, .int .i64 c.s.f.id, .int .i64 c.s.f.kind, .int .i64 c.s.f.lo, .int .i64 c.s.f.hi, .int .i64 c.s.f.most, .int .i64 c.s.v.n, .string c.s.v.s, .slice ta c.s.t.length tc, .slice la c.s.l.length lc] 32)).alloc (.cells #[.int .i64 0, .slice none 0 0] 24))) ?_ hb, hbw.trans (hb.mono (by simp; omega))⟩
    · have := (Block.new ((w.alloc (.cells #[.int .i64 v, .slice a F.length cc] 24))) 32 [.int .i64 c.s.op, .int .i64 c.s.fm, .int .i64 c.s.fd, .int .i64 c.s.pl, .int .i64 c.s.tt, .int .i64 c.s.a, .int .i64 c.s.b, .int .i64 c.s.f.id, .int .i64 c.s.f.kind, .int .i64 c.s.f.lo, .int .i64 c.s.f.hi, .int .i64 c.s.f.most, .int .i64 c.s.v.n, .string c.s.v.s, .slice ta c.s.t.length tc, .slice la c.s.l.length lc]).alloc (.cells #[.int .i64 0, .slice none 0 0] 24)
      simpa using this
    · have := Block.new (((w.alloc (.cells #[.int .i64 v, .slice a F.length cc] 24))).alloc (.cells #[.int .i64 c.s.op, .int .i64 c.s.fm, .int .i64 c.s.fd, .int .i64 c.s.pl, .int .i64 c.s.tt, .int .i64 c.s.a, .int .i64 c.s.b, .int .i64 c.s.f.id, .int .i64 c.s.f.kind, .int .i64 c.s.f.lo, .int .i64 c.s.f.hi, .int .i64 c.s.f.most, .int .i64 c.s.v.n, .string c.s.v.s, .slice ta c.s.t.length tc, .slice la c.s.l.length lc] 32)) 24 [.int .i64 0, .slice none 0 0]
      simpa using this)
  have hmx : F.length ≤ maxLen := by have := hF.1; unfold maxLen; omega
  have cR := right_any v a cc F ((((w.alloc (.cells #[.int .i64 v, .slice a F.length cc] 24))).alloc (.cells #[.int .i64 c.s.op, .int .i64 c.s.fm, .int .i64 c.s.fd, .int .i64 c.s.pl, .int .i64 c.s.tt, .int .i64 c.s.a, .int .i64 c.s.b, .int .i64 c.s.f.id, .int .i64 c.s.f.kind, .int .i64 c.s.f.lo, .int .i64 c.s.f.hi, .int .i64 c.s.f.most, .int .i64 c.s.v.n, .string c.s.v.s, .slice ta c.s.t.length tc, .slice la c.s.l.length lc] 32)).alloc (.cells #[.int .i64 0, .slice none 0 0] 24)) (h.below hbw) hmx
  unfold Gives at cR
  have n1 : w.heap.size ≠ w.heap.size + 1 + 1 := by omega
  have n2 : w.heap.size + 1 ≠ w.heap.size + 1 + 1 := by omega
  have cF := fun (w' : World) (hb : Below (((((w.alloc (.cells #[.int .i64 v, .slice a F.length cc] 24))).alloc (.cells #[.int .i64 c.s.op, .int .i64 c.s.fm, .int .i64 c.s.fd, .int .i64 c.s.pl, .int .i64 c.s.tt, .int .i64 c.s.a, .int .i64 c.s.b, .int .i64 c.s.f.id, .int .i64 c.s.f.kind, .int .i64 c.s.f.lo, .int .i64 c.s.f.hi, .int .i64 c.s.f.most, .int .i64 c.s.v.n, .string c.s.v.s, .slice ta c.s.t.length tc, .slice la c.s.l.length lc] 32)).alloc (.cells #[.int .i64 0, .slice none 0 0] 24))).heap.size ((((w.alloc (.cells #[.int .i64 v, .slice a F.length cc] 24))).alloc (.cells #[.int .i64 c.s.op, .int .i64 c.s.fm, .int .i64 c.s.fd, .int .i64 c.s.pl, .int .i64 c.s.tt, .int .i64 c.s.a, .int .i64 c.s.b, .int .i64 c.s.f.id, .int .i64 c.s.f.kind, .int .i64 c.s.f.lo, .int .i64 c.s.f.hi, .int .i64 c.s.f.most, .int .i64 c.s.v.n, .string c.s.v.s, .slice ta c.s.t.length tc, .slice la c.s.l.length lc] 32)).alloc (.cells #[.int .i64 0, .slice none 0 0] 24)) w') => forward_any c.s ta tc la lc w' ((hl.below hbw).below hb)
  unfold Gives at cF
  rw [fit_iff] at hf
  unfold OnAs
  clear h hF hl hL hmx hbw hc
  by_cases hr : Right v (forms F)
  · rw [decide_eq_true hr] at cR
    rw [decide_eq_false (show ¬ ((1 ≤ c.s.op ∧ c.s.op ≤ 10) ∧ c.s.Right) from fun e => hf ⟨hr, e⟩)] at cF
    clear hf hr
    go_enter Try.func8, Try.ntmps8
    go_wp2_with (first
      | (go_at_call 18; ((with_reducible refine cR.mono ?_); rintro e w1 ⟨rfl, hb1⟩; obtain ⟨k0, k1, k2, kb⟩ := HX.out _ hb1; have z0 := k0.cell 0; have z1 := k0.cell 1; have y0 := k1.cell 0; have y1 := k1.cell 1; have y2 := k1.cell 2; have y3 := k1.cell 3; have y4 := k1.cell 4; have y5 := k1.cell 5; have y6 := k1.cell 6; have y7 := k1.cell 7; have y8 := k1.cell 8; have y9 := k1.cell 9; have y10 := k1.cell 10; have y11 := k1.cell 11; have y12 := k1.cell 12; have y13 := k1.cell 13; have y14 := k1.cell 14; have y15 := k1.cell 15; have x0 := k2.cell 0; have x1 := k2.cell 1; have f0 := k2.frozen 0; have f1 := k2.frozen 1; have K2 := hid k2; have KB := hid kb; clear k0 k1 k2 kb))
      | (go_at_call 19; ((with_reducible refine (cF _ hb1).mono ?_); rintro e w2 ⟨rfl, hb2⟩; have hb1 := hb1.trans (hb2.mono hb1.size); obtain ⟨k0, k1, k2, kb⟩ := HX.out _ hb1; have z0 := k0.cell 0; have z1 := k0.cell 1; have y0 := k1.cell 0; have y1 := k1.cell 1; have y2 := k1.cell 2; have y3 := k1.cell 3; have y4 := k1.cell 4; have y5 := k1.cell 5; have y6 := k1.cell 6; have y7 := k1.cell 7; have y8 := k1.cell 8; have y9 := k1.cell 9; have y10 := k1.cell 10; have y11 := k1.cell 11; have y12 := k1.cell 12; have y13 := k1.cell 13; have y14 := k1.cell 14; have y15 := k1.cell 15; have x0 := k2.cell 0; have x1 := k2.cell 1; have f0 := k2.frozen 0; have f1 := k2.frozen 1; have K2 := hid k2; have KB := hid kb; clear k0 k1 k2 kb)))
    have hB := (K2.out.setCell 0 (.int .i64 0)).setCell 1 (.slice none 0 0)
    refine bodyPost_ret (results_cell2 (b := w.heap.size + 1 + 1) (o := 0) rfl rfl hB.whole Try.underlying24 rfl (sc_info2 _ _)) rfl ?_
    exact ⟨none, 0, [], rfl, ⟨.inl rfl, by simp⟩, rfl, below_setCells (below_setCells KB.out (by omega) 0 [_]) (by omega) 1 [_]⟩
  · rw [decide_eq_false hr] at cR
    clear hf hr cF
    go_enter Try.func8, Try.ntmps8
    go_wp2_with (go_at_call 18; ((with_reducible refine cR.mono ?_); rintro e w1 ⟨rfl, hb1⟩; obtain ⟨k0, k1, k2, kb⟩ := HX.out _ hb1; have z0 := k0.cell 0; have z1 := k0.cell 1; have y0 := k1.cell 0; have y1 := k1.cell 1; have y2 := k1.cell 2; have y3 := k1.cell 3; have y4 := k1.cell 4; have y5 := k1.cell 5; have y6 := k1.cell 6; have y7 := k1.cell 7; have y8 := k1.cell 8; have y9 := k1.cell 9; have y10 := k1.cell 10; have y11 := k1.cell 11; have y12 := k1.cell 12; have y13 := k1.cell 13; have y14 := k1.cell 14; have y15 := k1.cell 15; have x0 := k2.cell 0; have x1 := k2.cell 1; have f0 := k2.frozen 0; have f1 := k2.frozen 1; have K2 := hid k2; have KB := hid kb; clear k0 k1 k2 kb))
    have hB := (K2.out.setCell 0 (.int .i64 0)).setCell 1 (.slice none 0 0)
    refine bodyPost_ret (results_cell2 (b := w.heap.size + 1 + 1) (o := 0) rfl rfl hB.whole Try.underlying24 rfl (sc_info2 _ _)) rfl ?_
    exact ⟨none, 0, [], rfl, ⟨.inl rfl, by simp⟩, rfl, below_setCells (below_setCells KB.out (by omega) 0 [_]) (by omega) 1 [_]⟩
end Go.Proofs.Ytiajpjkkopdmgaa.typing
