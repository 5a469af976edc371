/- Lemmas of the claim HTypingRight. Each says its own conditions. -/
import Derived.Test.YtiajpjkkopdmgaaClHTypingRightQ
import Derived.Test.YtiajpjkkopdmgaaClHTypingRightP
import Derived.Test.YtiajpjkkopdmgaaClHTypingRightF
import Derived.Test.YtiajpjkkopdmgaaClHTypingRightN
import Derived.Laws.Strings
import Derived.Test.YtiajpjkkopdmgaaClHTypingRightG
/- Contract of layer 16 (typing): On where the step fits. No condition but schemas and steps that are not too great. -/
namespace Go.Proofs.Ytiajpjkkopdmgaa.typing
open Go.RowKit Go.Proofs.Ytiajpjkkopdmgaa.schema
open Go.Proofs.Ytiajpjkkopdmgaa.field (Gives newB gives_from)
open Go.Proofs.Ytiajpjkkopdmgaa.step (Lists boxP)
set_option linter.unusedVariables false

set_option maxRecDepth 20000 in
set_option maxHeartbeats 3200000 in
theorem on_err (v : Int) (a : Option Addr) (cc : Nat) (F : List Fm) (c : Ch) (hc : c = begin_ (forms F) c.s) (ta : Option Addr) (tc : Nat) (la : Option Addr) (lc : Nat) (w : World) (h : FmL w a F) (hF : Small w F) (hl : Lists w c.s ta la) (hL : c.s.l.length ≤ 40) (hf : Fit v (forms F) c.s) (h0 : err c ≠ 0) :
    Calls Try.prog 8 #[.agg #[.int .i64 v, .slice a F.length cc], .agg #[.int .i64 c.s.op, .int .i64 c.s.fm, .int .i64 c.s.fd, .int .i64 c.s.pl, .int .i64 c.s.tt, .int .i64 c.s.a, .int .i64 c.s.b, .int .i64 c.s.f.id, .int .i64 c.s.f.kind, .int .i64 c.s.f.lo, .int .i64 c.s.f.hi, .int .i64 c.s.f.most, .int .i64 c.s.v.n, .string c.s.v.s, .slice ta c.s.t.length tc, .slice la c.s.l.length lc]] w (OnAs (0, [], err c) w) := by
  have hbw : Below w.heap.size w ((((w.alloc (.cells #[.int .i64 v, .slice a F.length cc] 24))).alloc (.cells #[.int .i64 c.s.op, .int .i64 c.s.fm, .int .i64 c.s.fd, .int .i64 c.s.pl, .int .i64 c.s.tt, .int .i64 c.s.a, .int .i64 c.s.b, .int .i64 c.s.f.id, .int .i64 c.s.f.kind, .int .i64 c.s.f.lo, .int .i64 c.s.f.hi, .int .i64 c.s.f.most, .int .i64 c.s.v.n, .string c.s.v.s, .slice ta c.s.t.length tc, .slice la c.s.l.length lc] 32)).alloc (.cells #[.int .i64 0, .slice none 0 0] 24)) := by
    have h1 := newB w (.cells #[.int .i64 v, .slice a F.length cc] 24)
    have h2 := h1.alloc h1.size (.cells #[.int .i64 c.s.op, .int .i64 c.s.fm, .int .i64 c.s.fd, .int .i64 c.s.pl, .int .i64 c.s.tt, .int .i64 c.s.a, .int .i64 c.s.b, .int .i64 c.s.f.id, .int .i64 c.s.f.kind, .int .i64 c.s.f.lo, .int .i64 c.s.f.hi, .int .i64 c.s.f.most, .int .i64 c.s.v.n, .string c.s.v.s, .slice ta c.s.t.length tc, .slice la c.s.l.length lc] 32)
    exact h2.alloc h2.size _
  have HX : Hid (∀ w', Below (((((w.alloc (.cells #[.int .i64 v, .slice a F.length cc] 24))).alloc (.cells #[.int .i64 c.s.op, .int .i64 c.s.fm, .int .i64 c.s.fd, .int .i64 c.s.pl, .int .i64 c.s.tt, .int .i64 c.s.a, .int .i64 c.s.b, .int .i64 c.s.f.id, .int .i64 c.s.f.kind, .int .i64 c.s.f.lo, .int .i64 c.s.f.hi, .int .i64 c.s.f.most, .int .i64 c.s.v.n, .string c.s.v.s, .slice ta c.s.t.length tc, .slice la c.s.l.length lc] 32)).alloc (.cells #[.int .i64 0, .slice none 0 0] 24))).heap.size ((((w.alloc (.cells #[.int .i64 v, .slice a F.length cc] 24))).alloc (.cells #[.int .i64 c.s.op, .int .i64 c.s.fm, .int .i64 c.s.fd, .int .i64 c.s.pl, .int .i64 c.s.tt, .int .i64 c.s.a, .int .i64 c.s.b, .int .i64 c.s.f.id, .int .i64 c.s.f.kind, .int .i64 c.s.f.lo, .int .i64 c.s.f.hi, .int .i64 c.s.f.most, .int .i64 c.s.v.n, .string c.s.v.s, .slice ta c.s.t.length tc, .slice la c.s.l.length lc] 32)).alloc (.cells #[.int .i64 0, .slice none 0 0] 24)) w' → Block w' w.heap.size 24 [.int .i64 v, .slice a F.length cc] ∧ Block w' (w.heap.size + 1) 32 [.int .i64 c.s.op, .int .i64 c.s.fm, .int .i64 c.s.fd, .int .i64 c.s.pl, .int .i64 c.s.tt, .int .i64 c.s.a, .int .i64 c.s.b, .int .i64 c.s.f.id, .int .i64 c.s.f.kind, .int .i64 c.s.f.lo, .int .i64 c.s.f.hi, .int .i64 c.s.f.most, .int .i64 c.s.v.n, .string c.s.v.s, .slice ta c.s.t.length tc, .slice la c.s.l.length lc] ∧ Block w' (w.heap.size + 1 + 1) 24 [.int .i64 0, .slice none 0 0] ∧ Below w.heap.size w w') := hid (fun w' hb => by
    refine ⟨(((Block.new w _ _).alloc _).alloc _).later hb, Block.later (w := ((((w.alloc (.cells #[.int .i64 v, .slice a F.length cc] 24))).alloc (.cells #[.int .i64 c.s.op, .int .i64 c.s.fm, .int .i64 c.s.fd, .int .i64 c.s.pl, .int .i64 c.s.tt, .int .i64 c.s.a, .int .i64 c.s.b, .int .i64 c.s.f.id, .int .i64 c.s.f.kind, .int .i64 c.s.f.lo, .int .i64 c.s.f.hi, .int .i64 c.s.f.most, .int .i64 c.s.v.n, .string c.s.v.s, .slice ta c.s.t.length tc, .slice la c.s.l.length lc] 32)).alloc (.cells #[.int .i64 0, .slice none 0 0] 24))) ?_ hb, Block.later (w := ((((w.alloc (.cells #[.int .i64 v, .slice a F.length cc] 24))).alloc (.cells #[.int .i64 c.s.op, .int .i64 c.s.fm, .int .i64 c.s.fd, .int .i64 c.s.pl, .int .i64 c.s.tt, .int .i64 c.s.a, .int .i64 c.s.b, .int .i64 c.s.f.id, .int .i64 c.s.f.kind, .int .i64 c.s.f.lo, .int .i64 c.s.f.hi, .int .i64 c.s.f.most, .int .i64 c.s.v.n, .string c.s.v.s, .slice ta c.s.t.length tc, .slice la c.s.l.length lc] 32)).alloc (.cells #[.int .i64 0, .slice none 0 0] 24))) ?_ hb, hbw.trans (hb.mono (by simp; omega))⟩
    · have := (Block.new ((w.alloc (.cells #[.int .i64 v, .slice a F.length cc] 24))) 32 [.int .i64 c.s.op, .int .i64 c.s.fm, .int .i64 c.s.fd, .int .i64 c.s.pl, .int .i64 c.s.tt, .int .i64 c.s.a, .int .i64 c.s.b, .int .i64 c.s.f.id, .int .i64 c.s.f.kind, .int .i64 c.s.f.lo, .int .i64 c.s.f.hi, .int .i64 c.s.f.most, .int .i64 c.s.v.n, .string c.s.v.s, .slice ta c.s.t.length tc, .slice la c.s.l.length lc]).alloc (.cells #[.int .i64 0, .slice none 0 0] 24)
      simpa using this
    · have := Block.new (((w.alloc (.cells #[.int .i64 v, .slice a F.length cc] 24))).alloc (.cells #[.int .i64 c.s.op, .int .i64 c.s.fm, .int .i64 c.s.fd, .int .i64 c.s.pl, .int .i64 c.s.tt, .int .i64 c.s.a, .int .i64 c.s.b, .int .i64 c.s.f.id, .int .i64 c.s.f.kind, .int .i64 c.s.f.lo, .int .i64 c.s.f.hi, .int .i64 c.s.f.most, .int .i64 c.s.v.n, .string c.s.v.s, .slice ta c.s.t.length tc, .slice la c.s.l.length lc] 32)) 24 [.int .i64 0, .slice none 0 0]
      simpa using this)
  have hmx : F.length ≤ maxLen := by have := hF.1; unfold maxLen; omega
  have cR := right_any v a cc F ((((w.alloc (.cells #[.int .i64 v, .slice a F.length cc] 24))).alloc (.cells #[.int .i64 c.s.op, .int .i64 c.s.fm, .int .i64 c.s.fd, .int .i64 c.s.pl, .int .i64 c.s.tt, .int .i64 c.s.a, .int .i64 c.s.b, .int .i64 c.s.f.id, .int .i64 c.s.f.kind, .int .i64 c.s.f.lo, .int .i64 c.s.f.hi, .int .i64 c.s.f.most, .int .i64 c.s.v.n, .string c.s.v.s, .slice ta c.s.t.length tc, .slice la c.s.l.length lc] 32)).alloc (.cells #[.int .i64 0, .slice none 0 0] 24)) (h.below hbw) hmx
  unfold Gives at cR
  have n1 : w.heap.size ≠ w.heap.size + 1 + 1 := by omega
  have n2 : w.heap.size + 1 ≠ w.heap.size + 1 + 1 := by omega
  have cF := fun (w' : World) (hb : Below (((((w.alloc (.cells #[.int .i64 v, .slice a F.length cc] 24))).alloc (.cells #[.int .i64 c.s.op, .int .i64 c.s.fm, .int .i64 c.s.fd, .int .i64 c.s.pl, .int .i64 c.s.tt, .int .i64 c.s.a, .int .i64 c.s.b, .int .i64 c.s.f.id, .int .i64 c.s.f.kind, .int .i64 c.s.f.lo, .int .i64 c.s.f.hi, .int .i64 c.s.f.most, .int .i64 c.s.v.n, .string c.s.v.s, .slice ta c.s.t.length tc, .slice la c.s.l.length lc] 32)).alloc (.cells #[.int .i64 0, .slice none 0 0] 24))).heap.size ((((w.alloc (.cells #[.int .i64 v, .slice a F.length cc] 24))).alloc (.cells #[.int .i64 c.s.op, .int .i64 c.s.fm, .int .i64 c.s.fd, .int .i64 c.s.pl, .int .i64 c.s.tt, .int .i64 c.s.a, .int .i64 c.s.b, .int .i64 c.s.f.id, .int .i64 c.s.f.kind, .int .i64 c.s.f.lo, .int .i64 c.s.f.hi, .int .i64 c.s.f.most, .int .i64 c.s.v.n, .string c.s.v.s, .slice ta c.s.t.length tc, .slice la c.s.l.length lc] 32)).alloc (.cells #[.int .i64 0, .slice none 0 0] 24)) w') => forward_any c.s ta tc la lc w' ((hl.below hbw).below hb)
  unfold Gives at cF
  have hf' := (fit_iff _ _ _).1 hf
  rw [decide_eq_true hf'.1] at cR
  rw [decide_eq_true hf'.2] at cF
  have hcl : c.L.length ≤ 40 := by have := begin_len hF c.s; rwa [← hc] at this
  obtain ⟨hb4, hb6⟩ := fit_bd hf hc
  have cB := fun (w' : World) (hb : Below w.heap.size w w') => begin_any v a cc F c hc ta tc la lc w' (h.below hb) (hF.below hb)
  have cK := fun (fa : Option Addr) (fc : Nat) (w' : World) (hfa : field.Fds w' fa c.L) => check_any c ta tc la lc fa fc w' hfa hcl hb4
  unfold Gives at cK
  have HIS : Hid ((Try.prog.info? 32).map (·.size) = some ([.int .i64 c.s.op, .int .i64 c.s.fm, .int .i64 c.s.fd, .int .i64 c.s.pl, .int .i64 c.s.tt, .int .i64 c.s.a, .int .i64 c.s.b, .int .i64 c.s.f.id, .int .i64 c.s.f.kind, .int .i64 c.s.f.lo, .int .i64 c.s.f.hi, .int .i64 c.s.f.most, .int .i64 c.s.v.n, .string c.s.v.s, .slice ta c.s.t.length tc, .slice la c.s.l.length lc] : List Value).length) := hid st_info
  have HIF : Hid (∀ (fa : Option Addr) (fc : Nat), (Try.prog.info? 58).map (·.size) = some ([.int .i64 c.s.op, .int .i64 c.s.fm, .int .i64 c.s.fd, .int .i64 c.s.pl, .int .i64 c.s.tt, .int .i64 c.s.a, .int .i64 c.s.b, .int .i64 c.s.f.id, .int .i64 c.s.f.kind, .int .i64 c.s.f.lo, .int .i64 c.s.f.hi, .int .i64 c.s.f.most, .int .i64 c.s.v.n, .string c.s.v.s, .slice ta c.s.t.length tc, .slice la c.s.l.length lc, .int .i64 c.fi, .slice fa c.L.length fc, .bool c.kn, .int .i64 c.at_, .int .i64 c.old.id, .int .i64 c.old.kind, .int .i64 c.old.lo, .int .i64 c.old.hi, .int .i64 c.old.most] : List Value).length) := hid (fun _ _ => ch_info)
  have HIG : Hid (∀ (fa : Option Addr) (fc : Nat), (Try.prog.info? 58).map (·.size) = some (#[.int .i64 c.s.op, .int .i64 c.s.fm, .int .i64 c.s.fd, .int .i64 c.s.pl, .int .i64 c.s.tt, .int .i64 c.s.a, .int .i64 c.s.b, .int .i64 c.s.f.id, .int .i64 c.s.f.kind, .int .i64 c.s.f.lo, .int .i64 c.s.f.hi, .int .i64 c.s.f.most, .int .i64 c.s.v.n, .string c.s.v.s, .slice ta c.s.t.length tc, .slice la c.s.l.length lc, .int .i64 c.fi, .slice fa c.L.length fc, .bool c.kn, .int .i64 c.at_, .int .i64 c.old.id, .int .i64 c.old.kind, .int .i64 c.old.lo, .int .i64 c.old.hi, .int .i64 c.old.most] : Array Value).size) := hid (fun _ _ => ch_info)
  have HON : Hid (∀ (fa : Option Addr) (fc : Nat), (#[.int .i64 c.s.op, .int .i64 c.s.fm, .int .i64 c.s.fd, .int .i64 c.s.pl, .int .i64 c.s.tt, .int .i64 c.s.a, .int .i64 c.s.b, .int .i64 c.s.f.id, .int .i64 c.s.f.kind, .int .i64 c.s.f.lo, .int .i64 c.s.f.hi, .int .i64 c.s.f.most, .int .i64 c.s.v.n, .string c.s.v.s, .slice ta c.s.t.length tc, .slice la c.s.l.length lc, .int .i64 c.fi, .slice fa c.L.length fc, .bool c.kn, .int .i64 c.at_, .int .i64 c.old.id, .int .i64 c.old.kind, .int .i64 c.old.lo, .int .i64 c.old.hi, .int .i64 c.old.most] : Array Value).all (·.oneCell') = true) := hid (fun fa fc => all_oneCell_toArray (by repeat (first | exact one_nil | refine one_cons rfl ?_)))
  have HTH : Hid (∀ (fa : Option Addr) (fc : Nat) (W : World), (W.alloc (.cells #[.int .i64 0, .int .i64 0, .int .i64 0, .int .i64 0, .int .i64 0, .int .i64 0, .int .i64 0, .int .i64 0, .int .i64 0, .int .i64 0, .int .i64 0, .int .i64 0, .int .i64 0, .string ⟨#[]⟩, .slice none 0 0, .slice none 0 0, .int .i64 0, .slice none 0 0, .bool false, .int .i64 0, .int .i64 0, .int .i64 0, .int .i64 0, .int .i64 0, .int .i64 0] 58)).there W.heap.size 0 (#[.int .i64 c.s.op, .int .i64 c.s.fm, .int .i64 c.s.fd, .int .i64 c.s.pl, .int .i64 c.s.tt, .int .i64 c.s.a, .int .i64 c.s.b, .int .i64 c.s.f.id, .int .i64 c.s.f.kind, .int .i64 c.s.f.lo, .int .i64 c.s.f.hi, .int .i64 c.s.f.most, .int .i64 c.s.v.n, .string c.s.v.s, .slice ta c.s.t.length tc, .slice la c.s.l.length lc, .int .i64 c.fi, .slice fa c.L.length fc, .bool c.kn, .int .i64 c.at_, .int .i64 c.old.id, .int .i64 c.old.kind, .int .i64 c.old.lo, .int .i64 c.old.hi, .int .i64 c.old.most] : Array Value).size) := hid (fun fa fc W => (Block.new W 58 [.int .i64 0, .int .i64 0, .int .i64 0, .int .i64 0, .int .i64 0, .int .i64 0, .int .i64 0, .int .i64 0, .int .i64 0, .int .i64 0, .int .i64 0, .int .i64 0, .int .i64 0, .string ⟨#[]⟩, .slice none 0 0, .slice none 0 0, .int .i64 0, .slice none 0 0, .bool false, .int .i64 0, .int .i64 0, .int .i64 0, .int .i64 0, .int .i64 0, .int .i64 0]).there 0 25 (by simp))
  obtain ⟨E, hE⟩ : ∃ E, Hid (err c = E) := ⟨_, rfl⟩
  rw [hE.out] at h0 cK ⊢
  have dE : (((E : Nat) : Int) != 0) = true := by simpa using h0
  unfold OnAs
  clear hb4 hb6 hcl h hF hl hL hmx hbw hc hf hf' h0
  go_enter Try.func8, Try.ntmps8
  go_wp2_with (first
    | (go_at_call 18; ((with_reducible refine cR.mono ?_); rintro e w1 ⟨rfl, hb1⟩; obtain ⟨k0, k1, k2, kb⟩ := HX.out _ hb1; have z0 := k0.cell 0; have z1 := k0.cell 1; have y0 := k1.cell 0; have y1 := k1.cell 1; have y2 := k1.cell 2; have y3 := k1.cell 3; have y4 := k1.cell 4; have y5 := k1.cell 5; have y6 := k1.cell 6; have y7 := k1.cell 7; have y8 := k1.cell 8; have y9 := k1.cell 9; have y10 := k1.cell 10; have y11 := k1.cell 11; have y12 := k1.cell 12; have y13 := k1.cell 13; have y14 := k1.cell 14; have y15 := k1.cell 15; have x0 := k2.cell 0; have x1 := k2.cell 1; have f0 := k2.frozen 0; have f1 := k2.frozen 1; have K2 := hid k2; have KB := hid kb; clear k0 k1 k2 kb))
    | (go_at_call 19; ((with_reducible refine (cF _ hb1).mono ?_); rintro e w2 ⟨rfl, hb2⟩; have hb1 := hb1.trans (hb2.mono hb1.size); obtain ⟨k0, k1, k2, kb⟩ := HX.out _ hb1; have z0 := k0.cell 0; have z1 := k0.cell 1; have y0 := k1.cell 0; have y1 := k1.cell 1; have y2 := k1.cell 2; have y3 := k1.cell 3; have y4 := k1.cell 4; have y5 := k1.cell 5; have y6 := k1.cell 6; have y7 := k1.cell 7; have y8 := k1.cell 8; have y9 := k1.cell 9; have y10 := k1.cell 10; have y11 := k1.cell 11; have y12 := k1.cell 12; have y13 := k1.cell 13; have y14 := k1.cell 14; have y15 := k1.cell 15; have x0 := k2.cell 0; have x1 := k2.cell 1; have f0 := k2.frozen 0; have f1 := k2.frozen 1; have K2 := hid k2; have KB := hid kb; clear k0 k1 k2 kb))
    | (go_at_call 20; ((with_reducible refine (cB _ KB.out).mono ?_); rintro e w3 ⟨fa, fc, rfl, hfa3, hb3⟩))
    | (with_reducible refine wpList_store_named rfl 58 (.tmp 6) (.tmp 20) rfl w3.heap.size 0 #[.int .i64 c.s.op, .int .i64 c.s.fm, .int .i64 c.s.fd, .int .i64 c.s.pl, .int .i64 c.s.tt, .int .i64 c.s.a, .int .i64 c.s.b, .int .i64 c.s.f.id, .int .i64 c.s.f.kind, .int .i64 c.s.f.lo, .int .i64 c.s.f.hi, .int .i64 c.s.f.most, .int .i64 c.s.v.n, .string c.s.v.s, .slice ta c.s.t.length tc, .slice la c.s.l.length lc, .int .i64 c.fi, .slice fa c.L.length fc, .bool c.kn, .int .i64 c.at_, .int .i64 c.old.id, .int .i64 c.old.kind, .int .i64 c.old.lo, .int .i64 c.old.hi, .int .i64 c.old.most] rfl rfl (HTH.out _ _ _) (HIG.out _ _) (HON.out _ _) ?_))
  intro w4 hw4
  have k6 : Block w4 w3.heap.size 58 [.int .i64 c.s.op, .int .i64 c.s.fm, .int .i64 c.s.fd, .int .i64 c.s.pl, .int .i64 c.s.tt, .int .i64 c.s.a, .int .i64 c.s.b, .int .i64 c.s.f.id, .int .i64 c.s.f.kind, .int .i64 c.s.f.lo, .int .i64 c.s.f.hi, .int .i64 c.s.f.most, .int .i64 c.s.v.n, .string c.s.v.s, .slice ta c.s.t.length tc, .slice la c.s.l.length lc, .int .i64 c.fi, .slice fa c.L.length fc, .bool c.kn, .int .i64 c.at_, .int .i64 c.old.id, .int .i64 c.old.kind, .int .i64 c.old.lo, .int .i64 c.old.hi, .int .i64 c.old.most] := by
    have := (Block.new w3 58 [.int .i64 0, .int .i64 0, .int .i64 0, .int .i64 0, .int .i64 0, .int .i64 0, .int .i64 0, .int .i64 0, .int .i64 0, .int .i64 0, .int .i64 0, .int .i64 0, .int .i64 0, .string ⟨#[]⟩, .slice none 0 0, .slice none 0 0, .int .i64 0, .slice none 0 0, .bool false, .int .i64 0, .int .i64 0, .int .i64 0, .int .i64 0, .int .i64 0, .int .i64 0]).setCells (vs := [.int .i64 c.s.op, .int .i64 c.s.fm, .int .i64 c.s.fd, .int .i64 c.s.pl, .int .i64 c.s.tt, .int .i64 c.s.a, .int .i64 c.s.b, .int .i64 c.s.f.id, .int .i64 c.s.f.kind, .int .i64 c.s.f.lo, .int .i64 c.s.f.hi, .int .i64 c.s.f.most, .int .i64 c.s.v.n, .string c.s.v.s, .slice ta c.s.t.length tc, .slice la c.s.l.length lc, .int .i64 c.fi, .slice fa c.L.length fc, .bool c.kn, .int .i64 c.at_, .int .i64 c.old.id, .int .i64 c.old.kind, .int .i64 c.old.lo, .int .i64 c.old.hi, .int .i64 c.old.most]) (o := 0)
    rw [put_all _ _ (by simp)] at this
    rw [← hw4.out]
    exact this
  have hb34 : Below w3.heap.size w3 w4 := by rw [← hw4.out]; exact below_setCells (newB w3 _) (Nat.le_refl _) _ _
  have hb4' := hb1.trans ((hb3.trans (hb34.mono hb3.size)).mono hb1.size)
  have hfa4 := hfa3.below hb34
  have HB4 := hid hb4'
  have HRG6 : Hid (∀ w', Below w4.heap.size w4 w' → w'.rangeAt w3.heap.size 0 [.int .i64 c.s.op, .int .i64 c.s.fm, .int .i64 c.s.fd, .int .i64 c.s.pl, .int .i64 c.s.tt, .int .i64 c.s.a, .int .i64 c.s.b, .int .i64 c.s.f.id, .int .i64 c.s.f.kind, .int .i64 c.s.f.lo, .int .i64 c.s.f.hi, .int .i64 c.s.f.most, .int .i64 c.s.v.n, .string c.s.v.s, .slice ta c.s.t.length tc, .slice la c.s.l.length lc, .int .i64 c.fi, .slice fa c.L.length fc, .bool c.kn, .int .i64 c.at_, .int .i64 c.old.id, .int .i64 c.old.kind, .int .i64 c.old.lo, .int .i64 c.old.hi, .int .i64 c.old.most]) := hid (fun w' hb => (k6.later hb).whole)
  have HR4 := hid (HRG6.out w4 (Below.refl _ _))
  have HFA := hid hfa4
  have cK4 := cK fa fc w4 hfa4
  clear hb1 hb3 hb34 hb4' hfa3 hfa4 k6 hw4 z0 z1 y0 y1 y2 y3 y4 y5 y6 y7 y8 y9 y10 y11 y12 y13 y14 y15 x0 x1 f0 f1 K2 KB cK cB cF cR
  go_wp2_with (first
    | (with_reducible refine wpList_load_mid rfl 58 (.tmp 6) rfl w3.heap.size 0 rfl [.int .i64 c.s.op, .int .i64 c.s.fm, .int .i64 c.s.fd, .int .i64 c.s.pl, .int .i64 c.s.tt, .int .i64 c.s.a, .int .i64 c.s.b, .int .i64 c.s.f.id, .int .i64 c.s.f.kind, .int .i64 c.s.f.lo, .int .i64 c.s.f.hi, .int .i64 c.s.f.most, .int .i64 c.s.v.n, .string c.s.v.s, .slice ta c.s.t.length tc, .slice la c.s.l.length lc, .int .i64 c.fi, .slice fa c.L.length fc, .bool c.kn, .int .i64 c.at_, .int .i64 c.old.id, .int .i64 c.old.kind, .int .i64 c.old.lo, .int .i64 c.old.hi, .int .i64 c.old.most] _ HR4.out Try.underlying58 rfl (HIF.out _ _) ?_)
    | (go_at_call 21; ((with_reducible refine cK4.mono ?_); rintro e w5 ⟨rfl, hbK⟩; have hb5 := HB4.out.trans (hbK.mono HB4.out.size); obtain ⟨k0, k1, k2, kb⟩ := HX.out _ hb5; have z0 := k0.cell 0; have z1 := k0.cell 1; have x0 := k2.cell 0; have x1 := k2.cell 1; have f0 := k2.frozen 0; have f1 := k2.frozen 1; have K2 := hid k2; have KB := hid kb; have HR5 := hid (HRG6.out _ hbK); have HB5 := hid hb5; have HFA5 := hid (HFA.out.below hbK); have HLT := hid k2.lt; clear k0 k1 k2 kb hb5 hbK)))
  have hB := (K2.out.setCell 0 (.int .i64 0)).setCell 1 (.slice none 0 0)
  refine bodyPost_ret (results_cell2 (b := w.heap.size + 1 + 1) (o := 0) rfl rfl hB.whole Try.underlying24 rfl (sc_info2 _ _)) rfl ?_
  exact ⟨none, 0, [], rfl, ⟨.inl rfl, by simp⟩, rfl, below_setCells (below_setCells KB.out (by omega) 0 [_]) (by omega) 1 [_]⟩
theorem fml_own {B n : Nat} {w : World} {x : Option Addr} {xc : Nat} {G : List Fm} (h : w.ownsRow B 52 2 (.slice x n xc) n (fmV G)) (he : ∀ p ∈ G, OwnM B w p) : FmL w x G := ⟨(own_fms h).1, fun p hp => (he p hp).ok⟩
set_option maxRecDepth 20000 in
set_option maxHeartbeats 3200000 in
theorem on_many (v : Int) (a : Option Addr) (cc : Nat) (F : List Fm) (c : Ch) (hc : c = begin_ (forms F) c.s) (ta : Option Addr) (tc : Nat) (la : Option Addr) (lc : Nat) (w : World) (h : FmL w a F) (hF : Small w F) (hl : Lists w c.s ta la) (hL : c.s.l.length ≤ 40) (hf : Fit v (forms F) c.s) (h0 : err c = 0) (h1 : ¬ Right v (applied (forms F) c)) :
    Calls Try.prog 8 #[.agg #[.int .i64 v, .slice a F.length cc], .agg #[.int .i64 c.s.op, .int .i64 c.s.fm, .int .i64 c.s.fd, .int .i64 c.s.pl, .int .i64 c.s.tt, .int .i64 c.s.a, .int .i64 c.s.b, .int .i64 c.s.f.id, .int .i64 c.s.f.kind, .int .i64 c.s.f.lo, .int .i64 c.s.f.hi, .int .i64 c.s.f.most, .int .i64 c.s.v.n, .string c.s.v.s, .slice ta c.s.t.length tc, .slice la c.s.l.length lc]] w (OnAs (0, [], 7) w) := by
  have hbw : Below w.heap.size w ((((w.alloc (.cells #[.int .i64 v, .slice a F.length cc] 24))).alloc (.cells #[.int .i64 c.s.op, .int .i64 c.s.fm, .int .i64 c.s.fd, .int .i64 c.s.pl, .int .i64 c.s.tt, .int .i64 c.s.a, .int .i64 c.s.b, .int .i64 c.s.f.id, .int .i64 c.s.f.kind, .int .i64 c.s.f.lo, .int .i64 c.s.f.hi, .int .i64 c.s.f.most, .int .i64 c.s.v.n, .string c.s.v.s, .slice ta c.s.t.length tc, .slice la c.s.l.length lc] 32)).alloc (.cells #[.int .i64 0, .slice none 0 0] 24)) := by
    have h1 := newB w (.cells #[.int .i64 v, .slice a F.length cc] 24)
    have h2 := h1.alloc h1.size (.cells #[.int .i64 c.s.op, .int .i64 c.s.fm, .int .i64 c.s.fd, .int .i64 c.s.pl, .int .i64 c.s.tt, .int .i64 c.s.a, .int .i64 c.s.b, .int .i64 c.s.f.id, .int .i64 c.s.f.kind, .int .i64 c.s.f.lo, .int .i64 c.s.f.hi, .int .i64 c.s.f.most, .int .i64 c.s.v.n, .string c.s.v.s, .slice ta c.s.t.length tc, .slice la c.s.l.length lc] 32)
    exact h2.alloc h2.size _
  have HX : Hid (∀ w', Below (((((w.alloc (.cells #[.int .i64 v, .slice a F.length cc] 24))).alloc (.cells #[.int .i64 c.s.op, .int .i64 c.s.fm, .int .i64 c.s.fd, .int .i64 c.s.pl, .int .i64 c.s.tt, .int .i64 c.s.a, .int .i64 c.s.b, .int .i64 c.s.f.id, .int .i64 c.s.f.kind, .int .i64 c.s.f.lo, .int .i64 c.s.f.hi, .int .i64 c.s.f.most, .int .i64 c.s.v.n, .string c.s.v.s, .slice ta c.s.t.length tc, .slice la c.s.l.length lc] 32)).alloc (.cells #[.int .i64 0, .slice none 0 0] 24))).heap.size ((((w.alloc (.cells #[.int .i64 v, .slice a F.length cc] 24))).alloc (.cells #[.int .i64 c.s.op, .int .i64 c.s.fm, .int .i64 c.s.fd, .int .i64 c.s.pl, .int .i64 c.s.tt, .int .i64 c.s.a, .int .i64 c.s.b, .int .i64 c.s.f.id, .int .i64 c.s.f.kind, .int .i64 c.s.f.lo, .int .i64 c.s.f.hi, .int .i64 c.s.f.most, .int .i64 c.s.v.n, .string c.s.v.s, .slice ta c.s.t.length tc, .slice la c.s.l.length lc] 32)).alloc (.cells #[.int .i64 0, .slice none 0 0] 24)) w' → Block w' w.heap.size 24 [.int .i64 v, .slice a F.length cc] ∧ Block w' (w.heap.size + 1) 32 [.int .i64 c.s.op, .int .i64 c.s.fm, .int .i64 c.s.fd, .int .i64 c.s.pl, .int .i64 c.s.tt, .int .i64 c.s.a, .int .i64 c.s.b, .int .i64 c.s.f.id, .int .i64 c.s.f.kind, .int .i64 c.s.f.lo, .int .i64 c.s.f.hi, .int .i64 c.s.f.most, .int .i64 c.s.v.n, .string c.s.v.s, .slice ta c.s.t.length tc, .slice la c.s.l.length lc] ∧ Block w' (w.heap.size + 1 + 1) 24 [.int .i64 0, .slice none 0 0] ∧ Below w.heap.size w w') := hid (fun w' hb => by
    refine ⟨(((Block.new w _ _).alloc _).alloc _).later hb, Block.later (w := ((((w.alloc (.cells #[.int .i64 v, .slice a F.length cc] 24))).alloc (.cells #[.int .i64 c.s.op, .int .i64 c.s.fm, .int .i64 c.s.fd, .int .i64 c.s.pl, .int .i64 c.s.tt, .int .i64 c.s.a, .int .i64 c.s.b, .int .i64 c.s.f.id, .int .i64 c.s.f.kind, .int .i64 c.s.f.lo, .int .i64 c.s.f.hi, .int .i64 c.s.f.most, .int .i64 c.s.v.n, .string c.s.v.s, .slice ta c.s.t.length tc, .slice la c.s.l.length lc] 32)).alloc (.cells #[.int .i64 0, .slice none 0 0] 24))) ?_ hb, Block.later (w := ((((w.alloc (.cells #[.int .i64 v, .slice a F.length cc] 24))).alloc (.cells #[.int .i64 c.s.op, .int .i64 c.s.fm, .int .i64 c.s.fd, .int .i64 c.s.pl, .int .i64 c.s.tt, .int .i64 c.s.a, .int .i64 c.s.b, .int .i64 c.s.f.id, .int .i64 c.s.f.kind, .int .i64 c.s.f.lo, .int .i64 c.s.f.hi, .int .i64 c.s.f.most, .int .i64 c.s.v.n, .string c.s.v.s, .slice ta c.s.t.length tc, .slice la c.s.l.length lc] 32)).alloc (.cells #[.int .i64 0, .slice none 0 0] 24))) ?_ hb, hbw.trans (hb.mono (by simp; omega))⟩
    · have := (Block.new ((w.alloc (.cells #[.int .i64 v, .slice a F.length cc] 24))) 32 [.int .i64 c.s.op, .int .i64 c.s.fm, .int .i64 c.s.fd, .int .i64 c.s.pl, .int .i64 c.s.tt, .int .i64 c.s.a, .int .i64 c.s.b, .int .i64 c.s.f.id, .int .i64 c.s.f.kind, .int .i64 c.s.f.lo, .int .i64 c.s.f.hi, .int .i64 c.s.f.most, .int .i64 c.s.v.n, .string c.s.v.s, .slice ta c.s.t.length tc, .slice la c.s.l.length lc]).alloc (.cells #[.int .i64 0, .slice none 0 0] 24)
      simpa using this
    · have := Block.new (((w.alloc (.cells #[.int .i64 v, .slice a F.length cc] 24))).alloc (.cells #[.int .i64 c.s.op, .int .i64 c.s.fm, .int .i64 c.s.fd, .int .i64 c.s.pl, .int .i64 c.s.tt, .int .i64 c.s.a, .int .i64 c.s.b, .int .i64 c.s.f.id, .int .i64 c.s.f.kind, .int .i64 c.s.f.lo, .int .i64 c.s.f.hi, .int .i64 c.s.f.most, .int .i64 c.s.v.n, .string c.s.v.s, .slice ta c.s.t.length tc, .slice la c.s.l.length lc] 32)) 24 [.int .i64 0, .slice none 0 0]
      simpa using this)
  have hmx : F.length ≤ maxLen := by have := hF.1; unfold maxLen; omega
  have cR := right_any v a cc F ((((w.alloc (.cells #[.int .i64 v, .slice a F.length cc] 24))).alloc (.cells #[.int .i64 c.s.op, .int .i64 c.s.fm, .int .i64 c.s.fd, .int .i64 c.s.pl, .int .i64 c.s.tt, .int .i64 c.s.a, .int .i64 c.s.b, .int .i64 c.s.f.id, .int .i64 c.s.f.kind, .int .i64 c.s.f.lo, .int .i64 c.s.f.hi, .int .i64 c.s.f.most, .int .i64 c.s.v.n, .string c.s.v.s, .slice ta c.s.t.length tc, .slice la c.s.l.length lc] 32)).alloc (.cells #[.int .i64 0, .slice none 0 0] 24)) (h.below hbw) hmx
  unfold Gives at cR
  have n1 : w.heap.size ≠ w.heap.size + 1 + 1 := by omega
  have n2 : w.heap.size + 1 ≠ w.heap.size + 1 + 1 := by omega
  have cF := fun (w' : World) (hb : Below (((((w.alloc (.cells #[.int .i64 v, .slice a F.length cc] 24))).alloc (.cells #[.int .i64 c.s.op, .int .i64 c.s.fm, .int .i64 c.s.fd, .int .i64 c.s.pl, .int .i64 c.s.tt, .int .i64 c.s.a, .int .i64 c.s.b, .int .i64 c.s.f.id, .int .i64 c.s.f.kind, .int .i64 c.s.f.lo, .int .i64 c.s.f.hi, .int .i64 c.s.f.most, .int .i64 c.s.v.n, .string c.s.v.s, .slice ta c.s.t.length tc, .slice la c.s.l.length lc] 32)).alloc (.cells #[.int .i64 0, .slice none 0 0] 24))).heap.size ((((w.alloc (.cells #[.int .i64 v, .slice a F.length cc] 24))).alloc (.cells #[.int .i64 c.s.op, .int .i64 c.s.fm, .int .i64 c.s.fd, .int .i64 c.s.pl, .int .i64 c.s.tt, .int .i64 c.s.a, .int .i64 c.s.b, .int .i64 c.s.f.id, .int .i64 c.s.f.kind, .int .i64 c.s.f.lo, .int .i64 c.s.f.hi, .int .i64 c.s.f.most, .int .i64 c.s.v.n, .string c.s.v.s, .slice ta c.s.t.length tc, .slice la c.s.l.length lc] 32)).alloc (.cells #[.int .i64 0, .slice none 0 0] 24)) w') => forward_any c.s ta tc la lc w' ((hl.below hbw).below hb)
  unfold Gives at cF
  have hf' := (fit_iff _ _ _).1 hf
  rw [decide_eq_true hf'.1] at cR
  rw [decide_eq_true hf'.2] at cF
  have hcl : c.L.length ≤ 40 := by have := begin_len hF c.s; rwa [← hc] at this
  obtain ⟨hb4, hb6⟩ := fit_bd hf hc
  have cB := fun (w' : World) (hb : Below w.heap.size w w') => begin_any v a cc F c hc ta tc la lc w' (h.below hb) (hF.below hb)
  have cK := fun (fa : Option Addr) (fc : Nat) (w' : World) (hfa : field.Fds w' fa c.L) => check_any c ta tc la lc fa fc w' hfa hcl hb4
  unfold Gives at cK
  have HIS : Hid ((Try.prog.info? 32).map (·.size) = some ([.int .i64 c.s.op, .int .i64 c.s.fm, .int .i64 c.s.fd, .int .i64 c.s.pl, .int .i64 c.s.tt, .int .i64 c.s.a, .int .i64 c.s.b, .int .i64 c.s.f.id, .int .i64 c.s.f.kind, .int .i64 c.s.f.lo, .int .i64 c.s.f.hi, .int .i64 c.s.f.most, .int .i64 c.s.v.n, .string c.s.v.s, .slice ta c.s.t.length tc, .slice la c.s.l.length lc] : List Value).length) := hid st_info
  have HIF : Hid (∀ (fa : Option Addr) (fc : Nat), (Try.prog.info? 58).map (·.size) = some ([.int .i64 c.s.op, .int .i64 c.s.fm, .int .i64 c.s.fd, .int .i64 c.s.pl, .int .i64 c.s.tt, .int .i64 c.s.a, .int .i64 c.s.b, .int .i64 c.s.f.id, .int .i64 c.s.f.kind, .int .i64 c.s.f.lo, .int .i64 c.s.f.hi, .int .i64 c.s.f.most, .int .i64 c.s.v.n, .string c.s.v.s, .slice ta c.s.t.length tc, .slice la c.s.l.length lc, .int .i64 c.fi, .slice fa c.L.length fc, .bool c.kn, .int .i64 c.at_, .int .i64 c.old.id, .int .i64 c.old.kind, .int .i64 c.old.lo, .int .i64 c.old.hi, .int .i64 c.old.most] : List Value).length) := hid (fun _ _ => ch_info)
  have HIG : Hid (∀ (fa : Option Addr) (fc : Nat), (Try.prog.info? 58).map (·.size) = some (#[.int .i64 c.s.op, .int .i64 c.s.fm, .int .i64 c.s.fd, .int .i64 c.s.pl, .int .i64 c.s.tt, .int .i64 c.s.a, .int .i64 c.s.b, .int .i64 c.s.f.id, .int .i64 c.s.f.kind, .int .i64 c.s.f.lo, .int .i64 c.s.f.hi, .int .i64 c.s.f.most, .int .i64 c.s.v.n, .string c.s.v.s, .slice ta c.s.t.length tc, .slice la c.s.l.length lc, .int .i64 c.fi, .slice fa c.L.length fc, .bool c.kn, .int .i64 c.at_, .int .i64 c.old.id, .int .i64 c.old.kind, .int .i64 c.old.lo, .int .i64 c.old.hi, .int .i64 c.old.most] : Array Value).size) := hid (fun _ _ => ch_info)
  have HON : Hid (∀ (fa : Option Addr) (fc : Nat), (#[.int .i64 c.s.op, .int .i64 c.s.fm, .int .i64 c.s.fd, .int .i64 c.s.pl, .int .i64 c.s.tt, .int .i64 c.s.a, .int .i64 c.s.b, .int .i64 c.s.f.id, .int .i64 c.s.f.kind, .int .i64 c.s.f.lo, .int .i64 c.s.f.hi, .int .i64 c.s.f.most, .int .i64 c.s.v.n, .string c.s.v.s, .slice ta c.s.t.length tc, .slice la c.s.l.length lc, .int .i64 c.fi, .slice fa c.L.length fc, .bool c.kn, .int .i64 c.at_, .int .i64 c.old.id, .int .i64 c.old.kind, .int .i64 c.old.lo, .int .i64 c.old.hi, .int .i64 c.old.most] : Array Value).all (·.oneCell') = true) := hid (fun fa fc => all_oneCell_toArray (by repeat (first | exact one_nil | refine one_cons rfl ?_)))
  have HTH : Hid (∀ (fa : Option Addr) (fc : Nat) (W : World), (W.alloc (.cells #[.int .i64 0, .int .i64 0, .int .i64 0, .int .i64 0, .int .i64 0, .int .i64 0, .int .i64 0, .int .i64 0, .int .i64 0, .int .i64 0, .int .i64 0, .int .i64 0, .int .i64 0, .string ⟨#[]⟩, .slice none 0 0, .slice none 0 0, .int .i64 0, .slice none 0 0, .bool false, .int .i64 0, .int .i64 0, .int .i64 0, .int .i64 0, .int .i64 0, .int .i64 0] 58)).there W.heap.size 0 (#[.int .i64 c.s.op, .int .i64 c.s.fm, .int .i64 c.s.fd, .int .i64 c.s.pl, .int .i64 c.s.tt, .int .i64 c.s.a, .int .i64 c.s.b, .int .i64 c.s.f.id, .int .i64 c.s.f.kind, .int .i64 c.s.f.lo, .int .i64 c.s.f.hi, .int .i64 c.s.f.most, .int .i64 c.s.v.n, .string c.s.v.s, .slice ta c.s.t.length tc, .slice la c.s.l.length lc, .int .i64 c.fi, .slice fa c.L.length fc, .bool c.kn, .int .i64 c.at_, .int .i64 c.old.id, .int .i64 c.old.kind, .int .i64 c.old.lo, .int .i64 c.old.hi, .int .i64 c.old.most] : Array Value).size) := hid (fun fa fc W => (Block.new W 58 [.int .i64 0, .int .i64 0, .int .i64 0, .int .i64 0, .int .i64 0, .int .i64 0, .int .i64 0, .int .i64 0, .int .i64 0, .int .i64 0, .int .i64 0, .int .i64 0, .int .i64 0, .string ⟨#[]⟩, .slice none 0 0, .slice none 0 0, .int .i64 0, .slice none 0 0, .bool false, .int .i64 0, .int .i64 0, .int .i64 0, .int .i64 0, .int .i64 0, .int .i64 0]).there 0 25 (by simp))
  have cA := fun (fa : Option Addr) (fc : Nat) (w' : World) (hb : Below w.heap.size w w') (hfa : field.Fds w' fa c.L) => applied_any v a cc F c hc ta tc la lc fa fc w' (h.1.below hb) (hF.below hb) hf h0 (hl.l.below hb) hL hfa hcl
  unfold ClonedAs at cA
  rw [h0] at cK
  have dE : (((0 : Nat) : Int) != 0) = false := by decide
  have HH1 := hid h1
  have HF40 := hid hF.1
  have HLN : Hid (∀ G : List Fm, forms G = applied (forms F) c → G.length ≤ maxLen) := hid (fun G hG => by
    have h2 := congrArg List.length hG
    rw [forms_length] at h2
    have h3 : (applied (forms F) c).length ≤ F.length + 1 := by
      have := forms_length F
      have hps := pos_le (forms F) c.s.fm
      unfold applied setF
      split
      · simp only [List.length_append, List.length_take, List.length_drop, List.length_cons, List.length_nil]; omega
      · split
        · simp only [List.length_append, List.length_take, List.length_drop]; omega
        · split <;> simp <;> omega
    have := hF.1
    unfold maxLen
    omega)
  unfold OnAs
  clear hb4 hb6 hcl h hF hl hL hmx hbw hc hf hf' h0 h1
  go_enter Try.func8, Try.ntmps8
  go_wp2_with (first
    | (go_at_call 18; ((with_reducible refine cR.mono ?_); rintro e w1 ⟨rfl, hb1⟩; obtain ⟨k0, k1, k2, kb⟩ := HX.out _ hb1; have z0 := k0.cell 0; have z1 := k0.cell 1; have y0 := k1.cell 0; have y1 := k1.cell 1; have y2 := k1.cell 2; have y3 := k1.cell 3; have y4 := k1.cell 4; have y5 := k1.cell 5; have y6 := k1.cell 6; have y7 := k1.cell 7; have y8 := k1.cell 8; have y9 := k1.cell 9; have y10 := k1.cell 10; have y11 := k1.cell 11; have y12 := k1.cell 12; have y13 := k1.cell 13; have y14 := k1.cell 14; have y15 := k1.cell 15; have x0 := k2.cell 0; have x1 := k2.cell 1; have f0 := k2.frozen 0; have f1 := k2.frozen 1; have K2 := hid k2; have KB := hid kb; clear k0 k1 k2 kb))
    | (go_at_call 19; ((with_reducible refine (cF _ hb1).mono ?_); rintro e w2 ⟨rfl, hb2⟩; have hb1 := hb1.trans (hb2.mono hb1.size); obtain ⟨k0, k1, k2, kb⟩ := HX.out _ hb1; have z0 := k0.cell 0; have z1 := k0.cell 1; have y0 := k1.cell 0; have y1 := k1.cell 1; have y2 := k1.cell 2; have y3 := k1.cell 3; have y4 := k1.cell 4; have y5 := k1.cell 5; have y6 := k1.cell 6; have y7 := k1.cell 7; have y8 := k1.cell 8; have y9 := k1.cell 9; have y10 := k1.cell 10; have y11 := k1.cell 11; have y12 := k1.cell 12; have y13 := k1.cell 13; have y14 := k1.cell 14; have y15 := k1.cell 15; have x0 := k2.cell 0; have x1 := k2.cell 1; have f0 := k2.frozen 0; have f1 := k2.frozen 1; have K2 := hid k2; have KB := hid kb; clear k0 k1 k2 kb))
    | (go_at_call 20; ((with_reducible refine (cB _ KB.out).mono ?_); rintro e w3 ⟨fa, fc, rfl, hfa3, hb3⟩))
    | (with_reducible refine wpList_store_named rfl 58 (.tmp 6) (.tmp 20) rfl w3.heap.size 0 #[.int .i64 c.s.op, .int .i64 c.s.fm, .int .i64 c.s.fd, .int .i64 c.s.pl, .int .i64 c.s.tt, .int .i64 c.s.a, .int .i64 c.s.b, .int .i64 c.s.f.id, .int .i64 c.s.f.kind, .int .i64 c.s.f.lo, .int .i64 c.s.f.hi, .int .i64 c.s.f.most, .int .i64 c.s.v.n, .string c.s.v.s, .slice ta c.s.t.length tc, .slice la c.s.l.length lc, .int .i64 c.fi, .slice fa c.L.length fc, .bool c.kn, .int .i64 c.at_, .int .i64 c.old.id, .int .i64 c.old.kind, .int .i64 c.old.lo, .int .i64 c.old.hi, .int .i64 c.old.most] rfl rfl (HTH.out _ _ _) (HIG.out _ _) (HON.out _ _) ?_))
  intro w4 hw4
  have k6 : Block w4 w3.heap.size 58 [.int .i64 c.s.op, .int .i64 c.s.fm, .int .i64 c.s.fd, .int .i64 c.s.pl, .int .i64 c.s.tt, .int .i64 c.s.a, .int .i64 c.s.b, .int .i64 c.s.f.id, .int .i64 c.s.f.kind, .int .i64 c.s.f.lo, .int .i64 c.s.f.hi, .int .i64 c.s.f.most, .int .i64 c.s.v.n, .string c.s.v.s, .slice ta c.s.t.length tc, .slice la c.s.l.length lc, .int .i64 c.fi, .slice fa c.L.length fc, .bool c.kn, .int .i64 c.at_, .int .i64 c.old.id, .int .i64 c.old.kind, .int .i64 c.old.lo, .int .i64 c.old.hi, .int .i64 c.old.most] := by
    have := (Block.new w3 58 [.int .i64 0, .int .i64 0, .int .i64 0, .int .i64 0, .int .i64 0, .int .i64 0, .int .i64 0, .int .i64 0, .int .i64 0, .int .i64 0, .int .i64 0, .int .i64 0, .int .i64 0, .string ⟨#[]⟩, .slice none 0 0, .slice none 0 0, .int .i64 0, .slice none 0 0, .bool false, .int .i64 0, .int .i64 0, .int .i64 0, .int .i64 0, .int .i64 0, .int .i64 0]).setCells (vs := [.int .i64 c.s.op, .int .i64 c.s.fm, .int .i64 c.s.fd, .int .i64 c.s.pl, .int .i64 c.s.tt, .int .i64 c.s.a, .int .i64 c.s.b, .int .i64 c.s.f.id, .int .i64 c.s.f.kind, .int .i64 c.s.f.lo, .int .i64 c.s.f.hi, .int .i64 c.s.f.most, .int .i64 c.s.v.n, .string c.s.v.s, .slice ta c.s.t.length tc, .slice la c.s.l.length lc, .int .i64 c.fi, .slice fa c.L.length fc, .bool c.kn, .int .i64 c.at_, .int .i64 c.old.id, .int .i64 c.old.kind, .int .i64 c.old.lo, .int .i64 c.old.hi, .int .i64 c.old.most]) (o := 0)
    rw [put_all _ _ (by simp)] at this
    rw [← hw4.out]
    exact this
  have hb34 : Below w3.heap.size w3 w4 := by rw [← hw4.out]; exact below_setCells (newB w3 _) (Nat.le_refl _) _ _
  have hb4' := hb1.trans ((hb3.trans (hb34.mono hb3.size)).mono hb1.size)
  have hfa4 := hfa3.below hb34
  have HB4 := hid hb4'
  have HRG6 : Hid (∀ w', Below w4.heap.size w4 w' → w'.rangeAt w3.heap.size 0 [.int .i64 c.s.op, .int .i64 c.s.fm, .int .i64 c.s.fd, .int .i64 c.s.pl, .int .i64 c.s.tt, .int .i64 c.s.a, .int .i64 c.s.b, .int .i64 c.s.f.id, .int .i64 c.s.f.kind, .int .i64 c.s.f.lo, .int .i64 c.s.f.hi, .int .i64 c.s.f.most, .int .i64 c.s.v.n, .string c.s.v.s, .slice ta c.s.t.length tc, .slice la c.s.l.length lc, .int .i64 c.fi, .slice fa c.L.length fc, .bool c.kn, .int .i64 c.at_, .int .i64 c.old.id, .int .i64 c.old.kind, .int .i64 c.old.lo, .int .i64 c.old.hi, .int .i64 c.old.most]) := hid (fun w' hb => (k6.later hb).whole)
  have HR4 := hid (HRG6.out w4 (Below.refl _ _))
  have HFA := hid hfa4
  have cK4 := cK fa fc w4 hfa4
  clear hb1 hb3 hb34 hb4' hfa3 hfa4 k6 hw4 z0 z1 y0 y1 y2 y3 y4 y5 y6 y7 y8 y9 y10 y11 y12 y13 y14 y15 x0 x1 f0 f1 K2 KB cK cB cF cR
  go_wp2_with (first
    | (with_reducible refine wpList_load_mid rfl 58 (.tmp 6) rfl w3.heap.size 0 rfl [.int .i64 c.s.op, .int .i64 c.s.fm, .int .i64 c.s.fd, .int .i64 c.s.pl, .int .i64 c.s.tt, .int .i64 c.s.a, .int .i64 c.s.b, .int .i64 c.s.f.id, .int .i64 c.s.f.kind, .int .i64 c.s.f.lo, .int .i64 c.s.f.hi, .int .i64 c.s.f.most, .int .i64 c.s.v.n, .string c.s.v.s, .slice ta c.s.t.length tc, .slice la c.s.l.length lc, .int .i64 c.fi, .slice fa c.L.length fc, .bool c.kn, .int .i64 c.at_, .int .i64 c.old.id, .int .i64 c.old.kind, .int .i64 c.old.lo, .int .i64 c.old.hi, .int .i64 c.old.most] _ HR4.out Try.underlying58 rfl (HIF.out _ _) ?_)
    | (go_at_call 21; ((with_reducible refine cK4.mono ?_); rintro e w5 ⟨rfl, hbK⟩; have hb5 := HB4.out.trans (hbK.mono HB4.out.size); obtain ⟨k0, k1, k2, kb⟩ := HX.out _ hb5; have z0 := k0.cell 0; have z1 := k0.cell 1; have x0 := k2.cell 0; have x1 := k2.cell 1; have f0 := k2.frozen 0; have f1 := k2.frozen 1; have K2 := hid k2; have KB := hid kb; have HR5 := hid (HRG6.out _ hbK); have HB5 := hid hb5; have HFA5 := hid (HFA.out.below hbK); have HLT := hid k2.lt; clear k0 k1 k2 kb hb5 hbK))
    | (with_reducible refine wpList_load_mid rfl 58 (.tmp 6) rfl w3.heap.size 0 rfl [.int .i64 c.s.op, .int .i64 c.s.fm, .int .i64 c.s.fd, .int .i64 c.s.pl, .int .i64 c.s.tt, .int .i64 c.s.a, .int .i64 c.s.b, .int .i64 c.s.f.id, .int .i64 c.s.f.kind, .int .i64 c.s.f.lo, .int .i64 c.s.f.hi, .int .i64 c.s.f.most, .int .i64 c.s.v.n, .string c.s.v.s, .slice ta c.s.t.length tc, .slice la c.s.l.length lc, .int .i64 c.fi, .slice fa c.L.length fc, .bool c.kn, .int .i64 c.at_, .int .i64 c.old.id, .int .i64 c.old.kind, .int .i64 c.old.lo, .int .i64 c.old.hi, .int .i64 c.old.most] _ HR5.out Try.underlying58 rfl (HIF.out _ _) ?_)
    | (go_at_call 22; ((with_reducible refine (cA fa fc _ KB.out HFA5.out).mono ?_); rintro e w6 ⟨u, G, rfl, hou, heach, heq, hb6⟩; obtain ⟨x, xc, rfl, hxc⟩ := ownsRow_slice hou; have HL6 := hid (fml_own hou heach); have HOU := hid hou; have HEA := hid heach; have HEQ := hid heq; have HB6 := hid hb6; clear hou heach heq hb6))
    | (go_at_call 18; (have cR2 := right_any v x xc G (w6.alloc (.cells #[.int .i64 v, .slice x G.length xc] 24)) (HL6.out.below (newB w6 _)) (HLN.out G HEQ.out)); unfold Gives at cR2; rw [HEQ.out, decide_eq_false HH1.out] at cR2; ((with_reducible refine cR2.mono ?_); rintro e w7 ⟨rfl, hb7⟩; have hb67 := (newB w6 (.cells #[.int .i64 v, .slice x G.length xc] 24)).trans (hb7.mono (newB w6 (.cells #[.int .i64 v, .slice x G.length xc] 24)).size); have hb57 := HB6.out.trans (hb67.mono HB6.out.size); have hb := HB5.out.trans (hb57.mono HB5.out.size); obtain ⟨k0, k1, k2, kb⟩ := HX.out _ hb; have x0 := k2.cell 0; have x1 := k2.cell 1; have f0 := k2.frozen 0; have f1 := k2.frozen 1; have K2 := hid k2; have KB := hid kb; have k8 := (Block.new w6 24 [.int .i64 v, .slice x G.length xc]).later hb7; have v0 := k8.cell 0; have v1 := k8.cell 1; have HOU7 := hid (ownsRow_later HOU.out hb67); have HEA7 := hid (fun p hp => ownsRow_later (HEA.out p hp) hb67); clear hb67 hb57 hb hb7 k0 k1 k2 kb k8)))
  have hB := (K2.out.setCell 0 (.int .i64 0)).setCell 1 (.slice none 0 0)
  refine bodyPost_ret (results_cell2 (b := w.heap.size + 1 + 1) (o := 0) rfl rfl hB.whole Try.underlying24 rfl (sc_info2 _ _)) rfl ?_
  exact ⟨none, 0, [], rfl, ⟨.inl rfl, by simp⟩, rfl, below_setCells (below_setCells KB.out (by omega) 0 [_]) (by omega) 1 [_]⟩
set_option maxRecDepth 20000 in
set_option maxHeartbeats 3200000 in
theorem on_yes (v : Int) (a : Option Addr) (cc : Nat) (F : List Fm) (c : Ch) (hc : c = begin_ (forms F) c.s) (ta : Option Addr) (tc : Nat) (la : Option Addr) (lc : Nat) (w : World) (h : FmL w a F) (hF : Small w F) (hl : Lists w c.s ta la) (hL : c.s.l.length ≤ 40) (hf : Fit v (forms F) c.s) (h0 : err c = 0) (h1 : Right v (applied (forms F) c)) :
    Calls Try.prog 8 #[.agg #[.int .i64 v, .slice a F.length cc], .agg #[.int .i64 c.s.op, .int .i64 c.s.fm, .int .i64 c.s.fd, .int .i64 c.s.pl, .int .i64 c.s.tt, .int .i64 c.s.a, .int .i64 c.s.b, .int .i64 c.s.f.id, .int .i64 c.s.f.kind, .int .i64 c.s.f.lo, .int .i64 c.s.f.hi, .int .i64 c.s.f.most, .int .i64 c.s.v.n, .string c.s.v.s, .slice ta c.s.t.length tc, .slice la c.s.l.length lc]] w (OnAs (v, applied (forms F) c, 0) w) := by
  have hbw : Below w.heap.size w ((((w.alloc (.cells #[.int .i64 v, .slice a F.length cc] 24))).alloc (.cells #[.int .i64 c.s.op, .int .i64 c.s.fm, .int .i64 c.s.fd, .int .i64 c.s.pl, .int .i64 c.s.tt, .int .i64 c.s.a, .int .i64 c.s.b, .int .i64 c.s.f.id, .int .i64 c.s.f.kind, .int .i64 c.s.f.lo, .int .i64 c.s.f.hi, .int .i64 c.s.f.most, .int .i64 c.s.v.n, .string c.s.v.s, .slice ta c.s.t.length tc, .slice la c.s.l.length lc] 32)).alloc (.cells #[.int .i64 0, .slice none 0 0] 24)) := by
    have h1 := newB w (.cells #[.int .i64 v, .slice a F.length cc] 24)
    have h2 := h1.alloc h1.size (.cells #[.int .i64 c.s.op, .int .i64 c.s.fm, .int .i64 c.s.fd, .int .i64 c.s.pl, .int .i64 c.s.tt, .int .i64 c.s.a, .int .i64 c.s.b, .int .i64 c.s.f.id, .int .i64 c.s.f.kind, .int .i64 c.s.f.lo, .int .i64 c.s.f.hi, .int .i64 c.s.f.most, .int .i64 c.s.v.n, .string c.s.v.s, .slice ta c.s.t.length tc, .slice la c.s.l.length lc] 32)
    exact h2.alloc h2.size _
  have HX : Hid (∀ w', Below (((((w.alloc (.cells #[.int .i64 v, .slice a F.length cc] 24))).alloc (.cells #[.int .i64 c.s.op, .int .i64 c.s.fm, .int .i64 c.s.fd, .int .i64 c.s.pl, .int .i64 c.s.tt, .int .i64 c.s.a, .int .i64 c.s.b, .int .i64 c.s.f.id, .int .i64 c.s.f.kind, .int .i64 c.s.f.lo, .int .i64 c.s.f.hi, .int .i64 c.s.f.most, .int .i64 c.s.v.n, .string c.s.v.s, .slice ta c.s.t.length tc, .slice la c.s.l.length lc] 32)).alloc (.cells #[.int .i64 0, .slice none 0 0] 24))).heap.size ((((w.alloc (.cells #[.int .i64 v, .slice a F.length cc] 24))).alloc (.cells #[.int .i64 c.s.op, .int .i64 c.s.fm, .int .i64 c.s.fd, .int .i64 c.s.pl, .int .i64 c.s.tt, .int .i64 c.s.a, .int .i64 c.s.b, .int .i64 c.s.f.id, .int .i64 c.s.f.kind, .int .i64 c.s.f.lo, .int .i64 c.s.f.hi, .int .i64 c.s.f.most, .int .i64 c.s.v.n, .string c.s.v.s, .slice ta c.s.t.length tc, .slice la c.s.l.length lc] 32)).alloc (.cells #[.int .i64 0, .slice none 0 0] 24)) w' → Block w' w.heap.size 24 [.int .i64 v, .slice a F.length cc] ∧ Block w' (w.heap.size + 1) 32 [.int .i64 c.s.op, .int .i64 c.s.fm, .int .i64 c.s.fd, .int .i64 c.s.pl, .int .i64 c.s.tt, .int .i64 c.s.a, .int .i64 c.s.b, .int .i64 c.s.f.id, .int .i64 c.s.f.kind, .int .i64 c.s.f.lo, .int .i64 c.s.f.hi, .int .i64 c.s.f.most, .int .i64 c.s.v.n, .string c.s.v.s, .slice ta c.s.t.length tc, .slice la c.s.l.length lc] ∧ Block w' (w.heap.size + 1 + 1) 24 [.int .i64 0, .slice none 0 0] ∧ Below w.heap.size w w') := hid (fun w' hb => by
    refine ⟨(((Block.new w _ _).alloc _).alloc _).later hb, Block.later (w := ((((w.alloc (.cells #[.int .i64 v, .slice a F.length cc] 24))).alloc (.cells #[.int .i64 c.s.op, .int .i64 c.s.fm, .int .i64 c.s.fd, .int .i64 c.s.pl, .int .i64 c.s.tt, .int .i64 c.s.a, .int .i64 c.s.b, .int .i64 c.s.f.id, .int .i64 c.s.f.kind, .int .i64 c.s.f.lo, .int .i64 c.s.f.hi, .int .i64 c.s.f.most, .int .i64 c.s.v.n, .string c.s.v.s, .slice ta c.s.t.length tc, .slice la c.s.l.length lc] 32)).alloc (.cells #[.int .i64 0, .slice none 0 0] 24))) ?_ hb, Block.later (w := ((((w.alloc (.cells #[.int .i64 v, .slice a F.length cc] 24))).alloc (.cells #[.int .i64 c.s.op, .int .i64 c.s.fm, .int .i64 c.s.fd, .int .i64 c.s.pl, .int .i64 c.s.tt, .int .i64 c.s.a, .int .i64 c.s.b, .int .i64 c.s.f.id, .int .i64 c.s.f.kind, .int .i64 c.s.f.lo, .int .i64 c.s.f.hi, .int .i64 c.s.f.most, .int .i64 c.s.v.n, .string c.s.v.s, .slice ta c.s.t.length tc, .slice la c.s.l.length lc] 32)).alloc (.cells #[.int .i64 0, .slice none 0 0] 24))) ?_ hb, hbw.trans (hb.mono (by simp; omega))⟩
    · have := (Block.new ((w.alloc (.cells #[.int .i64 v, .slice a F.length cc] 24))) 32 [.int .i64 c.s.op, .int .i64 c.s.fm, .int .i64 c.s.fd, .int .i64 c.s.pl, .int .i64 c.s.tt, .int .i64 c.s.a, .int .i64 c.s.b, .int .i64 c.s.f.id, .int .i64 c.s.f.kind, .int .i64 c.s.f.lo, .int .i64 c.s.f.hi, .int .i64 c.s.f.most, .int .i64 c.s.v.n, .string c.s.v.s, .slice ta c.s.t.length tc, .slice la c.s.l.length lc]).alloc (.cells #[.int .i64 0, .slice none 0 0] 24)
      simpa using this
    · have := Block.new (((w.alloc (.cells #[.int .i64 v, .slice a F.length cc] 24))).alloc (.cells #[.int .i64 c.s.op, .int .i64 c.s.fm, .int .i64 c.s.fd, .int .i64 c.s.pl, .int .i64 c.s.tt, .int .i64 c.s.a, .int .i64 c.s.b, .int .i64 c.s.f.id, .int .i64 c.s.f.kind, .int .i64 c.s.f.lo, .int .i64 c.s.f.hi, .int .i64 c.s.f.most, .int .i64 c.s.v.n, .string c.s.v.s, .slice ta c.s.t.length tc, .slice la c.s.l.length lc] 32)) 24 [.int .i64 0, .slice none 0 0]
      simpa using this)
  have hmx : F.length ≤ maxLen := by have := hF.1; unfold maxLen; omega
  have cR := right_any v a cc F ((((w.alloc (.cells #[.int .i64 v, .slice a F.length cc] 24))).alloc (.cells #[.int .i64 c.s.op, .int .i64 c.s.fm, .int .i64 c.s.fd, .int .i64 c.s.pl, .int .i64 c.s.tt, .int .i64 c.s.a, .int .i64 c.s.b, .int .i64 c.s.f.id, .int .i64 c.s.f.kind, .int .i64 c.s.f.lo, .int .i64 c.s.f.hi, .int .i64 c.s.f.most, .int .i64 c.s.v.n, .string c.s.v.s, .slice ta c.s.t.length tc, .slice la c.s.l.length lc] 32)).alloc (.cells #[.int .i64 0, .slice none 0 0] 24)) (h.below hbw) hmx
  unfold Gives at cR
  have n1 : w.heap.size ≠ w.heap.size + 1 + 1 := by omega
  have n2 : w.heap.size + 1 ≠ w.heap.size + 1 + 1 := by omega
  have cF := fun (w' : World) (hb : Below (((((w.alloc (.cells #[.int .i64 v, .slice a F.length cc] 24))).alloc (.cells #[.int .i64 c.s.op, .int .i64 c.s.fm, .int .i64 c.s.fd, .int .i64 c.s.pl, .int .i64 c.s.tt, .int .i64 c.s.a, .int .i64 c.s.b, .int .i64 c.s.f.id, .int .i64 c.s.f.kind, .int .i64 c.s.f.lo, .int .i64 c.s.f.hi, .int .i64 c.s.f.most, .int .i64 c.s.v.n, .string c.s.v.s, .slice ta c.s.t.length tc, .slice la c.s.l.length lc] 32)).alloc (.cells #[.int .i64 0, .slice none 0 0] 24))).heap.size ((((w.alloc (.cells #[.int .i64 v, .slice a F.length cc] 24))).alloc (.cells #[.int .i64 c.s.op, .int .i64 c.s.fm, .int .i64 c.s.fd, .int .i64 c.s.pl, .int .i64 c.s.tt, .int .i64 c.s.a, .int .i64 c.s.b, .int .i64 c.s.f.id, .int .i64 c.s.f.kind, .int .i64 c.s.f.lo, .int .i64 c.s.f.hi, .int .i64 c.s.f.most, .int .i64 c.s.v.n, .string c.s.v.s, .slice ta c.s.t.length tc, .slice la c.s.l.length lc] 32)).alloc (.cells #[.int .i64 0, .slice none 0 0] 24)) w') => forward_any c.s ta tc la lc w' ((hl.below hbw).below hb)
  unfold Gives at cF
  have hf' := (fit_iff _ _ _).1 hf
  rw [decide_eq_true hf'.1] at cR
  rw [decide_eq_true hf'.2] at cF
  have hcl : c.L.length ≤ 40 := by have := begin_len hF c.s; rwa [← hc] at this
  obtain ⟨hb4, hb6⟩ := fit_bd hf hc
  have cB := fun (w' : World) (hb : Below w.heap.size w w') => begin_any v a cc F c hc ta tc la lc w' (h.below hb) (hF.below hb)
  have cK := fun (fa : Option Addr) (fc : Nat) (w' : World) (hfa : field.Fds w' fa c.L) => check_any c ta tc la lc fa fc w' hfa hcl hb4
  unfold Gives at cK
  have HIS : Hid ((Try.prog.info? 32).map (·.size) = some ([.int .i64 c.s.op, .int .i64 c.s.fm, .int .i64 c.s.fd, .int .i64 c.s.pl, .int .i64 c.s.tt, .int .i64 c.s.a, .int .i64 c.s.b, .int .i64 c.s.f.id, .int .i64 c.s.f.kind, .int .i64 c.s.f.lo, .int .i64 c.s.f.hi, .int .i64 c.s.f.most, .int .i64 c.s.v.n, .string c.s.v.s, .slice ta c.s.t.length tc, .slice la c.s.l.length lc] : List Value).length) := hid st_info
  have HIF : Hid (∀ (fa : Option Addr) (fc : Nat), (Try.prog.info? 58).map (·.size) = some ([.int .i64 c.s.op, .int .i64 c.s.fm, .int .i64 c.s.fd, .int .i64 c.s.pl, .int .i64 c.s.tt, .int .i64 c.s.a, .int .i64 c.s.b, .int .i64 c.s.f.id, .int .i64 c.s.f.kind, .int .i64 c.s.f.lo, .int .i64 c.s.f.hi, .int .i64 c.s.f.most, .int .i64 c.s.v.n, .string c.s.v.s, .slice ta c.s.t.length tc, .slice la c.s.l.length lc, .int .i64 c.fi, .slice fa c.L.length fc, .bool c.kn, .int .i64 c.at_, .int .i64 c.old.id, .int .i64 c.old.kind, .int .i64 c.old.lo, .int .i64 c.old.hi, .int .i64 c.old.most] : List Value).length) := hid (fun _ _ => ch_info)
  have HIG : Hid (∀ (fa : Option Addr) (fc : Nat), (Try.prog.info? 58).map (·.size) = some (#[.int .i64 c.s.op, .int .i64 c.s.fm, .int .i64 c.s.fd, .int .i64 c.s.pl, .int .i64 c.s.tt, .int .i64 c.s.a, .int .i64 c.s.b, .int .i64 c.s.f.id, .int .i64 c.s.f.kind, .int .i64 c.s.f.lo, .int .i64 c.s.f.hi, .int .i64 c.s.f.most, .int .i64 c.s.v.n, .string c.s.v.s, .slice ta c.s.t.length tc, .slice la c.s.l.length lc, .int .i64 c.fi, .slice fa c.L.length fc, .bool c.kn, .int .i64 c.at_, .int .i64 c.old.id, .int .i64 c.old.kind, .int .i64 c.old.lo, .int .i64 c.old.hi, .int .i64 c.old.most] : Array Value).size) := hid (fun _ _ => ch_info)
  have HON : Hid (∀ (fa : Option Addr) (fc : Nat), (#[.int .i64 c.s.op, .int .i64 c.s.fm, .int .i64 c.s.fd, .int .i64 c.s.pl, .int .i64 c.s.tt, .int .i64 c.s.a, .int .i64 c.s.b, .int .i64 c.s.f.id, .int .i64 c.s.f.kind, .int .i64 c.s.f.lo, .int .i64 c.s.f.hi, .int .i64 c.s.f.most, .int .i64 c.s.v.n, .string c.s.v.s, .slice ta c.s.t.length tc, .slice la c.s.l.length lc, .int .i64 c.fi, .slice fa c.L.length fc, .bool c.kn, .int .i64 c.at_, .int .i64 c.old.id, .int .i64 c.old.kind, .int .i64 c.old.lo, .int .i64 c.old.hi, .int .i64 c.old.most] : Array Value).all (·.oneCell') = true) := hid (fun fa fc => all_oneCell_toArray (by repeat (first | exact one_nil | refine one_cons rfl ?_)))
  have HTH : Hid (∀ (fa : Option Addr) (fc : Nat) (W : World), (W.alloc (.cells #[.int .i64 0, .int .i64 0, .int .i64 0, .int .i64 0, .int .i64 0, .int .i64 0, .int .i64 0, .int .i64 0, .int .i64 0, .int .i64 0, .int .i64 0, .int .i64 0, .int .i64 0, .string ⟨#[]⟩, .slice none 0 0, .slice none 0 0, .int .i64 0, .slice none 0 0, .bool false, .int .i64 0, .int .i64 0, .int .i64 0, .int .i64 0, .int .i64 0, .int .i64 0] 58)).there W.heap.size 0 (#[.int .i64 c.s.op, .int .i64 c.s.fm, .int .i64 c.s.fd, .int .i64 c.s.pl, .int .i64 c.s.tt, .int .i64 c.s.a, .int .i64 c.s.b, .int .i64 c.s.f.id, .int .i64 c.s.f.kind, .int .i64 c.s.f.lo, .int .i64 c.s.f.hi, .int .i64 c.s.f.most, .int .i64 c.s.v.n, .string c.s.v.s, .slice ta c.s.t.length tc, .slice la c.s.l.length lc, .int .i64 c.fi, .slice fa c.L.length fc, .bool c.kn, .int .i64 c.at_, .int .i64 c.old.id, .int .i64 c.old.kind, .int .i64 c.old.lo, .int .i64 c.old.hi, .int .i64 c.old.most] : Array Value).size) := hid (fun fa fc W => (Block.new W 58 [.int .i64 0, .int .i64 0, .int .i64 0, .int .i64 0, .int .i64 0, .int .i64 0, .int .i64 0, .int .i64 0, .int .i64 0, .int .i64 0, .int .i64 0, .int .i64 0, .int .i64 0, .string ⟨#[]⟩, .slice none 0 0, .slice none 0 0, .int .i64 0, .slice none 0 0, .bool false, .int .i64 0, .int .i64 0, .int .i64 0, .int .i64 0, .int .i64 0, .int .i64 0]).there 0 25 (by simp))
  have cA := fun (fa : Option Addr) (fc : Nat) (w' : World) (hb : Below w.heap.size w w') (hfa : field.Fds w' fa c.L) => applied_any v a cc F c hc ta tc la lc fa fc w' (h.1.below hb) (hF.below hb) hf h0 (hl.l.below hb) hL hfa hcl
  unfold ClonedAs at cA
  rw [h0] at cK
  have dE : (((0 : Nat) : Int) != 0) = false := by decide
  have HH1 := hid h1
  have HF40 := hid hF.1
  have HLN : Hid (∀ G : List Fm, forms G = applied (forms F) c → G.length ≤ maxLen) := hid (fun G hG => by
    have h2 := congrArg List.length hG
    rw [forms_length] at h2
    have h3 : (applied (forms F) c).length ≤ F.length + 1 := by
      have := forms_length F
      have hps := pos_le (forms F) c.s.fm
      unfold applied setF
      split
      · simp only [List.length_append, List.length_take, List.length_drop, List.length_cons, List.length_nil]; omega
      · split
        · simp only [List.length_append, List.length_take, List.length_drop]; omega
        · split <;> simp <;> omega
    have := hF.1
    unfold maxLen
    omega)
  unfold OnAs
  clear hb4 hb6 hcl h hF hl hL hmx hbw hc hf hf' h0 h1
  go_enter Try.func8, Try.ntmps8
  go_wp2_with (first
    | (go_at_call 18; ((with_reducible refine cR.mono ?_); rintro e w1 ⟨rfl, hb1⟩; obtain ⟨k0, k1, k2, kb⟩ := HX.out _ hb1; have z0 := k0.cell 0; have z1 := k0.cell 1; have y0 := k1.cell 0; have y1 := k1.cell 1; have y2 := k1.cell 2; have y3 := k1.cell 3; have y4 := k1.cell 4; have y5 := k1.cell 5; have y6 := k1.cell 6; have y7 := k1.cell 7; have y8 := k1.cell 8; have y9 := k1.cell 9; have y10 := k1.cell 10; have y11 := k1.cell 11; have y12 := k1.cell 12; have y13 := k1.cell 13; have y14 := k1.cell 14; have y15 := k1.cell 15; have x0 := k2.cell 0; have x1 := k2.cell 1; have f0 := k2.frozen 0; have f1 := k2.frozen 1; have K2 := hid k2; have KB := hid kb; clear k0 k1 k2 kb))
    | (go_at_call 19; ((with_reducible refine (cF _ hb1).mono ?_); rintro e w2 ⟨rfl, hb2⟩; have hb1 := hb1.trans (hb2.mono hb1.size); obtain ⟨k0, k1, k2, kb⟩ := HX.out _ hb1; have z0 := k0.cell 0; have z1 := k0.cell 1; have y0 := k1.cell 0; have y1 := k1.cell 1; have y2 := k1.cell 2; have y3 := k1.cell 3; have y4 := k1.cell 4; have y5 := k1.cell 5; have y6 := k1.cell 6; have y7 := k1.cell 7; have y8 := k1.cell 8; have y9 := k1.cell 9; have y10 := k1.cell 10; have y11 := k1.cell 11; have y12 := k1.cell 12; have y13 := k1.cell 13; have y14 := k1.cell 14; have y15 := k1.cell 15; have x0 := k2.cell 0; have x1 := k2.cell 1; have f0 := k2.frozen 0; have f1 := k2.frozen 1; have K2 := hid k2; have KB := hid kb; clear k0 k1 k2 kb))
    | (go_at_call 20; ((with_reducible refine (cB _ KB.out).mono ?_); rintro e w3 ⟨fa, fc, rfl, hfa3, hb3⟩))
    | (with_reducible refine wpList_store_named rfl 58 (.tmp 6) (.tmp 20) rfl w3.heap.size 0 #[.int .i64 c.s.op, .int .i64 c.s.fm, .int .i64 c.s.fd, .int .i64 c.s.pl, .int .i64 c.s.tt, .int .i64 c.s.a, .int .i64 c.s.b, .int .i64 c.s.f.id, .int .i64 c.s.f.kind, .int .i64 c.s.f.lo, .int .i64 c.s.f.hi, .int .i64 c.s.f.most, .int .i64 c.s.v.n, .string c.s.v.s, .slice ta c.s.t.length tc, .slice la c.s.l.length lc, .int .i64 c.fi, .slice fa c.L.length fc, .bool c.kn, .int .i64 c.at_, .int .i64 c.old.id, .int .i64 c.old.kind, .int .i64 c.old.lo, .int .i64 c.old.hi, .int .i64 c.old.most] rfl rfl (HTH.out _ _ _) (HIG.out _ _) (HON.out _ _) ?_))
  intro w4 hw4
  have k6 : Block w4 w3.heap.size 58 [.int .i64 c.s.op, .int .i64 c.s.fm, .int .i64 c.s.fd, .int .i64 c.s.pl, .int .i64 c.s.tt, .int .i64 c.s.a, .int .i64 c.s.b, .int .i64 c.s.f.id, .int .i64 c.s.f.kind, .int .i64 c.s.f.lo, .int .i64 c.s.f.hi, .int .i64 c.s.f.most, .int .i64 c.s.v.n, .string c.s.v.s, .slice ta c.s.t.length tc, .slice la c.s.l.length lc, .int .i64 c.fi, .slice fa c.L.length fc, .bool c.kn, .int .i64 c.at_, .int .i64 c.old.id, .int .i64 c.old.kind, .int .i64 c.old.lo, .int .i64 c.old.hi, .int .i64 c.old.most] := by
    have := (Block.new w3 58 [.int .i64 0, .int .i64 0, .int .i64 0, .int .i64 0, .int .i64 0, .int .i64 0, .int .i64 0, .int .i64 0, .int .i64 0, .int .i64 0, .int .i64 0, .int .i64 0, .int .i64 0, .string ⟨#[]⟩, .slice none 0 0, .slice none 0 0, .int .i64 0, .slice none 0 0, .bool false, .int .i64 0, .int .i64 0, .int .i64 0, .int .i64 0, .int .i64 0, .int .i64 0]).setCells (vs := [.int .i64 c.s.op, .int .i64 c.s.fm, .int .i64 c.s.fd, .int .i64 c.s.pl, .int .i64 c.s.tt, .int .i64 c.s.a, .int .i64 c.s.b, .int .i64 c.s.f.id, .int .i64 c.s.f.kind, .int .i64 c.s.f.lo, .int .i64 c.s.f.hi, .int .i64 c.s.f.most, .int .i64 c.s.v.n, .string c.s.v.s, .slice ta c.s.t.length tc, .slice la c.s.l.length lc, .int .i64 c.fi, .slice fa c.L.length fc, .bool c.kn, .int .i64 c.at_, .int .i64 c.old.id, .int .i64 c.old.kind, .int .i64 c.old.lo, .int .i64 c.old.hi, .int .i64 c.old.most]) (o := 0)
    rw [put_all _ _ (by simp)] at this
    rw [← hw4.out]
    exact this
  have hb34 : Below w3.heap.size w3 w4 := by rw [← hw4.out]; exact below_setCells (newB w3 _) (Nat.le_refl _) _ _
  have hb4' := hb1.trans ((hb3.trans (hb34.mono hb3.size)).mono hb1.size)
  have hfa4 := hfa3.below hb34
  have HB4 := hid hb4'
  have HRG6 : Hid (∀ w', Below w4.heap.size w4 w' → w'.rangeAt w3.heap.size 0 [.int .i64 c.s.op, .int .i64 c.s.fm, .int .i64 c.s.fd, .int .i64 c.s.pl, .int .i64 c.s.tt, .int .i64 c.s.a, .int .i64 c.s.b, .int .i64 c.s.f.id, .int .i64 c.s.f.kind, .int .i64 c.s.f.lo, .int .i64 c.s.f.hi, .int .i64 c.s.f.most, .int .i64 c.s.v.n, .string c.s.v.s, .slice ta c.s.t.length tc, .slice la c.s.l.length lc, .int .i64 c.fi, .slice fa c.L.length fc, .bool c.kn, .int .i64 c.at_, .int .i64 c.old.id, .int .i64 c.old.kind, .int .i64 c.old.lo, .int .i64 c.old.hi, .int .i64 c.old.most]) := hid (fun w' hb => (k6.later hb).whole)
  have HR4 := hid (HRG6.out w4 (Below.refl _ _))
  have HFA := hid hfa4
  have cK4 := cK fa fc w4 hfa4
  clear hb1 hb3 hb34 hb4' hfa3 hfa4 k6 hw4 z0 z1 y0 y1 y2 y3 y4 y5 y6 y7 y8 y9 y10 y11 y12 y13 y14 y15 x0 x1 f0 f1 K2 KB cK cB cF cR
  go_wp2_with (first
    | (with_reducible refine wpList_load_mid rfl 58 (.tmp 6) rfl w3.heap.size 0 rfl [.int .i64 c.s.op, .int .i64 c.s.fm, .int .i64 c.s.fd, .int .i64 c.s.pl, .int .i64 c.s.tt, .int .i64 c.s.a, .int .i64 c.s.b, .int .i64 c.s.f.id, .int .i64 c.s.f.kind, .int .i64 c.s.f.lo, .int .i64 c.s.f.hi, .int .i64 c.s.f.most, .int .i64 c.s.v.n, .string c.s.v.s, .slice ta c.s.t.length tc, .slice la c.s.l.length lc, .int .i64 c.fi, .slice fa c.L.length fc, .bool c.kn, .int .i64 c.at_, .int .i64 c.old.id, .int .i64 c.old.kind, .int .i64 c.old.lo, .int .i64 c.old.hi, .int .i64 c.old.most] _ HR4.out Try.underlying58 rfl (HIF.out _ _) ?_)
    | (go_at_call 21; ((with_reducible refine cK4.mono ?_); rintro e w5 ⟨rfl, hbK⟩; have hb5 := HB4.out.trans (hbK.mono HB4.out.size); obtain ⟨k0, k1, k2, kb⟩ := HX.out _ hb5; have z0 := k0.cell 0; have z1 := k0.cell 1; have x0 := k2.cell 0; have x1 := k2.cell 1; have f0 := k2.frozen 0; have f1 := k2.frozen 1; have K2 := hid k2; have KB := hid kb; have HR5 := hid (HRG6.out _ hbK); have HB5 := hid hb5; have HFA5 := hid (HFA.out.below hbK); have HLT := hid k2.lt; clear k0 k1 k2 kb hb5 hbK))
    | (with_reducible refine wpList_load_mid rfl 58 (.tmp 6) rfl w3.heap.size 0 rfl [.int .i64 c.s.op, .int .i64 c.s.fm, .int .i64 c.s.fd, .int .i64 c.s.pl, .int .i64 c.s.tt, .int .i64 c.s.a, .int .i64 c.s.b, .int .i64 c.s.f.id, .int .i64 c.s.f.kind, .int .i64 c.s.f.lo, .int .i64 c.s.f.hi, .int .i64 c.s.f.most, .int .i64 c.s.v.n, .string c.s.v.s, .slice ta c.s.t.length tc, .slice la c.s.l.length lc, .int .i64 c.fi, .slice fa c.L.length fc, .bool c.kn, .int .i64 c.at_, .int .i64 c.old.id, .int .i64 c.old.kind, .int .i64 c.old.lo, .int .i64 c.old.hi, .int .i64 c.old.most] _ HR5.out Try.underlying58 rfl (HIF.out _ _) ?_)
    | (go_at_call 22; ((with_reducible refine (cA fa fc _ KB.out HFA5.out).mono ?_); rintro e w6 ⟨u, G, rfl, hou, heach, heq, hb6⟩; obtain ⟨x, xc, rfl, hxc⟩ := ownsRow_slice hou; have HL6 := hid (fml_own hou heach); have HOU := hid hou; have HEA := hid heach; have HEQ := hid heq; have HB6 := hid hb6; clear hou heach heq hb6))
    | (go_at_call 18; (have cR2 := right_any v x xc G (w6.alloc (.cells #[.int .i64 v, .slice x G.length xc] 24)) (HL6.out.below (newB w6 _)) (HLN.out G HEQ.out)); unfold Gives at cR2; rw [HEQ.out, decide_eq_true HH1.out] at cR2; ((with_reducible refine cR2.mono ?_); rintro e w7 ⟨rfl, hb7⟩; have hb67 := (newB w6 (.cells #[.int .i64 v, .slice x G.length xc] 24)).trans (hb7.mono (newB w6 (.cells #[.int .i64 v, .slice x G.length xc] 24)).size); have hb57 := HB6.out.trans (hb67.mono HB6.out.size); have hb := HB5.out.trans (hb57.mono HB5.out.size); obtain ⟨k0, k1, k2, kb⟩ := HX.out _ hb; have x0 := k2.cell 0; have x1 := k2.cell 1; have f0 := k2.frozen 0; have f1 := k2.frozen 1; have K2 := hid k2; have KB := hid kb; have k8 := (Block.new w6 24 [.int .i64 v, .slice x G.length xc]).later hb7; have v0 := k8.cell 0; have v1 := k8.cell 1; have HOU7 := hid (ownsRow_later HOU.out hb67); have HEA7 := hid (fun p hp => ownsRow_later (HEA.out p hp) hb67); clear hb67 hb57 hb hb7 k0 k1 k2 kb k8)))
  have hB := (K2.out.setCell 0 (.int .i64 v)).setCell 1 (.slice x G.length xc)
  refine bodyPost_ret (results_cell2 (b := w.heap.size + 1 + 1) (o := 0) rfl rfl hB.whole Try.underlying24 rfl (sc_info2 _ _)) rfl ?_
  exact ⟨x, xc, G, rfl, fml_own (own_past' (own_past' HOU7.out HLT.out) HLT.out) (fun p hp => own_past' (own_past' (HEA7.out p hp) HLT.out) HLT.out), HEQ.out, below_setCells (below_setCells KB.out (by omega) 0 [_]) (by omega) 1 [_]⟩
end Go.Proofs.Ytiajpjkkopdmgaa.typing
/- When a schema is too great to be looked at. No condition. -/
namespace Go.Proofs.Ytiajpjkkopdmgaa.schema
open Go.RowKit
open Go.Proofs.Ytiajpjkkopdmgaa.field (Gives newB)
set_option linter.unusedVariables false

def big (p : Form) : Bool := decide (40 < p.2.length)
def greatB (P : List Form) : Bool := (P.take 41).any big || decide (40 < P.length)
theorem greatB_no {P : List Form} (h : greatB P = false) : P.length ≤ 40 ∧ ∀ p ∈ P, p.2.length ≤ 40 := by
  unfold greatB at h
  rw [Bool.or_eq_false_iff] at h
  have h1 : P.length ≤ 40 := by have := h.2; simp at this; omega
  refine ⟨h1, fun p hp => ?_⟩
  have h2 := h.1
  rw [List.take_of_length_le (by omega), List.any_eq_false] at h2
  have := h2 p hp
  unfold big at this
  simp at this
  omega
end Go.Proofs.Ytiajpjkkopdmgaa.schema
/- Contract of the reference of layer 15 (step): has. No condition. -/
namespace Go.Proofs.Ytiajpjkkopdmgaa.step
open Go.RowKit
open Go.Proofs.Ytiajpjkkopdmgaa.field (Gives newB gives_from)
open Go.Proofs.Ytiajpjkkopdmgaa.schema (take_succ_at)
set_option linter.unusedVariables false

def HasC (op : Int) (c : UInt8) : Bool := decide (c ∈ uses op)
theorem usesS_size (op : Int) : (usesS op).size = (uses op).length := texts.strL_size _
/-- the letter at k -/
theorem usesS_at {op : Int} {k : Nat} {q : UInt8} (h : (uses op)[k]? = some q) (W : World) : (Instr.index 9 (.string (usesS op)) (.int .i64 (k : Int))).run Try.prog W = .ok (.int .u8 (q.toNat : Int)) W := by
  have hk := (List.getElem?_eq_some_iff.1 h).1
  have he := (List.getElem?_eq_some_iff.1 h).2
  rw [run_index_string W _ _ _ _ Try.underlying9, dif_pos ⟨by omega, by rw [usesS_size]; omega⟩]
  congr 2
  rw [← he]
  simp only [Int.toNat_natCast]
  rfl
theorem byte_ne {p q : UInt8} (h : p ≠ q) : ((p.toNat : Int) == (q.toNat : Int)) = false := by
  rw [beq_eq_false_iff_ne]
  intro e
  exact h (UInt8.toNat_inj.1 (by omega))
theorem has_any (op : Int) (c : UInt8) (w : World) : Calls Try.prog 57 #[.int .i64 op, .int .u8 (c.toNat : Int)] w (Gives (.bool (HasC op c)) w) := by
  obtain ⟨v, hv⟩ : ∃ v : Bool, Hid (HasC op c = v) := ⟨_, rfl⟩
  rw [hv.out]
  have cU := uses_any op w
  have hsz := usesS_size op
  have hix := fun (k : Nat) (q : UInt8) (h : (uses op)[k]? = some q) W => usesS_at h W
  have hl5 := uses_len op
  obtain ⟨S, hS⟩ : ∃ S, Hid (usesS op = S) := ⟨_, rfl⟩
  obtain ⟨L, hL⟩ : ∃ L, Hid (uses op = L) := ⟨_, rfl⟩
  have HV : Hid (decide (c ∈ L) = v) := hid (by rw [← hL.out]; exact hv.out)
  rw [hS.out] at cU hsz hix
  rw [hL.out] at hsz hix hl5
  have HIX := hid hix
  unfold Gives at cU ⊢
  clear hix hv
  go_enter Try.func57, Try.ntmps57
  go_wp2_with (go_at_call 53; ((with_reducible refine cU.mono ?_); rintro e w1 ⟨rfl, hb1⟩; have HB1 := hid hb1))
  clear cU
  go_loopw [6] (fun n wr => ∃ k : Nat, k ≤ L.length ∧ n = .int .i64 (k : Int) ∧ Hid (c ∉ L.take k) ∧ Hid (Below w.heap.size w wr)) (fun n _ => L.length - (intOf n).toNat)
  case atStart => exact ⟨0, Nat.zero_le _, rfl, hid (by simp), HB1⟩
  case round =>
    obtain ⟨k, hk, rfl, HN, HB⟩ := hrel
    by_cases hlt : k < L.length
    · have hq := List.getElem?_eq_getElem hlt
      generalize L[k] = q at *
      have hx := fun W => HIX.out k q hq W
      have i1 : (k : Int) < S.size := by rw [hsz]; omega
      have i2 : ((k : Int) < (L.length : Int)) := by omega
      have HS1 := hid (take_succ_at hq)
      have HM := hid (List.mem_of_getElem? hq)
      clear hq
      by_cases hc : q = c
      · subst hc
        obtain rfl : true = v := by rw [← HV.out]; exact (decide_eq_true HM.out).symm
        go_wp2
        go_ret
        exact ⟨rfl, HB.out⟩
      · have hd := byte_ne hc
        have HC := hid hc
        clear hc
        go_wp2
        exact ⟨⟨k + 1, by omega, by go_num, hid (by rw [HS1.out]; intro hm; rcases List.mem_append.1 hm with h | h; exact HN.out h; exact HC.out (List.mem_singleton.1 h).symm), hid HB.out⟩, by simp [intOf]; omega⟩
    · obtain rfl : k = L.length := by omega
      obtain rfl : false = v := by rw [← HV.out]; have := HN.out; rw [List.take_of_length_le (Nat.le_refl _)] at this; exact (decide_eq_false this).symm
      have i1 : ¬ ((L.length : Int) < S.size) := by omega
      go_wp2
      go_ret
      exact ⟨rfl, HB.out⟩
end Go.Proofs.Ytiajpjkkopdmgaa.step
/- A region whose order is given, walked operation by operation, each run by itself. No condition. -/
namespace Go.Proofs.Ytiajpjkkopdmgaa.plan
open Go Go.RowKit
set_option linter.unusedVariables false
/-- what is still to be shown from operation i on -/
structure Line (P : Program) (l : List Oper) (Q : Exit → Act → World → Prop) (i : Nat) (a : Act) (w : World) : Prop where
  out : wpList P l.toArray Q (l.drop i) a w
section
variable {P : Program} {l : List Oper} {Q : Exit → Act → World → Prop} {a : Act} {w : World}
theorem line {id : Nat} (h : Line P l Q 0 a w) : (Code.region id l.toArray false).wp P Q a w := wp_region_lit h.out
theorem line_value {w1 : World} (i : Nat) (o : Oper) (v : Value) (hi : l[i]? = some o) (hw : Region.wanted o (yielded l.toArray a.tmps) = true) (hv : (execOp a.eval o).run P w = .ok (.value v) w1) (h : Line P l Q (i + 1) (a.put o.dst v) w1) : Line P l Q i a w := by
  have hk := (List.getElem?_eq_some_iff.1 hi).1
  have he := (List.getElem?_eq_some_iff.1 hi).2
  replace h := h.out
  refine ⟨?_⟩
  rw [List.drop_eq_getElem_cons hk, he]
  unfold wpList
  rw [if_pos hw]
  refine .inl ?_
  unfold Oper.wp
  rw [hv, Oper.upon_value]
  exact h
theorem line_same (i : Nat) (o : Oper) (v : Value) (hi : l[i]? = some o) (hw : Region.wanted o (yielded l.toArray a.tmps) = true) (hv : (execOp a.eval o).run P w = .ok (.value v) w) (h : Line P l Q (i + 1) (a.put o.dst v) w) : Line P l Q i a w := line_value i o v hi hw hv h
theorem line_skip (i : Nat) (o : Oper) (hi : l[i]? = some o) (hw : Region.wanted o (yielded l.toArray a.tmps) = false) (h : Line P l Q (i + 1) (a.put o.dst undef) w) : Line P l Q i a w := by
  have hk := (List.getElem?_eq_some_iff.1 hi).1
  have he := (List.getElem?_eq_some_iff.1 hi).2
  replace h := h.out
  refine ⟨?_⟩
  rw [List.drop_eq_getElem_cons hk, he]
  unfold wpList
  rw [if_neg (by rw [hw]; simp)]
  exact h
theorem line_store {w1 : World} (i : Nat) (o : Oper) (hi : l[i]? = some o) (hw : Region.wanted o (yielded l.toArray a.tmps) = true) (hv : (execOp a.eval o).run P w = .ok .skip w1) (h : Line P l Q (i + 1) (a.put o.dst undef) w1) : Line P l Q i a w := by
  have hk := (List.getElem?_eq_some_iff.1 hi).1
  have he := (List.getElem?_eq_some_iff.1 hi).2
  replace h := h.out
  refine ⟨?_⟩
  rw [List.drop_eq_getElem_cons hk, he]
  unfold wpList
  rw [if_pos hw]
  refine .inl ?_
  unfold Oper.wp
  rw [hv, Oper.upon_skip]
  exact h
theorem line_call (i : Nat) (o : Oper) (F : FuncId) (args : Array Value) (hi : l[i]? = some o) (hw : Region.wanted o (yielded l.toArray a.tmps) = true) (hv : (execOp a.eval o).run P w = .ok (.enter F args) w) (h : Calls P F args w fun e w' => ∃ v, e = .returned v ∧ Line P l Q (i + 1) (a.put o.dst v) w') : Line P l Q i a w := by
  have hk := (List.getElem?_eq_some_iff.1 hi).1
  have he := (List.getElem?_eq_some_iff.1 hi).2
  refine ⟨?_⟩
  rw [List.drop_eq_getElem_cons hk, he]
  unfold wpList
  rw [if_pos hw]
  refine .inl ?_
  unfold Oper.wp
  rw [hv]
  simp only [Oper.upon]
  refine h.mono ?_
  rintro e w' ⟨v, rfl, hR⟩
  exact hR.out
theorem line_done {n : Nat} (hn : l.length ≤ n) (h : Q .normal a w) : Line P l Q n a w := by
  refine ⟨?_⟩
  rw [List.drop_of_length_le hn]
  exact h
end
end Go.Proofs.Ytiajpjkkopdmgaa.plan
