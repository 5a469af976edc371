/- Contracts and lemmas that the claims of this seat share: TypingAsk. Each says its own conditions. -/
import Derived.Test.YtiajpjkkopdmgaaCmF
import Derived.Test.YtiajpjkkopdmgaaCmE
import Derived.Test.YtiajpjkkopdmgaaCmG
import Derived.Deep.MidRow
import Derived.Handy
import Derived.BigQuiet
import Derived.Deep.QuietTactic
import Derived.Laws.Small

namespace Go.Proofs.Ytiajpjkkopdmgaa.typing
open Go.RowKit Go.Proofs.Ytiajpjkkopdmgaa.schema
open Go.Proofs.Ytiajpjkkopdmgaa.field (Gives newB gives_from has_any wider_any)
set_option linter.unusedVariables false

theorem ch_info : (Try.prog.info? 58).map (·.size) = some 25 := by kernel_rfl
theorem bt {a b : Int} (h : a = b) : (a == b) = true := beq_iff_eq.2 h
theorem bf {a b : Int} (h : ¬ a = b) : (a == b) = false := beq_eq_false_iff_ne.2 h
set_option maxRecDepth 20000 in
theorem found_any (c : Ch) (ta : Option Addr) (tc : Nat) (la : Option Addr) (lc : Nat) (fa : Option Addr) (fc : Nat) (w : World) :
    Calls Try.prog 42 #[.agg #[.int .i64 c.s.op, .int .i64 c.s.fm, .int .i64 c.s.fd, .int .i64 c.s.pl, .int .i64 c.s.tt, .int .i64 c.s.a, .int .i64 c.s.b, .int .i64 c.s.f.id, .int .i64 c.s.f.kind, .int .i64 c.s.f.lo, .int .i64 c.s.f.hi, .int .i64 c.s.f.most, .int .i64 c.s.v.n, .string c.s.v.s, .slice ta c.s.t.length tc, .slice la c.s.l.length lc, .int .i64 c.fi, .slice fa c.L.length fc, .bool c.kn, .int .i64 c.at_, .int .i64 c.old.id, .int .i64 c.old.kind, .int .i64 c.old.lo, .int .i64 c.old.hi, .int .i64 c.old.most]] w (Gives (.bool (found c)) w) := by
  have HN := hid (newB w (.cells #[.int .i64 c.s.op, .int .i64 c.s.fm, .int .i64 c.s.fd, .int .i64 c.s.pl, .int .i64 c.s.tt, .int .i64 c.s.a, .int .i64 c.s.b, .int .i64 c.s.f.id, .int .i64 c.s.f.kind, .int .i64 c.s.f.lo, .int .i64 c.s.f.hi, .int .i64 c.s.f.most, .int .i64 c.s.v.n, .string c.s.v.s, .slice ta c.s.t.length tc, .slice la c.s.l.length lc, .int .i64 c.fi, .slice fa c.L.length fc, .bool c.kn, .int .i64 c.at_, .int .i64 c.old.id, .int .i64 c.old.kind, .int .i64 c.old.lo, .int .i64 c.old.hi, .int .i64 c.old.most] 58))
  obtain ⟨r, hr⟩ : ∃ r : Bool, Hid (found c = r) := ⟨_, rfl⟩
  rw [hr.out]
  unfold Gives
  by_cases h9 : c.s.op = 9
  · have d9 := bt h9
    obtain rfl : true = r := by rw [← hr.out]; unfold found; simp [*]
    clear h9
    go_enter Try.func42, Try.ntmps42
    go_wp2
    go_ret
    exact ⟨rfl, HN.out⟩
  · have d9 := bf h9
    by_cases h1 : c.s.op = 1
    · have d1 := bt h1
      obtain rfl : c.kn = r := by rw [← hr.out]; unfold found; simp [*]
      clear h9 h1
      go_enter Try.func42, Try.ntmps42
      go_wp2
      go_ret
      exact ⟨rfl, HN.out⟩
    · have d1 := bf h1
      by_cases h10 : c.s.op = 10
      · have d10 := bt h10
        obtain rfl : c.kn = r := by rw [← hr.out]; unfold found; simp [*]
        clear h9 h1 h10
        go_enter Try.func42, Try.ntmps42
        go_wp2
        go_ret
        exact ⟨rfl, HN.out⟩
      · have d10 := bf h10
        obtain rfl : decide (0 ≤ c.at_) = r := by rw [← hr.out]; unfold found; simp [*]
        clear h9 h1 h10
        go_enter Try.func42, Try.ntmps42
        go_wp2
        go_ret
        exact ⟨rfl, HN.out⟩
theorem chas_any (c : Ch) (ta : Option Addr) (tc : Nat) (la : Option Addr) (lc : Nat) (fa : Option Addr) (fc : Nat) (w : World) (x : Int) (h : field.Fds w fa c.L) (hL : c.L.length ≤ maxLen) :
    Calls Try.prog 77 #[.agg #[.int .i64 c.s.op, .int .i64 c.s.fm, .int .i64 c.s.fd, .int .i64 c.s.pl, .int .i64 c.s.tt, .int .i64 c.s.a, .int .i64 c.s.b, .int .i64 c.s.f.id, .int .i64 c.s.f.kind, .int .i64 c.s.f.lo, .int .i64 c.s.f.hi, .int .i64 c.s.f.most, .int .i64 c.s.v.n, .string c.s.v.s, .slice ta c.s.t.length tc, .slice la c.s.l.length lc, .int .i64 c.fi, .slice fa c.L.length fc, .bool c.kn, .int .i64 c.at_, .int .i64 c.old.id, .int .i64 c.old.kind, .int .i64 c.old.lo, .int .i64 c.old.hi, .int .i64 c.old.most], .int .i64 x] w (Gives (.bool (decide (0 ≤ firstAt (ids c.L) x))) w) := by
  have HN := newB w (.cells #[.int .i64 c.s.op, .int .i64 c.s.fm, .int .i64 c.s.fd, .int .i64 c.s.pl, .int .i64 c.s.tt, .int .i64 c.s.a, .int .i64 c.s.b, .int .i64 c.s.f.id, .int .i64 c.s.f.kind, .int .i64 c.s.f.lo, .int .i64 c.s.f.hi, .int .i64 c.s.f.most, .int .i64 c.s.v.n, .string c.s.v.s, .slice ta c.s.t.length tc, .slice la c.s.l.length lc, .int .i64 c.fi, .slice fa c.L.length fc, .bool c.kn, .int .i64 c.at_, .int .i64 c.old.id, .int .i64 c.old.kind, .int .i64 c.old.lo, .int .i64 c.old.hi, .int .i64 c.old.most] 58)
  have cA := gives_from (at_any c.fi fa fc c.L x ((w.alloc (.cells #[.int .i64 c.s.op, .int .i64 c.s.fm, .int .i64 c.s.fd, .int .i64 c.s.pl, .int .i64 c.s.tt, .int .i64 c.s.a, .int .i64 c.s.b, .int .i64 c.s.f.id, .int .i64 c.s.f.kind, .int .i64 c.s.f.lo, .int .i64 c.s.f.hi, .int .i64 c.s.f.most, .int .i64 c.s.v.n, .string c.s.v.s, .slice ta c.s.t.length tc, .slice la c.s.l.length lc, .int .i64 c.fi, .slice fa c.L.length fc, .bool c.kn, .int .i64 c.at_, .int .i64 c.old.id, .int .i64 c.old.kind, .int .i64 c.old.lo, .int .i64 c.old.hi, .int .i64 c.old.most] 58))) (h.below HN) hL) HN
  obtain ⟨K, hK⟩ : ∃ K : Int, Hid (firstAt (ids c.L) x = K) := ⟨_, rfl⟩
  rw [hK.out] at cA ⊢
  unfold Gives
  clear h hL
  by_cases h0 : 0 ≤ K
  · rw [decide_eq_true h0]
    have d0 : decide (K ≥ 0) = true := decide_eq_true h0
    go_enter Try.func77, Try.ntmps77
    go_wp2_with (go_at_call 41; ((with_reducible refine cA.mono ?_); rintro e w1 ⟨rfl, hb1⟩))
    go_ret
    exact ⟨rfl, hb1⟩
  · rw [decide_eq_false h0]
    have d0 : decide (K ≥ 0) = false := decide_eq_false h0
    go_enter Try.func77, Try.ntmps77
    go_wp2_with (go_at_call 41; ((with_reducible refine cA.mono ?_); rintro e w1 ⟨rfl, hb1⟩))
    go_ret
    exact ⟨rfl, hb1⟩
set_option maxRecDepth 20000 in
theorem twice_any (c : Ch) (ta : Option Addr) (tc : Nat) (la : Option Addr) (lc : Nat) (fa : Option Addr) (fc : Nat) (w : World) (h : field.Fds w fa c.L) (hL : c.L.length ≤ maxLen) :
    Calls Try.prog 43 #[.agg #[.int .i64 c.s.op, .int .i64 c.s.fm, .int .i64 c.s.fd, .int .i64 c.s.pl, .int .i64 c.s.tt, .int .i64 c.s.a, .int .i64 c.s.b, .int .i64 c.s.f.id, .int .i64 c.s.f.kind, .int .i64 c.s.f.lo, .int .i64 c.s.f.hi, .int .i64 c.s.f.most, .int .i64 c.s.v.n, .string c.s.v.s, .slice ta c.s.t.length tc, .slice la c.s.l.length lc, .int .i64 c.fi, .slice fa c.L.length fc, .bool c.kn, .int .i64 c.at_, .int .i64 c.old.id, .int .i64 c.old.kind, .int .i64 c.old.lo, .int .i64 c.old.hi, .int .i64 c.old.most]] w (Gives (.bool (twice c)) w) := by
  have HN := hid (newB w (.cells #[.int .i64 c.s.op, .int .i64 c.s.fm, .int .i64 c.s.fd, .int .i64 c.s.pl, .int .i64 c.s.tt, .int .i64 c.s.a, .int .i64 c.s.b, .int .i64 c.s.f.id, .int .i64 c.s.f.kind, .int .i64 c.s.f.lo, .int .i64 c.s.f.hi, .int .i64 c.s.f.most, .int .i64 c.s.v.n, .string c.s.v.s, .slice ta c.s.t.length tc, .slice la c.s.l.length lc, .int .i64 c.fi, .slice fa c.L.length fc, .bool c.kn, .int .i64 c.at_, .int .i64 c.old.id, .int .i64 c.old.kind, .int .i64 c.old.lo, .int .i64 c.old.hi, .int .i64 c.old.most] 58))
  obtain ⟨r, hr⟩ : ∃ r : Bool, Hid (twice c = r) := ⟨_, rfl⟩
  rw [hr.out]
  unfold Gives
  by_cases h9 : c.s.op = 9
  · have d9 := bt h9
    obtain rfl : c.kn = r := by rw [← hr.out]; unfold twice; simp [*]
    clear h9
    go_enter Try.func43, Try.ntmps43
    go_wp2
    go_ret
    exact ⟨rfl, HN.out⟩
  · have d9 := bf h9
    by_cases h1 : c.s.op = 1
    · have d1 := bt h1
      obtain rfl : decide (0 ≤ firstAt (ids c.L) c.s.f.id) = r := by rw [← hr.out]; unfold twice; simp [*]
      clear h9 h1
      have cH := gives_from (chas_any c ta tc la lc fa fc ((w.alloc (.cells #[.int .i64 c.s.op, .int .i64 c.s.fm, .int .i64 c.s.fd, .int .i64 c.s.pl, .int .i64 c.s.tt, .int .i64 c.s.a, .int .i64 c.s.b, .int .i64 c.s.f.id, .int .i64 c.s.f.kind, .int .i64 c.s.f.lo, .int .i64 c.s.f.hi, .int .i64 c.s.f.most, .int .i64 c.s.v.n, .string c.s.v.s, .slice ta c.s.t.length tc, .slice la c.s.l.length lc, .int .i64 c.fi, .slice fa c.L.length fc, .bool c.kn, .int .i64 c.at_, .int .i64 c.old.id, .int .i64 c.old.kind, .int .i64 c.old.lo, .int .i64 c.old.hi, .int .i64 c.old.most] 58))) (c.s.f.id) (h.below HN.out) hL) HN.out
      have HRG : Hid (((w.alloc (.cells #[.int .i64 c.s.op, .int .i64 c.s.fm, .int .i64 c.s.fd, .int .i64 c.s.pl, .int .i64 c.s.tt, .int .i64 c.s.a, .int .i64 c.s.b, .int .i64 c.s.f.id, .int .i64 c.s.f.kind, .int .i64 c.s.f.lo, .int .i64 c.s.f.hi, .int .i64 c.s.f.most, .int .i64 c.s.v.n, .string c.s.v.s, .slice ta c.s.t.length tc, .slice la c.s.l.length lc, .int .i64 c.fi, .slice fa c.L.length fc, .bool c.kn, .int .i64 c.at_, .int .i64 c.old.id, .int .i64 c.old.kind, .int .i64 c.old.lo, .int .i64 c.old.hi, .int .i64 c.old.most] 58))).rangeAt w.heap.size 0 [.int .i64 c.s.op, .int .i64 c.s.fm, .int .i64 c.s.fd, .int .i64 c.s.pl, .int .i64 c.s.tt, .int .i64 c.s.a, .int .i64 c.s.b, .int .i64 c.s.f.id, .int .i64 c.s.f.kind, .int .i64 c.s.f.lo, .int .i64 c.s.f.hi, .int .i64 c.s.f.most, .int .i64 c.s.v.n, .string c.s.v.s, .slice ta c.s.t.length tc, .slice la c.s.l.length lc, .int .i64 c.fi, .slice fa c.L.length fc, .bool c.kn, .int .i64 c.at_, .int .i64 c.old.id, .int .i64 c.old.kind, .int .i64 c.old.lo, .int .i64 c.old.hi, .int .i64 c.old.most]) := hid (Block.new w _ _).whole
      have HI : Hid ((Try.prog.info? 58).map (·.size) = some ([.int .i64 c.s.op, .int .i64 c.s.fm, .int .i64 c.s.fd, .int .i64 c.s.pl, .int .i64 c.s.tt, .int .i64 c.s.a, .int .i64 c.s.b, .int .i64 c.s.f.id, .int .i64 c.s.f.kind, .int .i64 c.s.f.lo, .int .i64 c.s.f.hi, .int .i64 c.s.f.most, .int .i64 c.s.v.n, .string c.s.v.s, .slice ta c.s.t.length tc, .slice la c.s.l.length lc, .int .i64 c.fi, .slice fa c.L.length fc, .bool c.kn, .int .i64 c.at_, .int .i64 c.old.id, .int .i64 c.old.kind, .int .i64 c.old.lo, .int .i64 c.old.hi, .int .i64 c.old.most] : List Value).length) := hid ch_info
      clear h hL
      go_enter Try.func43, Try.ntmps43
      go_wp2_with ((first
        | (with_reducible refine wpList_load_mid rfl 58 (.tmp 1) rfl w.heap.size 0 rfl [.int .i64 c.s.op, .int .i64 c.s.fm, .int .i64 c.s.fd, .int .i64 c.s.pl, .int .i64 c.s.tt, .int .i64 c.s.a, .int .i64 c.s.b, .int .i64 c.s.f.id, .int .i64 c.s.f.kind, .int .i64 c.s.f.lo, .int .i64 c.s.f.hi, .int .i64 c.s.f.most, .int .i64 c.s.v.n, .string c.s.v.s, .slice ta c.s.t.length tc, .slice la c.s.l.length lc, .int .i64 c.fi, .slice fa c.L.length fc, .bool c.kn, .int .i64 c.at_, .int .i64 c.old.id, .int .i64 c.old.kind, .int .i64 c.old.lo, .int .i64 c.old.hi, .int .i64 c.old.most] _ HRG.out Try.underlying58 rfl HI.out ?_)
        | (go_at_call 77; ((with_reducible refine cH.mono ?_); rintro e w1 ⟨rfl, hb1⟩))))
      go_ret
      exact ⟨rfl, hb1⟩
    · have d1 := bf h1
      by_cases h6 : c.s.op = 6
      · have d6 := bt h6
        obtain rfl : decide (0 ≤ firstAt (ids c.L) c.s.tt) = r := by rw [← hr.out]; unfold twice; simp [*]
        clear h9 h1 h6
        have cH := gives_from (chas_any c ta tc la lc fa fc ((w.alloc (.cells #[.int .i64 c.s.op, .int .i64 c.s.fm, .int .i64 c.s.fd, .int .i64 c.s.pl, .int .i64 c.s.tt, .int .i64 c.s.a, .int .i64 c.s.b, .int .i64 c.s.f.id, .int .i64 c.s.f.kind, .int .i64 c.s.f.lo, .int .i64 c.s.f.hi, .int .i64 c.s.f.most, .int .i64 c.s.v.n, .string c.s.v.s, .slice ta c.s.t.length tc, .slice la c.s.l.length lc, .int .i64 c.fi, .slice fa c.L.length fc, .bool c.kn, .int .i64 c.at_, .int .i64 c.old.id, .int .i64 c.old.kind, .int .i64 c.old.lo, .int .i64 c.old.hi, .int .i64 c.old.most] 58))) (c.s.tt) (h.below HN.out) hL) HN.out
        have HRG : Hid (((w.alloc (.cells #[.int .i64 c.s.op, .int .i64 c.s.fm, .int .i64 c.s.fd, .int .i64 c.s.pl, .int .i64 c.s.tt, .int .i64 c.s.a, .int .i64 c.s.b, .int .i64 c.s.f.id, .int .i64 c.s.f.kind, .int .i64 c.s.f.lo, .int .i64 c.s.f.hi, .int .i64 c.s.f.most, .int .i64 c.s.v.n, .string c.s.v.s, .slice ta c.s.t.length tc, .slice la c.s.l.length lc, .int .i64 c.fi, .slice fa c.L.length fc, .bool c.kn, .int .i64 c.at_, .int .i64 c.old.id, .int .i64 c.old.kind, .int .i64 c.old.lo, .int .i64 c.old.hi, .int .i64 c.old.most] 58))).rangeAt w.heap.size 0 [.int .i64 c.s.op, .int .i64 c.s.fm, .int .i64 c.s.fd, .int .i64 c.s.pl, .int .i64 c.s.tt, .int .i64 c.s.a, .int .i64 c.s.b, .int .i64 c.s.f.id, .int .i64 c.s.f.kind, .int .i64 c.s.f.lo, .int .i64 c.s.f.hi, .int .i64 c.s.f.most, .int .i64 c.s.v.n, .string c.s.v.s, .slice ta c.s.t.length tc, .slice la c.s.l.length lc, .int .i64 c.fi, .slice fa c.L.length fc, .bool c.kn, .int .i64 c.at_, .int .i64 c.old.id, .int .i64 c.old.kind, .int .i64 c.old.lo, .int .i64 c.old.hi, .int .i64 c.old.most]) := hid (Block.new w _ _).whole
        have HI : Hid ((Try.prog.info? 58).map (·.size) = some ([.int .i64 c.s.op, .int .i64 c.s.fm, .int .i64 c.s.fd, .int .i64 c.s.pl, .int .i64 c.s.tt, .int .i64 c.s.a, .int .i64 c.s.b, .int .i64 c.s.f.id, .int .i64 c.s.f.kind, .int .i64 c.s.f.lo, .int .i64 c.s.f.hi, .int .i64 c.s.f.most, .int .i64 c.s.v.n, .string c.s.v.s, .slice ta c.s.t.length tc, .slice la c.s.l.length lc, .int .i64 c.fi, .slice fa c.L.length fc, .bool c.kn, .int .i64 c.at_, .int .i64 c.old.id, .int .i64 c.old.kind, .int .i64 c.old.lo, .int .i64 c.old.hi, .int .i64 c.old.most] : List Value).length) := hid ch_info
        clear h hL
        go_enter Try.func43, Try.ntmps43
        go_wp2_with ((first
          | (with_reducible refine wpList_load_mid rfl 58 (.tmp 1) rfl w.heap.size 0 rfl [.int .i64 c.s.op, .int .i64 c.s.fm, .int .i64 c.s.fd, .int .i64 c.s.pl, .int .i64 c.s.tt, .int .i64 c.s.a, .int .i64 c.s.b, .int .i64 c.s.f.id, .int .i64 c.s.f.kind, .int .i64 c.s.f.lo, .int .i64 c.s.f.hi, .int .i64 c.s.f.most, .int .i64 c.s.v.n, .string c.s.v.s, .slice ta c.s.t.length tc, .slice la c.s.l.length lc, .int .i64 c.fi, .slice fa c.L.length fc, .bool c.kn, .int .i64 c.at_, .int .i64 c.old.id, .int .i64 c.old.kind, .int .i64 c.old.lo, .int .i64 c.old.hi, .int .i64 c.old.most] _ HRG.out Try.underlying58 rfl HI.out ?_)
          | (go_at_call 77; ((with_reducible refine cH.mono ?_); rintro e w1 ⟨rfl, hb1⟩))))
        go_ret
        exact ⟨rfl, hb1⟩
      · have d6 := bf h6
        by_cases h8 : c.s.op = 8
        · have d8 := bt h8
          obtain rfl : decide (0 ≤ firstAt (ids c.L) c.s.tt) = r := by rw [← hr.out]; unfold twice; simp [*]
          clear h9 h1 h6 h8
          have cH := gives_from (chas_any c ta tc la lc fa fc ((w.alloc (.cells #[.int .i64 c.s.op, .int .i64 c.s.fm, .int .i64 c.s.fd, .int .i64 c.s.pl, .int .i64 c.s.tt, .int .i64 c.s.a, .int .i64 c.s.b, .int .i64 c.s.f.id, .int .i64 c.s.f.kind, .int .i64 c.s.f.lo, .int .i64 c.s.f.hi, .int .i64 c.s.f.most, .int .i64 c.s.v.n, .string c.s.v.s, .slice ta c.s.t.length tc, .slice la c.s.l.length lc, .int .i64 c.fi, .slice fa c.L.length fc, .bool c.kn, .int .i64 c.at_, .int .i64 c.old.id, .int .i64 c.old.kind, .int .i64 c.old.lo, .int .i64 c.old.hi, .int .i64 c.old.most] 58))) (c.s.tt) (h.below HN.out) hL) HN.out
          have HRG : Hid (((w.alloc (.cells #[.int .i64 c.s.op, .int .i64 c.s.fm, .int .i64 c.s.fd, .int .i64 c.s.pl, .int .i64 c.s.tt, .int .i64 c.s.a, .int .i64 c.s.b, .int .i64 c.s.f.id, .int .i64 c.s.f.kind, .int .i64 c.s.f.lo, .int .i64 c.s.f.hi, .int .i64 c.s.f.most, .int .i64 c.s.v.n, .string c.s.v.s, .slice ta c.s.t.length tc, .slice la c.s.l.length lc, .int .i64 c.fi, .slice fa c.L.length fc, .bool c.kn, .int .i64 c.at_, .int .i64 c.old.id, .int .i64 c.old.kind, .int .i64 c.old.lo, .int .i64 c.old.hi, .int .i64 c.old.most] 58))).rangeAt w.heap.size 0 [.int .i64 c.s.op, .int .i64 c.s.fm, .int .i64 c.s.fd, .int .i64 c.s.pl, .int .i64 c.s.tt, .int .i64 c.s.a, .int .i64 c.s.b, .int .i64 c.s.f.id, .int .i64 c.s.f.kind, .int .i64 c.s.f.lo, .int .i64 c.s.f.hi, .int .i64 c.s.f.most, .int .i64 c.s.v.n, .string c.s.v.s, .slice ta c.s.t.length tc, .slice la c.s.l.length lc, .int .i64 c.fi, .slice fa c.L.length fc, .bool c.kn, .int .i64 c.at_, .int .i64 c.old.id, .int .i64 c.old.kind, .int .i64 c.old.lo, .int .i64 c.old.hi, .int .i64 c.old.most]) := hid (Block.new w _ _).whole
          have HI : Hid ((Try.prog.info? 58).map (·.size) = some ([.int .i64 c.s.op, .int .i64 c.s.fm, .int .i64 c.s.fd, .int .i64 c.s.pl, .int .i64 c.s.tt, .int .i64 c.s.a, .int .i64 c.s.b, .int .i64 c.s.f.id, .int .i64 c.s.f.kind, .int .i64 c.s.f.lo, .int .i64 c.s.f.hi, .int .i64 c.s.f.most, .int .i64 c.s.v.n, .string c.s.v.s, .slice ta c.s.t.length tc, .slice la c.s.l.length lc, .int .i64 c.fi, .slice fa c.L.length fc, .bool c.kn, .int .i64 c.at_, .int .i64 c.old.id, .int .i64 c.old.kind, .int .i64 c.old.lo, .int .i64 c.old.hi, .int .i64 c.old.most] : List Value).length) := hid ch_info
          clear h hL
          go_enter Try.func43, Try.ntmps43
          go_wp2_with ((first
            | (with_reducible refine wpList_load_mid rfl 58 (.tmp 1) rfl w.heap.size 0 rfl [.int .i64 c.s.op, .int .i64 c.s.fm, .int .i64 c.s.fd, .int .i64 c.s.pl, .int .i64 c.s.tt, .int .i64 c.s.a, .int .i64 c.s.b, .int .i64 c.s.f.id, .int .i64 c.s.f.kind, .int .i64 c.s.f.lo, .int .i64 c.s.f.hi, .int .i64 c.s.f.most, .int .i64 c.s.v.n, .string c.s.v.s, .slice ta c.s.t.length tc, .slice la c.s.l.length lc, .int .i64 c.fi, .slice fa c.L.length fc, .bool c.kn, .int .i64 c.at_, .int .i64 c.old.id, .int .i64 c.old.kind, .int .i64 c.old.lo, .int .i64 c.old.hi, .int .i64 c.old.most] _ HRG.out Try.underlying58 rfl HI.out ?_)
            | (go_at_call 77; ((with_reducible refine cH.mono ?_); rintro e w1 ⟨rfl, hb1⟩))))
          go_ret
          exact ⟨rfl, hb1⟩
        · have d8 := bf h8
          obtain rfl : false = r := by rw [← hr.out]; unfold twice; simp [*]
          clear h9 h1 h6 h8
          go_enter Try.func43, Try.ntmps43
          go_wp2
          go_ret
          exact ⟨rfl, HN.out⟩
set_option maxRecDepth 20000 in
theorem beyond_any (c : Ch) (ta : Option Addr) (tc : Nat) (la : Option Addr) (lc : Nat) (fa : Option Addr) (fc : Nat) (w : World) (hL : c.L.length ≤ 40) :
    Calls Try.prog 44 #[.agg #[.int .i64 c.s.op, .int .i64 c.s.fm, .int .i64 c.s.fd, .int .i64 c.s.pl, .int .i64 c.s.tt, .int .i64 c.s.a, .int .i64 c.s.b, .int .i64 c.s.f.id, .int .i64 c.s.f.kind, .int .i64 c.s.f.lo, .int .i64 c.s.f.hi, .int .i64 c.s.f.most, .int .i64 c.s.v.n, .string c.s.v.s, .slice ta c.s.t.length tc, .slice la c.s.l.length lc, .int .i64 c.fi, .slice fa c.L.length fc, .bool c.kn, .int .i64 c.at_, .int .i64 c.old.id, .int .i64 c.old.kind, .int .i64 c.old.lo, .int .i64 c.old.hi, .int .i64 c.old.most]] w (Gives (.bool (beyond c)) w) := by
  have HN := hid (newB w (.cells #[.int .i64 c.s.op, .int .i64 c.s.fm, .int .i64 c.s.fd, .int .i64 c.s.pl, .int .i64 c.s.tt, .int .i64 c.s.a, .int .i64 c.s.b, .int .i64 c.s.f.id, .int .i64 c.s.f.kind, .int .i64 c.s.f.lo, .int .i64 c.s.f.hi, .int .i64 c.s.f.most, .int .i64 c.s.v.n, .string c.s.v.s, .slice ta c.s.t.length tc, .slice la c.s.l.length lc, .int .i64 c.fi, .slice fa c.L.length fc, .bool c.kn, .int .i64 c.at_, .int .i64 c.old.id, .int .i64 c.old.kind, .int .i64 c.old.lo, .int .i64 c.old.hi, .int .i64 c.old.most] 58))
  obtain ⟨r, hr⟩ : ∃ r : Bool, Hid (beyond c = r) := ⟨_, rfl⟩
  rw [hr.out]
  unfold Gives
  have hml : (c.L.length : Int) ≤ 40 := by omega
  by_cases h1 : c.s.op = 1
  · have d1 := bt h1
    obtain rfl : decide ((c.L.length : Int) < c.s.pl) = r := by rw [← hr.out]; unfold beyond; simp [*]
    clear h1
    go_enter Try.func44, Try.ntmps44
    go_wp2
    go_ret
    exact ⟨rfl, HN.out⟩
  · have d1 := bf h1
    by_cases h7 : c.s.op = 7
    · have d7 := bt h7
      obtain rfl : decide ((c.L.length : Int) - 1 < c.s.pl) = r := by rw [← hr.out]; unfold beyond; simp [*]
      clear h1 h7
      go_enter Try.func44, Try.ntmps44
      go_wp2
      go_ret
      exact ⟨rfl, HN.out⟩
    · have d7 := bf h7
      obtain rfl : false = r := by rw [← hr.out]; unfold beyond; simp [*]
      clear h1 h7
      go_enter Try.func44, Try.ntmps44
      go_wp2
      go_ret
      exact ⟨rfl, HN.out⟩
/-- the numbers of an OpScale are small -/
def Bd (c : Ch) : Prop := (-1048576 ≤ c.s.a ∧ c.s.a ≤ 1048576) ∧ (-1099511627776 ≤ c.s.b ∧ c.s.b ≤ 1099511627776) ∧ (-1099511627776 ≤ c.old.lo ∧ c.old.lo ≤ 1099511627776) ∧ (-1099511627776 ≤ c.old.hi ∧ c.old.hi ≤ 1099511627776)
theorem mul_bd {a x : Int} (h : -1048576 ≤ a ∧ a ≤ 1048576) (k : -1099511627776 ≤ x ∧ x ≤ 1099511627776) : -1152921504606846976 ≤ a * x ∧ a * x ≤ 1152921504606846976 := by
  have h1 : (a + 1048576) * (x + 1099511627776) ≥ 0 := Int.mul_nonneg (by omega) (by omega)
  have h2 : (1048576 - a) * (1099511627776 - x) ≥ 0 := Int.mul_nonneg (by omega) (by omega)
  have h3 : (a + 1048576) * (1099511627776 - x) ≥ 0 := Int.mul_nonneg (by omega) (by omega)
  have h4 : (1048576 - a) * (x + 1099511627776) ≥ 0 := Int.mul_nonneg (by omega) (by omega)
  simp only [Int.add_mul, Int.sub_mul, Int.mul_add, Int.mul_sub] at h1 h2 h3 h4
  constructor <;> omega
set_option maxRecDepth 20000 in
theorem scaled_any (c : Ch) (ta : Option Addr) (tc : Nat) (la : Option Addr) (lc : Nat) (fa : Option Addr) (fc : Nat) (w : World) (hb : Bd c) :
    Calls Try.prog 80 #[.agg #[.int .i64 c.s.op, .int .i64 c.s.fm, .int .i64 c.s.fd, .int .i64 c.s.pl, .int .i64 c.s.tt, .int .i64 c.s.a, .int .i64 c.s.b, .int .i64 c.s.f.id, .int .i64 c.s.f.kind, .int .i64 c.s.f.lo, .int .i64 c.s.f.hi, .int .i64 c.s.f.most, .int .i64 c.s.v.n, .string c.s.v.s, .slice ta c.s.t.length tc, .slice la c.s.l.length lc, .int .i64 c.fi, .slice fa c.L.length fc, .bool c.kn, .int .i64 c.at_, .int .i64 c.old.id, .int .i64 c.old.kind, .int .i64 c.old.lo, .int .i64 c.old.hi, .int .i64 c.old.most]] w (Gives (.tuple #[.int .i64 (low c), .int .i64 (high c)]) w) := by
  have HN := hid (newB w (.cells #[.int .i64 c.s.op, .int .i64 c.s.fm, .int .i64 c.s.fd, .int .i64 c.s.pl, .int .i64 c.s.tt, .int .i64 c.s.a, .int .i64 c.s.b, .int .i64 c.s.f.id, .int .i64 c.s.f.kind, .int .i64 c.s.f.lo, .int .i64 c.s.f.hi, .int .i64 c.s.f.most, .int .i64 c.s.v.n, .string c.s.v.s, .slice ta c.s.t.length tc, .slice la c.s.l.length lc, .int .i64 c.fi, .slice fa c.L.length fc, .bool c.kn, .int .i64 c.at_, .int .i64 c.old.id, .int .i64 c.old.kind, .int .i64 c.old.lo, .int .i64 c.old.hi, .int .i64 c.old.most] 58))
  obtain ⟨ha, hbb, hlo, hhi⟩ := hb
  have q1 := mul_bd ha hlo
  have q2 := mul_bd ha hhi
  have e1 : scA c = c.s.a * c.old.lo + c.s.b := rfl
  have e2 : scB c = c.s.a * c.old.hi + c.s.b := rfl
  have e3 : low c = if scB c < scA c then scB c else scA c := rfl
  have e4 : high c = if scB c > scA c then scB c else scA c := rfl
  obtain ⟨Q1, hQ1⟩ : ∃ Q1, c.s.a * c.old.lo = Q1 := ⟨_, rfl⟩
  obtain ⟨Q2, hQ2⟩ : ∃ Q2, c.s.a * c.old.hi = Q2 := ⟨_, rfl⟩
  rw [hQ1] at q1 e1
  rw [hQ2] at q2 e2
  obtain ⟨R1, hR1⟩ : ∃ R1, scA c = R1 := ⟨_, rfl⟩
  obtain ⟨R2, hR2⟩ : ∃ R2, scB c = R2 := ⟨_, rfl⟩
  rw [hR1] at e1
  rw [hR2] at e2
  rw [hR1, hR2] at e3 e4
  have em : ∀ ts t W, (Builtin.min_ ts t #[.int .i64 R1, .int .i64 R2]).run Try.prog W = .ok (.int .i64 (low c)) W := fun ts t W => by rw [run_min_int2, e3]
  have ex : ∀ ts t W, (Builtin.max_ ts t #[.int .i64 R1, .int .i64 R2]).run Try.prog W = .ok (.int .i64 (high c)) W := fun ts t W => by rw [run_max_int2, e4]
  have w1 : IntKind.i64.wrap Q1 = Q1 := IntWalk.i64_in _ (by omega)
  have w2 : IntKind.i64.wrap Q2 = Q2 := IntWalk.i64_in _ (by omega)
  have w3 : IntKind.i64.wrap (Q1 + c.s.b) = R1 := by rw [IntWalk.i64_in _ (by omega), e1]
  have w4 : IntKind.i64.wrap (Q2 + c.s.b) = R2 := by rw [IntWalk.i64_in _ (by omega), e2]
  obtain ⟨L, hL⟩ : ∃ L : Int, Hid (low c = L) := ⟨_, rfl⟩
  obtain ⟨M, hM⟩ : ∃ M : Int, Hid (high c = M) := ⟨_, rfl⟩
  rw [hL.out] at em ⊢
  rw [hM.out] at ex ⊢
  unfold Gives
  clear e1 e2 e3 e4 hR1 hR2 q1 q2 ha hbb hlo hhi
  go_enter Try.func80, Try.ntmps80
  go_wp2
  go_quiet (fail)
  go_wp2
  go_ret2
  exact ⟨rfl, below_drewN HN.out _⟩
set_option maxRecDepth 20000 in
theorem suits_any (c : Ch) (ta : Option Addr) (tc : Nat) (la : Option Addr) (lc : Nat) (fa : Option Addr) (fc : Nat) (w : World) (hb4 : c.s.op = 4 → Bd c) :
    Calls Try.prog 45 #[.agg #[.int .i64 c.s.op, .int .i64 c.s.fm, .int .i64 c.s.fd, .int .i64 c.s.pl, .int .i64 c.s.tt, .int .i64 c.s.a, .int .i64 c.s.b, .int .i64 c.s.f.id, .int .i64 c.s.f.kind, .int .i64 c.s.f.lo, .int .i64 c.s.f.hi, .int .i64 c.s.f.most, .int .i64 c.s.v.n, .string c.s.v.s, .slice ta c.s.t.length tc, .slice la c.s.l.length lc, .int .i64 c.fi, .slice fa c.L.length fc, .bool c.kn, .int .i64 c.at_, .int .i64 c.old.id, .int .i64 c.old.kind, .int .i64 c.old.lo, .int .i64 c.old.hi, .int .i64 c.old.most]] w (Gives (.bool (suits c)) w) := by
  have HN := hid (newB w (.cells #[.int .i64 c.s.op, .int .i64 c.s.fm, .int .i64 c.s.fd, .int .i64 c.s.pl, .int .i64 c.s.tt, .int .i64 c.s.a, .int .i64 c.s.b, .int .i64 c.s.f.id, .int .i64 c.s.f.kind, .int .i64 c.s.f.lo, .int .i64 c.s.f.hi, .int .i64 c.s.f.most, .int .i64 c.s.v.n, .string c.s.v.s, .slice ta c.s.t.length tc, .slice la c.s.l.length lc, .int .i64 c.fi, .slice fa c.L.length fc, .bool c.kn, .int .i64 c.at_, .int .i64 c.old.id, .int .i64 c.old.kind, .int .i64 c.old.lo, .int .i64 c.old.hi, .int .i64 c.old.most] 58))
  obtain ⟨r, hr⟩ : ∃ r : Bool, Hid (suits c = r) := ⟨_, rfl⟩
  rw [hr.out]
  unfold Gives
  by_cases h2 : c.s.op = 2
  · have d2 := bt h2
    obtain rfl : decide (c.old.Has c.s.v) = r := by rw [← hr.out]; unfold suits; simp [*]
    clear h2
    have cH := gives_from (has_any c.old c.s.v ((w.alloc (.cells #[.int .i64 c.s.op, .int .i64 c.s.fm, .int .i64 c.s.fd, .int .i64 c.s.pl, .int .i64 c.s.tt, .int .i64 c.s.a, .int .i64 c.s.b, .int .i64 c.s.f.id, .int .i64 c.s.f.kind, .int .i64 c.s.f.lo, .int .i64 c.s.f.hi, .int .i64 c.s.f.most, .int .i64 c.s.v.n, .string c.s.v.s, .slice ta c.s.t.length tc, .slice la c.s.l.length lc, .int .i64 c.fi, .slice fa c.L.length fc, .bool c.kn, .int .i64 c.at_, .int .i64 c.old.id, .int .i64 c.old.kind, .int .i64 c.old.lo, .int .i64 c.old.hi, .int .i64 c.old.most] 58)))) HN.out
    clear hb4
    go_enter Try.func45, Try.ntmps45
    go_wp2_with ((go_at_call 78; ((with_reducible refine cH.mono ?_); rintro e w1 ⟨rfl, hb1⟩)))
    go_ret
    exact ⟨rfl, hb1⟩
  · have d2 := bf h2
    by_cases h3 : c.s.op = 3
    · have d3 := bt h3
      obtain rfl : decide (c.old.Wider c.s.f) = r := by rw [← hr.out]; unfold suits; simp [*]
      clear h2 h3
      have cH := gives_from (wider_any c.old c.s.f ((w.alloc (.cells #[.int .i64 c.s.op, .int .i64 c.s.fm, .int .i64 c.s.fd, .int .i64 c.s.pl, .int .i64 c.s.tt, .int .i64 c.s.a, .int .i64 c.s.b, .int .i64 c.s.f.id, .int .i64 c.s.f.kind, .int .i64 c.s.f.lo, .int .i64 c.s.f.hi, .int .i64 c.s.f.most, .int .i64 c.s.v.n, .string c.s.v.s, .slice ta c.s.t.length tc, .slice la c.s.l.length lc, .int .i64 c.fi, .slice fa c.L.length fc, .bool c.kn, .int .i64 c.at_, .int .i64 c.old.id, .int .i64 c.old.kind, .int .i64 c.old.lo, .int .i64 c.old.hi, .int .i64 c.old.most] 58)))) HN.out
      clear hb4
      go_enter Try.func45, Try.ntmps45
      go_wp2_with ((go_at_call 79; ((with_reducible refine cH.mono ?_); rintro e w1 ⟨rfl, hb1⟩)))
      go_ret
      exact ⟨rfl, hb1⟩
    · have d3 := bf h3
      by_cases h4 : c.s.op = 4
      · have d4 := bt h4
        have cS := scaled_any c ta tc la lc fa fc ((w.alloc (.cells #[.int .i64 c.s.op, .int .i64 c.s.fm, .int .i64 c.s.fd, .int .i64 c.s.pl, .int .i64 c.s.tt, .int .i64 c.s.a, .int .i64 c.s.b, .int .i64 c.s.f.id, .int .i64 c.s.f.kind, .int .i64 c.s.f.lo, .int .i64 c.s.f.hi, .int .i64 c.s.f.most, .int .i64 c.s.v.n, .string c.s.v.s, .slice ta c.s.t.length tc, .slice la c.s.l.length lc, .int .i64 c.fi, .slice fa c.L.length fc, .bool c.kn, .int .i64 c.at_, .int .i64 c.old.id, .int .i64 c.old.kind, .int .i64 c.old.lo, .int .i64 c.old.hi, .int .i64 c.old.most] 58))) (hb4 h4)
        unfold Gives at cS
        have HRG : Hid (∀ w', Below ((w.alloc (.cells #[.int .i64 c.s.op, .int .i64 c.s.fm, .int .i64 c.s.fd, .int .i64 c.s.pl, .int .i64 c.s.tt, .int .i64 c.s.a, .int .i64 c.s.b, .int .i64 c.s.f.id, .int .i64 c.s.f.kind, .int .i64 c.s.f.lo, .int .i64 c.s.f.hi, .int .i64 c.s.f.most, .int .i64 c.s.v.n, .string c.s.v.s, .slice ta c.s.t.length tc, .slice la c.s.l.length lc, .int .i64 c.fi, .slice fa c.L.length fc, .bool c.kn, .int .i64 c.at_, .int .i64 c.old.id, .int .i64 c.old.kind, .int .i64 c.old.lo, .int .i64 c.old.hi, .int .i64 c.old.most] 58))).heap.size ((w.alloc (.cells #[.int .i64 c.s.op, .int .i64 c.s.fm, .int .i64 c.s.fd, .int .i64 c.s.pl, .int .i64 c.s.tt, .int .i64 c.s.a, .int .i64 c.s.b, .int .i64 c.s.f.id, .int .i64 c.s.f.kind, .int .i64 c.s.f.lo, .int .i64 c.s.f.hi, .int .i64 c.s.f.most, .int .i64 c.s.v.n, .string c.s.v.s, .slice ta c.s.t.length tc, .slice la c.s.l.length lc, .int .i64 c.fi, .slice fa c.L.length fc, .bool c.kn, .int .i64 c.at_, .int .i64 c.old.id, .int .i64 c.old.kind, .int .i64 c.old.lo, .int .i64 c.old.hi, .int .i64 c.old.most] 58))) w' → w'.rangeAt w.heap.size 0 [.int .i64 c.s.op, .int .i64 c.s.fm, .int .i64 c.s.fd, .int .i64 c.s.pl, .int .i64 c.s.tt, .int .i64 c.s.a, .int .i64 c.s.b, .int .i64 c.s.f.id, .int .i64 c.s.f.kind, .int .i64 c.s.f.lo, .int .i64 c.s.f.hi, .int .i64 c.s.f.most, .int .i64 c.s.v.n, .string c.s.v.s, .slice ta c.s.t.length tc, .slice la c.s.l.length lc, .int .i64 c.fi, .slice fa c.L.length fc, .bool c.kn, .int .i64 c.at_, .int .i64 c.old.id, .int .i64 c.old.kind, .int .i64 c.old.lo, .int .i64 c.old.hi, .int .i64 c.old.most]) := hid (fun w' hb => ((Block.new w _ _).later hb).whole)
        have HI : Hid ((Try.prog.info? 58).map (·.size) = some ([.int .i64 c.s.op, .int .i64 c.s.fm, .int .i64 c.s.fd, .int .i64 c.s.pl, .int .i64 c.s.tt, .int .i64 c.s.a, .int .i64 c.s.b, .int .i64 c.s.f.id, .int .i64 c.s.f.kind, .int .i64 c.s.f.lo, .int .i64 c.s.f.hi, .int .i64 c.s.f.most, .int .i64 c.s.v.n, .string c.s.v.s, .slice ta c.s.t.length tc, .slice la c.s.l.length lc, .int .i64 c.fi, .slice fa c.L.length fc, .bool c.kn, .int .i64 c.at_, .int .i64 c.old.id, .int .i64 c.old.kind, .int .i64 c.old.lo, .int .i64 c.old.hi, .int .i64 c.old.most] : List Value).length) := hid ch_info
        have hsp : suits c = decide (c.old.kind = 1 ∧ -1099511627776 ≤ low c ∧ high c ≤ 1099511627776) := by unfold suits; simp [*]
        have HSP := hid hsp
        clear hb4 hsp
        clear h2 h3 h4
        have HBX := hid (fun w' (hb : Below ((w.alloc (.cells #[.int .i64 c.s.op, .int .i64 c.s.fm, .int .i64 c.s.fd, .int .i64 c.s.pl, .int .i64 c.s.tt, .int .i64 c.s.a, .int .i64 c.s.b, .int .i64 c.s.f.id, .int .i64 c.s.f.kind, .int .i64 c.s.f.lo, .int .i64 c.s.f.hi, .int .i64 c.s.f.most, .int .i64 c.s.v.n, .string c.s.v.s, .slice ta c.s.t.length tc, .slice la c.s.l.length lc, .int .i64 c.fi, .slice fa c.L.length fc, .bool c.kn, .int .i64 c.at_, .int .i64 c.old.id, .int .i64 c.old.kind, .int .i64 c.old.lo, .int .i64 c.old.hi, .int .i64 c.old.most] 58))).heap.size ((w.alloc (.cells #[.int .i64 c.s.op, .int .i64 c.s.fm, .int .i64 c.s.fd, .int .i64 c.s.pl, .int .i64 c.s.tt, .int .i64 c.s.a, .int .i64 c.s.b, .int .i64 c.s.f.id, .int .i64 c.s.f.kind, .int .i64 c.s.f.lo, .int .i64 c.s.f.hi, .int .i64 c.s.f.most, .int .i64 c.s.v.n, .string c.s.v.s, .slice ta c.s.t.length tc, .slice la c.s.l.length lc, .int .i64 c.fi, .slice fa c.L.length fc, .bool c.kn, .int .i64 c.at_, .int .i64 c.old.id, .int .i64 c.old.kind, .int .i64 c.old.lo, .int .i64 c.old.hi, .int .i64 c.old.most] 58))) w') => ((Block.new w 58 [.int .i64 c.s.op, .int .i64 c.s.fm, .int .i64 c.s.fd, .int .i64 c.s.pl, .int .i64 c.s.tt, .int .i64 c.s.a, .int .i64 c.s.b, .int .i64 c.s.f.id, .int .i64 c.s.f.kind, .int .i64 c.s.f.lo, .int .i64 c.s.f.hi, .int .i64 c.s.f.most, .int .i64 c.s.v.n, .string c.s.v.s, .slice ta c.s.t.length tc, .slice la c.s.l.length lc, .int .i64 c.fi, .slice fa c.L.length fc, .bool c.kn, .int .i64 c.at_, .int .i64 c.old.id, .int .i64 c.old.kind, .int .i64 c.old.lo, .int .i64 c.old.hi, .int .i64 c.old.most]).later hb).cell 21)
        have HBO := hid (fun w' (hb : Below ((w.alloc (.cells #[.int .i64 c.s.op, .int .i64 c.s.fm, .int .i64 c.s.fd, .int .i64 c.s.pl, .int .i64 c.s.tt, .int .i64 c.s.a, .int .i64 c.s.b, .int .i64 c.s.f.id, .int .i64 c.s.f.kind, .int .i64 c.s.f.lo, .int .i64 c.s.f.hi, .int .i64 c.s.f.most, .int .i64 c.s.v.n, .string c.s.v.s, .slice ta c.s.t.length tc, .slice la c.s.l.length lc, .int .i64 c.fi, .slice fa c.L.length fc, .bool c.kn, .int .i64 c.at_, .int .i64 c.old.id, .int .i64 c.old.kind, .int .i64 c.old.lo, .int .i64 c.old.hi, .int .i64 c.old.most] 58))).heap.size ((w.alloc (.cells #[.int .i64 c.s.op, .int .i64 c.s.fm, .int .i64 c.s.fd, .int .i64 c.s.pl, .int .i64 c.s.tt, .int .i64 c.s.a, .int .i64 c.s.b, .int .i64 c.s.f.id, .int .i64 c.s.f.kind, .int .i64 c.s.f.lo, .int .i64 c.s.f.hi, .int .i64 c.s.f.most, .int .i64 c.s.v.n, .string c.s.v.s, .slice ta c.s.t.length tc, .slice la c.s.l.length lc, .int .i64 c.fi, .slice fa c.L.length fc, .bool c.kn, .int .i64 c.at_, .int .i64 c.old.id, .int .i64 c.old.kind, .int .i64 c.old.lo, .int .i64 c.old.hi, .int .i64 c.old.most] 58))) w') => below_out hb)
        generalize low c = K1 at *
        generalize high c = K2 at *
        by_cases hk : c.old.kind = 1
        · by_cases hl : -1099511627776 ≤ K1
          · by_cases hh : K2 ≤ 1099511627776
            · obtain rfl : true = r := by rw [← hr.out, HSP.out]; simp [*]
              have dk := bt hk
              have dl : decide (K1 ≥ -1099511627776) = true := decide_eq_true hl
              have dh : decide (K2 ≤ 1099511627776) = true := decide_eq_true hh
              clear hk hl hh
              go_enter Try.func45, Try.ntmps45
              go_wp2_with ((first
                | (with_reducible refine wpList_load_mid rfl 58 (.tmp 1) rfl w.heap.size 0 rfl [.int .i64 c.s.op, .int .i64 c.s.fm, .int .i64 c.s.fd, .int .i64 c.s.pl, .int .i64 c.s.tt, .int .i64 c.s.a, .int .i64 c.s.b, .int .i64 c.s.f.id, .int .i64 c.s.f.kind, .int .i64 c.s.f.lo, .int .i64 c.s.f.hi, .int .i64 c.s.f.most, .int .i64 c.s.v.n, .string c.s.v.s, .slice ta c.s.t.length tc, .slice la c.s.l.length lc, .int .i64 c.fi, .slice fa c.L.length fc, .bool c.kn, .int .i64 c.at_, .int .i64 c.old.id, .int .i64 c.old.kind, .int .i64 c.old.lo, .int .i64 c.old.hi, .int .i64 c.old.most] _ (HRG.out _ (Below.refl _ _)) Try.underlying58 rfl HI.out ?_)
                | (go_at_call 80; ((with_reducible refine cS.mono ?_); rintro e w1 ⟨rfl, hb1⟩; have z21 := HBX.out _ hb1))))
              go_ret
              exact ⟨rfl, HBO.out _ hb1⟩
            · obtain rfl : false = r := by rw [← hr.out, HSP.out]; simp [*]
              have dk := bt hk
              have dl : decide (K1 ≥ -1099511627776) = true := decide_eq_true hl
              have dh : decide (K2 ≤ 1099511627776) = false := decide_eq_false hh
              clear hk hl hh
              go_enter Try.func45, Try.ntmps45
              go_wp2_with ((first
                | (with_reducible refine wpList_load_mid rfl 58 (.tmp 1) rfl w.heap.size 0 rfl [.int .i64 c.s.op, .int .i64 c.s.fm, .int .i64 c.s.fd, .int .i64 c.s.pl, .int .i64 c.s.tt, .int .i64 c.s.a, .int .i64 c.s.b, .int .i64 c.s.f.id, .int .i64 c.s.f.kind, .int .i64 c.s.f.lo, .int .i64 c.s.f.hi, .int .i64 c.s.f.most, .int .i64 c.s.v.n, .string c.s.v.s, .slice ta c.s.t.length tc, .slice la c.s.l.length lc, .int .i64 c.fi, .slice fa c.L.length fc, .bool c.kn, .int .i64 c.at_, .int .i64 c.old.id, .int .i64 c.old.kind, .int .i64 c.old.lo, .int .i64 c.old.hi, .int .i64 c.old.most] _ (HRG.out _ (Below.refl _ _)) Try.underlying58 rfl HI.out ?_)
                | (go_at_call 80; ((with_reducible refine cS.mono ?_); rintro e w1 ⟨rfl, hb1⟩; have z21 := HBX.out _ hb1))))
              go_ret
              exact ⟨rfl, HBO.out _ hb1⟩
          · obtain rfl : false = r := by rw [← hr.out, HSP.out]; simp [*]
            have dk := bt hk
            have dl : decide (K1 ≥ -1099511627776) = false := decide_eq_false hl
            clear hk hl
            go_enter Try.func45, Try.ntmps45
            go_wp2_with ((first
              | (with_reducible refine wpList_load_mid rfl 58 (.tmp 1) rfl w.heap.size 0 rfl [.int .i64 c.s.op, .int .i64 c.s.fm, .int .i64 c.s.fd, .int .i64 c.s.pl, .int .i64 c.s.tt, .int .i64 c.s.a, .int .i64 c.s.b, .int .i64 c.s.f.id, .int .i64 c.s.f.kind, .int .i64 c.s.f.lo, .int .i64 c.s.f.hi, .int .i64 c.s.f.most, .int .i64 c.s.v.n, .string c.s.v.s, .slice ta c.s.t.length tc, .slice la c.s.l.length lc, .int .i64 c.fi, .slice fa c.L.length fc, .bool c.kn, .int .i64 c.at_, .int .i64 c.old.id, .int .i64 c.old.kind, .int .i64 c.old.lo, .int .i64 c.old.hi, .int .i64 c.old.most] _ (HRG.out _ (Below.refl _ _)) Try.underlying58 rfl HI.out ?_)
              | (go_at_call 80; ((with_reducible refine cS.mono ?_); rintro e w1 ⟨rfl, hb1⟩; have z21 := HBX.out _ hb1))))
            go_ret
            exact ⟨rfl, HBO.out _ hb1⟩
        · obtain rfl : false = r := by rw [← hr.out, HSP.out]; simp [*]
          have dk := bf hk
          clear hk
          go_enter Try.func45, Try.ntmps45
          go_wp2_with ((first
            | (with_reducible refine wpList_load_mid rfl 58 (.tmp 1) rfl w.heap.size 0 rfl [.int .i64 c.s.op, .int .i64 c.s.fm, .int .i64 c.s.fd, .int .i64 c.s.pl, .int .i64 c.s.tt, .int .i64 c.s.a, .int .i64 c.s.b, .int .i64 c.s.f.id, .int .i64 c.s.f.kind, .int .i64 c.s.f.lo, .int .i64 c.s.f.hi, .int .i64 c.s.f.most, .int .i64 c.s.v.n, .string c.s.v.s, .slice ta c.s.t.length tc, .slice la c.s.l.length lc, .int .i64 c.fi, .slice fa c.L.length fc, .bool c.kn, .int .i64 c.at_, .int .i64 c.old.id, .int .i64 c.old.kind, .int .i64 c.old.lo, .int .i64 c.old.hi, .int .i64 c.old.most] _ (HRG.out _ (Below.refl _ _)) Try.underlying58 rfl HI.out ?_)
            | (go_at_call 80; ((with_reducible refine cS.mono ?_); rintro e w1 ⟨rfl, hb1⟩; have z21 := HBX.out _ hb1))))
          go_ret
          exact ⟨rfl, HBO.out _ hb1⟩
      · have d4 := bf h4
        by_cases h5 : c.s.op = 5
        · have d5 := bt h5
          have hsp : suits c = decide (c.old.kind = 3 ∧ c.old.most = c.s.t.length) := by unfold suits; simp [*]
          have HSP := hid hsp
          clear hb4 hsp
          clear h2 h3 h4 h5
          by_cases hk : c.old.kind = 3
          · have dk := bt hk
            by_cases hm : c.old.most = c.s.t.length
            · have dm := bt hm
              obtain rfl : true = r := by rw [← hr.out, HSP.out]; simp [*]
              clear hk hm
              go_enter Try.func45, Try.ntmps45
              go_wp2
              go_ret
              exact ⟨rfl, HN.out⟩
            · have dm := bf hm
              obtain rfl : false = r := by rw [← hr.out, HSP.out]; simp [*]
              clear hk hm
              go_enter Try.func45, Try.ntmps45
              go_wp2
              go_ret
              exact ⟨rfl, HN.out⟩
          · have dk := bf hk
            obtain rfl : false = r := by rw [← hr.out, HSP.out]; simp [*]
            clear hk
            go_enter Try.func45, Try.ntmps45
            go_wp2
            go_ret
            exact ⟨rfl, HN.out⟩
        · have d5 := bf h5
          by_cases h6 : c.s.op = 6
          · have d6 := bt h6
            have hsp : suits c = decide (c.old.kind = 1 ∧ c.old.lo = 0) := by unfold suits; simp [*]
            have HSP := hid hsp
            clear hb4 hsp
            clear h2 h3 h4 h5 h6
            by_cases hk : c.old.kind = 1
            · have dk := bt hk
              by_cases hm : c.old.lo = 0
              · have dm := bt hm
                obtain rfl : true = r := by rw [← hr.out, HSP.out]; simp [*]
                clear hk hm
                go_enter Try.func45, Try.ntmps45
                go_wp2
                go_ret
                exact ⟨rfl, HN.out⟩
              · have dm := bf hm
                obtain rfl : false = r := by rw [← hr.out, HSP.out]; simp [*]
                clear hk hm
                go_enter Try.func45, Try.ntmps45
                go_wp2
                go_ret
                exact ⟨rfl, HN.out⟩
            · have dk := bf hk
              obtain rfl : false = r := by rw [← hr.out, HSP.out]; simp [*]
              clear hk
              go_enter Try.func45, Try.ntmps45
              go_wp2
              go_ret
              exact ⟨rfl, HN.out⟩
          · have d6 := bf h6
            obtain rfl : true = r := by rw [← hr.out]; unfold suits; simp [*]
            clear h2 h3 h4 h5 h6
            clear hb4
            go_enter Try.func45, Try.ntmps45
            go_wp2
            go_ret
            exact ⟨rfl, HN.out⟩
set_option maxRecDepth 20000 in
theorem check_any (c : Ch) (ta : Option Addr) (tc : Nat) (la : Option Addr) (lc : Nat) (fa : Option Addr) (fc : Nat) (w : World) (h : field.Fds w fa c.L) (hL : c.L.length ≤ 40) (hb4 : c.s.op = 4 → Bd c) :
    Calls Try.prog 21 #[.agg #[.int .i64 c.s.op, .int .i64 c.s.fm, .int .i64 c.s.fd, .int .i64 c.s.pl, .int .i64 c.s.tt, .int .i64 c.s.a, .int .i64 c.s.b, .int .i64 c.s.f.id, .int .i64 c.s.f.kind, .int .i64 c.s.f.lo, .int .i64 c.s.f.hi, .int .i64 c.s.f.most, .int .i64 c.s.v.n, .string c.s.v.s, .slice ta c.s.t.length tc, .slice la c.s.l.length lc, .int .i64 c.fi, .slice fa c.L.length fc, .bool c.kn, .int .i64 c.at_, .int .i64 c.old.id, .int .i64 c.old.kind, .int .i64 c.old.lo, .int .i64 c.old.hi, .int .i64 c.old.most]] w (Gives (.int .i64 (err c : Nat)) w) := by
  have HN := hid (newB w (.cells #[.int .i64 c.s.op, .int .i64 c.s.fm, .int .i64 c.s.fd, .int .i64 c.s.pl, .int .i64 c.s.tt, .int .i64 c.s.a, .int .i64 c.s.b, .int .i64 c.s.f.id, .int .i64 c.s.f.kind, .int .i64 c.s.f.lo, .int .i64 c.s.f.hi, .int .i64 c.s.f.most, .int .i64 c.s.v.n, .string c.s.v.s, .slice ta c.s.t.length tc, .slice la c.s.l.length lc, .int .i64 c.fi, .slice fa c.L.length fc, .bool c.kn, .int .i64 c.at_, .int .i64 c.old.id, .int .i64 c.old.kind, .int .i64 c.old.lo, .int .i64 c.old.hi, .int .i64 c.old.most] 58))
  have hmx : c.L.length ≤ maxLen := by unfold maxLen; omega
  have hh := h.below HN.out
  obtain ⟨r, hr⟩ : ∃ r : Nat, Hid (err c = r) := ⟨_, rfl⟩
  rw [hr.out]
  have HER : Hid (err c = if found c = false then 8 else if twice c = true then 9 else if beyond c = true then 3 else if suits c = false then 17 else 0) := hid rfl
  have c1 := fun (w' : World) (hb : Below ((w.alloc (.cells #[.int .i64 c.s.op, .int .i64 c.s.fm, .int .i64 c.s.fd, .int .i64 c.s.pl, .int .i64 c.s.tt, .int .i64 c.s.a, .int .i64 c.s.b, .int .i64 c.s.f.id, .int .i64 c.s.f.kind, .int .i64 c.s.f.lo, .int .i64 c.s.f.hi, .int .i64 c.s.f.most, .int .i64 c.s.v.n, .string c.s.v.s, .slice ta c.s.t.length tc, .slice la c.s.l.length lc, .int .i64 c.fi, .slice fa c.L.length fc, .bool c.kn, .int .i64 c.at_, .int .i64 c.old.id, .int .i64 c.old.kind, .int .i64 c.old.lo, .int .i64 c.old.hi, .int .i64 c.old.most] 58))).heap.size ((w.alloc (.cells #[.int .i64 c.s.op, .int .i64 c.s.fm, .int .i64 c.s.fd, .int .i64 c.s.pl, .int .i64 c.s.tt, .int .i64 c.s.a, .int .i64 c.s.b, .int .i64 c.s.f.id, .int .i64 c.s.f.kind, .int .i64 c.s.f.lo, .int .i64 c.s.f.hi, .int .i64 c.s.f.most, .int .i64 c.s.v.n, .string c.s.v.s, .slice ta c.s.t.length tc, .slice la c.s.l.length lc, .int .i64 c.fi, .slice fa c.L.length fc, .bool c.kn, .int .i64 c.at_, .int .i64 c.old.id, .int .i64 c.old.kind, .int .i64 c.old.lo, .int .i64 c.old.hi, .int .i64 c.old.most] 58))) w') => gives_from (found_any c ta tc la lc fa fc w') hb
  have c2 := fun (w' : World) (hb : Below ((w.alloc (.cells #[.int .i64 c.s.op, .int .i64 c.s.fm, .int .i64 c.s.fd, .int .i64 c.s.pl, .int .i64 c.s.tt, .int .i64 c.s.a, .int .i64 c.s.b, .int .i64 c.s.f.id, .int .i64 c.s.f.kind, .int .i64 c.s.f.lo, .int .i64 c.s.f.hi, .int .i64 c.s.f.most, .int .i64 c.s.v.n, .string c.s.v.s, .slice ta c.s.t.length tc, .slice la c.s.l.length lc, .int .i64 c.fi, .slice fa c.L.length fc, .bool c.kn, .int .i64 c.at_, .int .i64 c.old.id, .int .i64 c.old.kind, .int .i64 c.old.lo, .int .i64 c.old.hi, .int .i64 c.old.most] 58))).heap.size ((w.alloc (.cells #[.int .i64 c.s.op, .int .i64 c.s.fm, .int .i64 c.s.fd, .int .i64 c.s.pl, .int .i64 c.s.tt, .int .i64 c.s.a, .int .i64 c.s.b, .int .i64 c.s.f.id, .int .i64 c.s.f.kind, .int .i64 c.s.f.lo, .int .i64 c.s.f.hi, .int .i64 c.s.f.most, .int .i64 c.s.v.n, .string c.s.v.s, .slice ta c.s.t.length tc, .slice la c.s.l.length lc, .int .i64 c.fi, .slice fa c.L.length fc, .bool c.kn, .int .i64 c.at_, .int .i64 c.old.id, .int .i64 c.old.kind, .int .i64 c.old.lo, .int .i64 c.old.hi, .int .i64 c.old.most] 58))) w') => gives_from (twice_any c ta tc la lc fa fc w' (hh.below hb) hmx) hb
  have c3 := fun (w' : World) (hb : Below ((w.alloc (.cells #[.int .i64 c.s.op, .int .i64 c.s.fm, .int .i64 c.s.fd, .int .i64 c.s.pl, .int .i64 c.s.tt, .int .i64 c.s.a, .int .i64 c.s.b, .int .i64 c.s.f.id, .int .i64 c.s.f.kind, .int .i64 c.s.f.lo, .int .i64 c.s.f.hi, .int .i64 c.s.f.most, .int .i64 c.s.v.n, .string c.s.v.s, .slice ta c.s.t.length tc, .slice la c.s.l.length lc, .int .i64 c.fi, .slice fa c.L.length fc, .bool c.kn, .int .i64 c.at_, .int .i64 c.old.id, .int .i64 c.old.kind, .int .i64 c.old.lo, .int .i64 c.old.hi, .int .i64 c.old.most] 58))).heap.size ((w.alloc (.cells #[.int .i64 c.s.op, .int .i64 c.s.fm, .int .i64 c.s.fd, .int .i64 c.s.pl, .int .i64 c.s.tt, .int .i64 c.s.a, .int .i64 c.s.b, .int .i64 c.s.f.id, .int .i64 c.s.f.kind, .int .i64 c.s.f.lo, .int .i64 c.s.f.hi, .int .i64 c.s.f.most, .int .i64 c.s.v.n, .string c.s.v.s, .slice ta c.s.t.length tc, .slice la c.s.l.length lc, .int .i64 c.fi, .slice fa c.L.length fc, .bool c.kn, .int .i64 c.at_, .int .i64 c.old.id, .int .i64 c.old.kind, .int .i64 c.old.lo, .int .i64 c.old.hi, .int .i64 c.old.most] 58))) w') => gives_from (beyond_any c ta tc la lc fa fc w' hL) hb
  have c4 := fun (w' : World) (hb : Below ((w.alloc (.cells #[.int .i64 c.s.op, .int .i64 c.s.fm, .int .i64 c.s.fd, .int .i64 c.s.pl, .int .i64 c.s.tt, .int .i64 c.s.a, .int .i64 c.s.b, .int .i64 c.s.f.id, .int .i64 c.s.f.kind, .int .i64 c.s.f.lo, .int .i64 c.s.f.hi, .int .i64 c.s.f.most, .int .i64 c.s.v.n, .string c.s.v.s, .slice ta c.s.t.length tc, .slice la c.s.l.length lc, .int .i64 c.fi, .slice fa c.L.length fc, .bool c.kn, .int .i64 c.at_, .int .i64 c.old.id, .int .i64 c.old.kind, .int .i64 c.old.lo, .int .i64 c.old.hi, .int .i64 c.old.most] 58))).heap.size ((w.alloc (.cells #[.int .i64 c.s.op, .int .i64 c.s.fm, .int .i64 c.s.fd, .int .i64 c.s.pl, .int .i64 c.s.tt, .int .i64 c.s.a, .int .i64 c.s.b, .int .i64 c.s.f.id, .int .i64 c.s.f.kind, .int .i64 c.s.f.lo, .int .i64 c.s.f.hi, .int .i64 c.s.f.most, .int .i64 c.s.v.n, .string c.s.v.s, .slice ta c.s.t.length tc, .slice la c.s.l.length lc, .int .i64 c.fi, .slice fa c.L.length fc, .bool c.kn, .int .i64 c.at_, .int .i64 c.old.id, .int .i64 c.old.kind, .int .i64 c.old.lo, .int .i64 c.old.hi, .int .i64 c.old.most] 58))) w') => gives_from (suits_any c ta tc la lc fa fc w' hb4) hb
  have HRG : Hid (∀ w', Below ((w.alloc (.cells #[.int .i64 c.s.op, .int .i64 c.s.fm, .int .i64 c.s.fd, .int .i64 c.s.pl, .int .i64 c.s.tt, .int .i64 c.s.a, .int .i64 c.s.b, .int .i64 c.s.f.id, .int .i64 c.s.f.kind, .int .i64 c.s.f.lo, .int .i64 c.s.f.hi, .int .i64 c.s.f.most, .int .i64 c.s.v.n, .string c.s.v.s, .slice ta c.s.t.length tc, .slice la c.s.l.length lc, .int .i64 c.fi, .slice fa c.L.length fc, .bool c.kn, .int .i64 c.at_, .int .i64 c.old.id, .int .i64 c.old.kind, .int .i64 c.old.lo, .int .i64 c.old.hi, .int .i64 c.old.most] 58))).heap.size ((w.alloc (.cells #[.int .i64 c.s.op, .int .i64 c.s.fm, .int .i64 c.s.fd, .int .i64 c.s.pl, .int .i64 c.s.tt, .int .i64 c.s.a, .int .i64 c.s.b, .int .i64 c.s.f.id, .int .i64 c.s.f.kind, .int .i64 c.s.f.lo, .int .i64 c.s.f.hi, .int .i64 c.s.f.most, .int .i64 c.s.v.n, .string c.s.v.s, .slice ta c.s.t.length tc, .slice la c.s.l.length lc, .int .i64 c.fi, .slice fa c.L.length fc, .bool c.kn, .int .i64 c.at_, .int .i64 c.old.id, .int .i64 c.old.kind, .int .i64 c.old.lo, .int .i64 c.old.hi, .int .i64 c.old.most] 58))) w' → w'.rangeAt w.heap.size 0 [.int .i64 c.s.op, .int .i64 c.s.fm, .int .i64 c.s.fd, .int .i64 c.s.pl, .int .i64 c.s.tt, .int .i64 c.s.a, .int .i64 c.s.b, .int .i64 c.s.f.id, .int .i64 c.s.f.kind, .int .i64 c.s.f.lo, .int .i64 c.s.f.hi, .int .i64 c.s.f.most, .int .i64 c.s.v.n, .string c.s.v.s, .slice ta c.s.t.length tc, .slice la c.s.l.length lc, .int .i64 c.fi, .slice fa c.L.length fc, .bool c.kn, .int .i64 c.at_, .int .i64 c.old.id, .int .i64 c.old.kind, .int .i64 c.old.lo, .int .i64 c.old.hi, .int .i64 c.old.most]) := hid (fun w' hb => ((Block.new w _ _).later hb).whole)
  have HI : Hid ((Try.prog.info? 58).map (·.size) = some ([.int .i64 c.s.op, .int .i64 c.s.fm, .int .i64 c.s.fd, .int .i64 c.s.pl, .int .i64 c.s.tt, .int .i64 c.s.a, .int .i64 c.s.b, .int .i64 c.s.f.id, .int .i64 c.s.f.kind, .int .i64 c.s.f.lo, .int .i64 c.s.f.hi, .int .i64 c.s.f.most, .int .i64 c.s.v.n, .string c.s.v.s, .slice ta c.s.t.length tc, .slice la c.s.l.length lc, .int .i64 c.fi, .slice fa c.L.length fc, .bool c.kn, .int .i64 c.at_, .int .i64 c.old.id, .int .i64 c.old.kind, .int .i64 c.old.lo, .int .i64 c.old.hi, .int .i64 c.old.most] : List Value).length) := hid ch_info
  have HB0 := hid (Below.refl ((w.alloc (.cells #[.int .i64 c.s.op, .int .i64 c.s.fm, .int .i64 c.s.fd, .int .i64 c.s.pl, .int .i64 c.s.tt, .int .i64 c.s.a, .int .i64 c.s.b, .int .i64 c.s.f.id, .int .i64 c.s.f.kind, .int .i64 c.s.f.lo, .int .i64 c.s.f.hi, .int .i64 c.s.f.most, .int .i64 c.s.v.n, .string c.s.v.s, .slice ta c.s.t.length tc, .slice la c.s.l.length lc, .int .i64 c.fi, .slice fa c.L.length fc, .bool c.kn, .int .i64 c.at_, .int .i64 c.old.id, .int .i64 c.old.kind, .int .i64 c.old.lo, .int .i64 c.old.hi, .int .i64 c.old.most] 58))).heap.size ((w.alloc (.cells #[.int .i64 c.s.op, .int .i64 c.s.fm, .int .i64 c.s.fd, .int .i64 c.s.pl, .int .i64 c.s.tt, .int .i64 c.s.a, .int .i64 c.s.b, .int .i64 c.s.f.id, .int .i64 c.s.f.kind, .int .i64 c.s.f.lo, .int .i64 c.s.f.hi, .int .i64 c.s.f.most, .int .i64 c.s.v.n, .string c.s.v.s, .slice ta c.s.t.length tc, .slice la c.s.l.length lc, .int .i64 c.fi, .slice fa c.L.length fc, .bool c.kn, .int .i64 c.at_, .int .i64 c.old.id, .int .i64 c.old.kind, .int .i64 c.old.lo, .int .i64 c.old.hi, .int .i64 c.old.most] 58))))
  have HBO := hid (fun w' (hb : Below ((w.alloc (.cells #[.int .i64 c.s.op, .int .i64 c.s.fm, .int .i64 c.s.fd, .int .i64 c.s.pl, .int .i64 c.s.tt, .int .i64 c.s.a, .int .i64 c.s.b, .int .i64 c.s.f.id, .int .i64 c.s.f.kind, .int .i64 c.s.f.lo, .int .i64 c.s.f.hi, .int .i64 c.s.f.most, .int .i64 c.s.v.n, .string c.s.v.s, .slice ta c.s.t.length tc, .slice la c.s.l.length lc, .int .i64 c.fi, .slice fa c.L.length fc, .bool c.kn, .int .i64 c.at_, .int .i64 c.old.id, .int .i64 c.old.kind, .int .i64 c.old.lo, .int .i64 c.old.hi, .int .i64 c.old.most] 58))).heap.size ((w.alloc (.cells #[.int .i64 c.s.op, .int .i64 c.s.fm, .int .i64 c.s.fd, .int .i64 c.s.pl, .int .i64 c.s.tt, .int .i64 c.s.a, .int .i64 c.s.b, .int .i64 c.s.f.id, .int .i64 c.s.f.kind, .int .i64 c.s.f.lo, .int .i64 c.s.f.hi, .int .i64 c.s.f.most, .int .i64 c.s.v.n, .string c.s.v.s, .slice ta c.s.t.length tc, .slice la c.s.l.length lc, .int .i64 c.fi, .slice fa c.L.length fc, .bool c.kn, .int .i64 c.at_, .int .i64 c.old.id, .int .i64 c.old.kind, .int .i64 c.old.lo, .int .i64 c.old.hi, .int .i64 c.old.most] 58))) w') => below_out hb)
  unfold Gives
  clear h hh hL hb4 hmx
  by_cases e1 : found c = false
  · rw [e1] at c1
    obtain rfl : 8 = r := by rw [← hr.out, HER.out]; simp [*]
    clear e1
    go_enter Try.func21, Try.ntmps21
    go_wp2_with ((first
      | ((with_reducible refine wpList_load_mid rfl 58 (.tmp 1) rfl w.heap.size 0 rfl [.int .i64 c.s.op, .int .i64 c.s.fm, .int .i64 c.s.fd, .int .i64 c.s.pl, .int .i64 c.s.tt, .int .i64 c.s.a, .int .i64 c.s.b, .int .i64 c.s.f.id, .int .i64 c.s.f.kind, .int .i64 c.s.f.lo, .int .i64 c.s.f.hi, .int .i64 c.s.f.most, .int .i64 c.s.v.n, .string c.s.v.s, .slice ta c.s.t.length tc, .slice la c.s.l.length lc, .int .i64 c.fi, .slice fa c.L.length fc, .bool c.kn, .int .i64 c.at_, .int .i64 c.old.id, .int .i64 c.old.kind, .int .i64 c.old.lo, .int .i64 c.old.hi, .int .i64 c.old.most] _ (HRG.out _ HB0.out) Try.underlying58 rfl HI.out ?_))
      | (go_at_call 42; ((with_reducible refine (c1 _ HB0.out).mono ?_); rintro e w1 ⟨rfl, hb1⟩))))
    go_ret
    exact ⟨rfl, HBO.out _ hb1⟩
  · have f1 : found c = true := by simpa using e1
    rw [f1] at c1
    by_cases e2 : twice c = true
    · rw [e2] at c2
      obtain rfl : 9 = r := by rw [← hr.out, HER.out]; simp [*]
      clear e1 e2
      go_enter Try.func21, Try.ntmps21
      go_wp2_with ((first
        | ((with_reducible refine wpList_load_mid rfl 58 (.tmp 1) rfl w.heap.size 0 rfl [.int .i64 c.s.op, .int .i64 c.s.fm, .int .i64 c.s.fd, .int .i64 c.s.pl, .int .i64 c.s.tt, .int .i64 c.s.a, .int .i64 c.s.b, .int .i64 c.s.f.id, .int .i64 c.s.f.kind, .int .i64 c.s.f.lo, .int .i64 c.s.f.hi, .int .i64 c.s.f.most, .int .i64 c.s.v.n, .string c.s.v.s, .slice ta c.s.t.length tc, .slice la c.s.l.length lc, .int .i64 c.fi, .slice fa c.L.length fc, .bool c.kn, .int .i64 c.at_, .int .i64 c.old.id, .int .i64 c.old.kind, .int .i64 c.old.lo, .int .i64 c.old.hi, .int .i64 c.old.most] _ (HRG.out _ HB0.out) Try.underlying58 rfl HI.out ?_))
        | (go_at_call 42; ((with_reducible refine (c1 _ HB0.out).mono ?_); rintro e w1 ⟨rfl, hb1⟩))
        | ((with_reducible refine wpList_load_mid rfl 58 (.tmp 1) rfl w.heap.size 0 rfl [.int .i64 c.s.op, .int .i64 c.s.fm, .int .i64 c.s.fd, .int .i64 c.s.pl, .int .i64 c.s.tt, .int .i64 c.s.a, .int .i64 c.s.b, .int .i64 c.s.f.id, .int .i64 c.s.f.kind, .int .i64 c.s.f.lo, .int .i64 c.s.f.hi, .int .i64 c.s.f.most, .int .i64 c.s.v.n, .string c.s.v.s, .slice ta c.s.t.length tc, .slice la c.s.l.length lc, .int .i64 c.fi, .slice fa c.L.length fc, .bool c.kn, .int .i64 c.at_, .int .i64 c.old.id, .int .i64 c.old.kind, .int .i64 c.old.lo, .int .i64 c.old.hi, .int .i64 c.old.most] _ (HRG.out _ hb1) Try.underlying58 rfl HI.out ?_))
        | (go_at_call 43; ((with_reducible refine (c2 _ hb1).mono ?_); rintro e w2 ⟨rfl, hb2⟩))))
      go_ret
      exact ⟨rfl, HBO.out _ hb2⟩
    · have f2 : twice c = false := by simpa using e2
      rw [f2] at c2
      by_cases e3 : beyond c = true
      · rw [e3] at c3
        obtain rfl : 3 = r := by rw [← hr.out, HER.out]; simp [*]
        clear e1 e2 e3
        go_enter Try.func21, Try.ntmps21
        go_wp2_with ((first
          | ((with_reducible refine wpList_load_mid rfl 58 (.tmp 1) rfl w.heap.size 0 rfl [.int .i64 c.s.op, .int .i64 c.s.fm, .int .i64 c.s.fd, .int .i64 c.s.pl, .int .i64 c.s.tt, .int .i64 c.s.a, .int .i64 c.s.b, .int .i64 c.s.f.id, .int .i64 c.s.f.kind, .int .i64 c.s.f.lo, .int .i64 c.s.f.hi, .int .i64 c.s.f.most, .int .i64 c.s.v.n, .string c.s.v.s, .slice ta c.s.t.length tc, .slice la c.s.l.length lc, .int .i64 c.fi, .slice fa c.L.length fc, .bool c.kn, .int .i64 c.at_, .int .i64 c.old.id, .int .i64 c.old.kind, .int .i64 c.old.lo, .int .i64 c.old.hi, .int .i64 c.old.most] _ (HRG.out _ HB0.out) Try.underlying58 rfl HI.out ?_))
          | (go_at_call 42; ((with_reducible refine (c1 _ HB0.out).mono ?_); rintro e w1 ⟨rfl, hb1⟩))
          | ((with_reducible refine wpList_load_mid rfl 58 (.tmp 1) rfl w.heap.size 0 rfl [.int .i64 c.s.op, .int .i64 c.s.fm, .int .i64 c.s.fd, .int .i64 c.s.pl, .int .i64 c.s.tt, .int .i64 c.s.a, .int .i64 c.s.b, .int .i64 c.s.f.id, .int .i64 c.s.f.kind, .int .i64 c.s.f.lo, .int .i64 c.s.f.hi, .int .i64 c.s.f.most, .int .i64 c.s.v.n, .string c.s.v.s, .slice ta c.s.t.length tc, .slice la c.s.l.length lc, .int .i64 c.fi, .slice fa c.L.length fc, .bool c.kn, .int .i64 c.at_, .int .i64 c.old.id, .int .i64 c.old.kind, .int .i64 c.old.lo, .int .i64 c.old.hi, .int .i64 c.old.most] _ (HRG.out _ hb1) Try.underlying58 rfl HI.out ?_))
          | (go_at_call 43; ((with_reducible refine (c2 _ hb1).mono ?_); rintro e w2 ⟨rfl, hb2⟩))
          | ((with_reducible refine wpList_load_mid rfl 58 (.tmp 1) rfl w.heap.size 0 rfl [.int .i64 c.s.op, .int .i64 c.s.fm, .int .i64 c.s.fd, .int .i64 c.s.pl, .int .i64 c.s.tt, .int .i64 c.s.a, .int .i64 c.s.b, .int .i64 c.s.f.id, .int .i64 c.s.f.kind, .int .i64 c.s.f.lo, .int .i64 c.s.f.hi, .int .i64 c.s.f.most, .int .i64 c.s.v.n, .string c.s.v.s, .slice ta c.s.t.length tc, .slice la c.s.l.length lc, .int .i64 c.fi, .slice fa c.L.length fc, .bool c.kn, .int .i64 c.at_, .int .i64 c.old.id, .int .i64 c.old.kind, .int .i64 c.old.lo, .int .i64 c.old.hi, .int .i64 c.old.most] _ (HRG.out _ hb2) Try.underlying58 rfl HI.out ?_))
          | (go_at_call 44; ((with_reducible refine (c3 _ hb2).mono ?_); rintro e w3 ⟨rfl, hb3⟩))))
        go_ret
        exact ⟨rfl, HBO.out _ hb3⟩
      · have f3 : beyond c = false := by simpa using e3
        rw [f3] at c3
        by_cases e4 : suits c = false
        · rw [e4] at c4
          obtain rfl : 17 = r := by rw [← hr.out, HER.out]; simp [*]
          clear e1 e2 e3 e4
          go_enter Try.func21, Try.ntmps21
          go_wp2_with ((first
            | ((with_reducible refine wpList_load_mid rfl 58 (.tmp 1) rfl w.heap.size 0 rfl [.int .i64 c.s.op, .int .i64 c.s.fm, .int .i64 c.s.fd, .int .i64 c.s.pl, .int .i64 c.s.tt, .int .i64 c.s.a, .int .i64 c.s.b, .int .i64 c.s.f.id, .int .i64 c.s.f.kind, .int .i64 c.s.f.lo, .int .i64 c.s.f.hi, .int .i64 c.s.f.most, .int .i64 c.s.v.n, .string c.s.v.s, .slice ta c.s.t.length tc, .slice la c.s.l.length lc, .int .i64 c.fi, .slice fa c.L.length fc, .bool c.kn, .int .i64 c.at_, .int .i64 c.old.id, .int .i64 c.old.kind, .int .i64 c.old.lo, .int .i64 c.old.hi, .int .i64 c.old.most] _ (HRG.out _ HB0.out) Try.underlying58 rfl HI.out ?_))
            | (go_at_call 42; ((with_reducible refine (c1 _ HB0.out).mono ?_); rintro e w1 ⟨rfl, hb1⟩))
            | ((with_reducible refine wpList_load_mid rfl 58 (.tmp 1) rfl w.heap.size 0 rfl [.int .i64 c.s.op, .int .i64 c.s.fm, .int .i64 c.s.fd, .int .i64 c.s.pl, .int .i64 c.s.tt, .int .i64 c.s.a, .int .i64 c.s.b, .int .i64 c.s.f.id, .int .i64 c.s.f.kind, .int .i64 c.s.f.lo, .int .i64 c.s.f.hi, .int .i64 c.s.f.most, .int .i64 c.s.v.n, .string c.s.v.s, .slice ta c.s.t.length tc, .slice la c.s.l.length lc, .int .i64 c.fi, .slice fa c.L.length fc, .bool c.kn, .int .i64 c.at_, .int .i64 c.old.id, .int .i64 c.old.kind, .int .i64 c.old.lo, .int .i64 c.old.hi, .int .i64 c.old.most] _ (HRG.out _ hb1) Try.underlying58 rfl HI.out ?_))
            | (go_at_call 43; ((with_reducible refine (c2 _ hb1).mono ?_); rintro e w2 ⟨rfl, hb2⟩))
            | ((with_reducible refine wpList_load_mid rfl 58 (.tmp 1) rfl w.heap.size 0 rfl [.int .i64 c.s.op, .int .i64 c.s.fm, .int .i64 c.s.fd, .int .i64 c.s.pl, .int .i64 c.s.tt, .int .i64 c.s.a, .int .i64 c.s.b, .int .i64 c.s.f.id, .int .i64 c.s.f.kind, .int .i64 c.s.f.lo, .int .i64 c.s.f.hi, .int .i64 c.s.f.most, .int .i64 c.s.v.n, .string c.s.v.s, .slice ta c.s.t.length tc, .slice la c.s.l.length lc, .int .i64 c.fi, .slice fa c.L.length fc, .bool c.kn, .int .i64 c.at_, .int .i64 c.old.id, .int .i64 c.old.kind, .int .i64 c.old.lo, .int .i64 c.old.hi, .int .i64 c.old.most] _ (HRG.out _ hb2) Try.underlying58 rfl HI.out ?_))
            | (go_at_call 44; ((with_reducible refine (c3 _ hb2).mono ?_); rintro e w3 ⟨rfl, hb3⟩))
            | ((with_reducible refine wpList_load_mid rfl 58 (.tmp 1) rfl w.heap.size 0 rfl [.int .i64 c.s.op, .int .i64 c.s.fm, .int .i64 c.s.fd, .int .i64 c.s.pl, .int .i64 c.s.tt, .int .i64 c.s.a, .int .i64 c.s.b, .int .i64 c.s.f.id, .int .i64 c.s.f.kind, .int .i64 c.s.f.lo, .int .i64 c.s.f.hi, .int .i64 c.s.f.most, .int .i64 c.s.v.n, .string c.s.v.s, .slice ta c.s.t.length tc, .slice la c.s.l.length lc, .int .i64 c.fi, .slice fa c.L.length fc, .bool c.kn, .int .i64 c.at_, .int .i64 c.old.id, .int .i64 c.old.kind, .int .i64 c.old.lo, .int .i64 c.old.hi, .int .i64 c.old.most] _ (HRG.out _ hb3) Try.underlying58 rfl HI.out ?_))
            | (go_at_call 45; ((with_reducible refine (c4 _ hb3).mono ?_); rintro e w4 ⟨rfl, hb4⟩))))
          go_ret
          exact ⟨rfl, HBO.out _ hb4⟩
        · have f4 : suits c = true := by simpa using e4
          rw [f4] at c4
          obtain rfl : 0 = r := by rw [← hr.out, HER.out]; simp [*]
          clear e1 e2 e3 e4 f1 f2 f3 f4
          go_enter Try.func21, Try.ntmps21
          go_wp2_with ((first
            | ((with_reducible refine wpList_load_mid rfl 58 (.tmp 1) rfl w.heap.size 0 rfl [.int .i64 c.s.op, .int .i64 c.s.fm, .int .i64 c.s.fd, .int .i64 c.s.pl, .int .i64 c.s.tt, .int .i64 c.s.a, .int .i64 c.s.b, .int .i64 c.s.f.id, .int .i64 c.s.f.kind, .int .i64 c.s.f.lo, .int .i64 c.s.f.hi, .int .i64 c.s.f.most, .int .i64 c.s.v.n, .string c.s.v.s, .slice ta c.s.t.length tc, .slice la c.s.l.length lc, .int .i64 c.fi, .slice fa c.L.length fc, .bool c.kn, .int .i64 c.at_, .int .i64 c.old.id, .int .i64 c.old.kind, .int .i64 c.old.lo, .int .i64 c.old.hi, .int .i64 c.old.most] _ (HRG.out _ HB0.out) Try.underlying58 rfl HI.out ?_))
            | (go_at_call 42; ((with_reducible refine (c1 _ HB0.out).mono ?_); rintro e w1 ⟨rfl, hb1⟩))
            | ((with_reducible refine wpList_load_mid rfl 58 (.tmp 1) rfl w.heap.size 0 rfl [.int .i64 c.s.op, .int .i64 c.s.fm, .int .i64 c.s.fd, .int .i64 c.s.pl, .int .i64 c.s.tt, .int .i64 c.s.a, .int .i64 c.s.b, .int .i64 c.s.f.id, .int .i64 c.s.f.kind, .int .i64 c.s.f.lo, .int .i64 c.s.f.hi, .int .i64 c.s.f.most, .int .i64 c.s.v.n, .string c.s.v.s, .slice ta c.s.t.length tc, .slice la c.s.l.length lc, .int .i64 c.fi, .slice fa c.L.length fc, .bool c.kn, .int .i64 c.at_, .int .i64 c.old.id, .int .i64 c.old.kind, .int .i64 c.old.lo, .int .i64 c.old.hi, .int .i64 c.old.most] _ (HRG.out _ hb1) Try.underlying58 rfl HI.out ?_))
            | (go_at_call 43; ((with_reducible refine (c2 _ hb1).mono ?_); rintro e w2 ⟨rfl, hb2⟩))
            | ((with_reducible refine wpList_load_mid rfl 58 (.tmp 1) rfl w.heap.size 0 rfl [.int .i64 c.s.op, .int .i64 c.s.fm, .int .i64 c.s.fd, .int .i64 c.s.pl, .int .i64 c.s.tt, .int .i64 c.s.a, .int .i64 c.s.b, .int .i64 c.s.f.id, .int .i64 c.s.f.kind, .int .i64 c.s.f.lo, .int .i64 c.s.f.hi, .int .i64 c.s.f.most, .int .i64 c.s.v.n, .string c.s.v.s, .slice ta c.s.t.length tc, .slice la c.s.l.length lc, .int .i64 c.fi, .slice fa c.L.length fc, .bool c.kn, .int .i64 c.at_, .int .i64 c.old.id, .int .i64 c.old.kind, .int .i64 c.old.lo, .int .i64 c.old.hi, .int .i64 c.old.most] _ (HRG.out _ hb2) Try.underlying58 rfl HI.out ?_))
            | (go_at_call 44; ((with_reducible refine (c3 _ hb2).mono ?_); rintro e w3 ⟨rfl, hb3⟩))
            | ((with_reducible refine wpList_load_mid rfl 58 (.tmp 1) rfl w.heap.size 0 rfl [.int .i64 c.s.op, .int .i64 c.s.fm, .int .i64 c.s.fd, .int .i64 c.s.pl, .int .i64 c.s.tt, .int .i64 c.s.a, .int .i64 c.s.b, .int .i64 c.s.f.id, .int .i64 c.s.f.kind, .int .i64 c.s.f.lo, .int .i64 c.s.f.hi, .int .i64 c.s.f.most, .int .i64 c.s.v.n, .string c.s.v.s, .slice ta c.s.t.length tc, .slice la c.s.l.length lc, .int .i64 c.fi, .slice fa c.L.length fc, .bool c.kn, .int .i64 c.at_, .int .i64 c.old.id, .int .i64 c.old.kind, .int .i64 c.old.lo, .int .i64 c.old.hi, .int .i64 c.old.most] _ (HRG.out _ hb3) Try.underlying58 rfl HI.out ?_))
            | (go_at_call 45; ((with_reducible refine (c4 _ hb3).mono ?_); rintro e w4 ⟨rfl, hb4⟩))))
          go_ret
          exact ⟨rfl, HBO.out _ hb4⟩
end Go.Proofs.Ytiajpjkkopdmgaa.typing
