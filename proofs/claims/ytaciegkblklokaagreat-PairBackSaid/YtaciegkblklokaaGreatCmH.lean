/- Contracts and lemmas that the claims of this seat share: TypingAsk, TypingHeirs, TypingRow, SchemaRefIx, SchemaExecF. Each says its own conditions. -/
import Derived.Test.YtaciegkblklokaaGreatCmC
import Derived.Test.YtaciegkblklokaaGreatCmF
import Derived.Test.YtaciegkblklokaaGreatCmG
import Derived.Deep.MidRow
import Derived.Handy
import Derived.BigQuiet
import Derived.Deep.QuietTactic
import Derived.Laws.Small
import Derived.Test.YtaciegkblklokaaGreatCmE
set_option linter.unusedVariables false
namespace Go.Proofs.YtaciegkblklokaaGreat.typing
open Go.RowKit Go.Proofs.YtaciegkblklokaaGreat.schema
open Go.Proofs.YtaciegkblklokaaGreat.field (Gives newB gives_from has_any wider_any)
theorem ch_info : (Tryz.prog.info? 77).map (·.size) = some 25 := by kernel_rfl
theorem bt {a b : Int} (h : a = b) : (a == b) = true := beq_iff_eq.2 h
theorem bf {a b : Int} (h : ¬ a = b) : (a == b) = false := beq_eq_false_iff_ne.2 h
set_option maxRecDepth 20000 in
theorem found_any (c : Ch) (ta : Option Addr) (tc : Nat) (la : Option Addr) (lc : Nat) (fa : Option Addr) (fc : Nat) (w : World) :
  Calls Tryz.prog 60 #[zH c ta tc la lc fa fc] w (Gives (.bool (found c)) w) := by
 have HN := hid (newB w (.cells (zH c ta tc la lc fa fc) 77))
 obtain ⟨r, hr⟩ : ∃ r : Bool, Hid (found c = r) := ⟨_, rfl⟩
 rw [hr.out]
 unfold Gives
 by_cases h9 : c.s.op = 9
 ·have d9 := bt h9
  obtain rfl : true = r := by rw [← hr.out]; unfold found; simp [*]
  clear h9
  go_enter Tryz.func60, Tryz.ntmps60
  go_wp2
  go_ret
  exact ⟨rfl, HN.out⟩
 ·have d9 := bf h9
  by_cases h1 : c.s.op = 1
  ·have d1 := bt h1
   obtain rfl : c.kn = r := by rw [← hr.out]; unfold found; simp [*]
   clear h9 h1
   go_enter Tryz.func60, Tryz.ntmps60
   go_wp2
   go_ret
   exact ⟨rfl, HN.out⟩
  ·have d1 := bf h1
   by_cases h10 : c.s.op = 10
   ·have d10 := bt h10
    obtain rfl : c.kn = r := by rw [← hr.out]; unfold found; simp [*]
    clear h9 h1 h10
    go_enter Tryz.func60, Tryz.ntmps60
    go_wp2
    go_ret
    exact ⟨rfl, HN.out⟩
   ·have d10 := bf h10
    obtain rfl : decide (0 ≤ c.at_) = r := by rw [← hr.out]; unfold found; simp [*]
    clear h9 h1 h10
    go_enter Tryz.func60, Tryz.ntmps60
    go_wp2
    go_ret
    exact ⟨rfl, HN.out⟩
theorem chas_any (c : Ch) (ta : Option Addr) (tc : Nat) (la : Option Addr) (lc : Nat) (fa : Option Addr) (fc : Nat) (w : World) (x : Int) (h : field.Fds w fa c.L) (hL : c.L.length ≤ maxLen) :
  Calls Tryz.prog 84 #[zH c ta tc la lc fa fc, .int .i64 x] w (Gives (.bool (decide (0 ≤ firstAt (ids c.L) x))) w) := by
 have HN := newB w (.cells (zH c ta tc la lc fa fc) 77)
 have cA := gives_from (at_any c.fi fa fc c.L x ((w.alloc (.cells (zH c ta tc la lc fa fc) 77))) (h.below HN) hL) HN
 obtain ⟨K, hK⟩ : ∃ K : Int, Hid (firstAt (ids c.L) x = K) := ⟨_, rfl⟩
 rw [hK.out] at cA ⊢
 unfold Gives
 clear h hL
 by_cases h0 : 0 ≤ K
 ·rw [decide_eq_true h0]
  have d0 : decide (K ≥ 0) = true := decide_eq_true h0
  go_enter Tryz.func84, Tryz.ntmps84
  go_wp2_with (go_at_call 41; ((with_reducible refine cA.mono ?_); rintro e w1 ⟨rfl, hb1⟩))
  go_ret
  exact ⟨rfl, hb1⟩
 ·rw [decide_eq_false h0]
  have d0 : decide (K ≥ 0) = false := decide_eq_false h0
  go_enter Tryz.func84, Tryz.ntmps84
  go_wp2_with (go_at_call 41; ((with_reducible refine cA.mono ?_); rintro e w1 ⟨rfl, hb1⟩))
  go_ret
  exact ⟨rfl, hb1⟩
set_option maxRecDepth 20000 in
theorem twice_any (c : Ch) (ta : Option Addr) (tc : Nat) (la : Option Addr) (lc : Nat) (fa : Option Addr) (fc : Nat) (w : World) (h : field.Fds w fa c.L) (hL : c.L.length ≤ maxLen) :
  Calls Tryz.prog 61 #[zH c ta tc la lc fa fc] w (Gives (.bool (twice c)) w) := by
 have HN := hid (newB w (.cells (zH c ta tc la lc fa fc) 77))
 obtain ⟨r, hr⟩ : ∃ r : Bool, Hid (twice c = r) := ⟨_, rfl⟩
 rw [hr.out]
 unfold Gives
 by_cases h9 : c.s.op = 9
 ·have d9 := bt h9
  obtain rfl : c.kn = r := by rw [← hr.out]; unfold twice; simp [*]
  clear h9
  go_enter Tryz.func61, Tryz.ntmps61
  go_wp2
  go_ret
  exact ⟨rfl, HN.out⟩
 ·have d9 := bf h9
  by_cases h1 : c.s.op = 1
  ·have d1 := bt h1
   obtain rfl : decide (0 ≤ firstAt (ids c.L) c.s.f.id) = r := by rw [← hr.out]; unfold twice; simp [*]
   clear h9 h1
   have cH := gives_from (chas_any c ta tc la lc fa fc ((w.alloc (.cells (zH c ta tc la lc fa fc) 77))) (c.s.f.id) (h.below HN.out) hL) HN.out
   have HRG : Hid (((w.alloc (.cells (zH c ta tc la lc fa fc) 77))).rangeAt w.heap.size 0 (zH c ta tc la lc fa fc)) := hid (Block.new w _ _).whole
   have HI : Hid ((Tryz.prog.info? 77).map (·.size) = some ((zH c ta tc la lc fa fc) : List Value).length) := hid ch_info
   clear h hL
   go_enter Tryz.func61, Tryz.ntmps61
   go_wp2_with ((first
    | (with_reducible refine wpList_load_mid rfl 77 (.tmp 1) rfl w.heap.size 0 rfl (zH c ta tc la lc fa fc) _ HRG.out Tryz.underlying77 rfl HI.out ?_)
    | (go_at_call 84; ((with_reducible refine cH.mono ?_); rintro e w1 ⟨rfl, hb1⟩))))
   go_ret
   exact ⟨rfl, hb1⟩
  ·have d1 := bf h1
   by_cases h6 : c.s.op = 6
   ·have d6 := bt h6
    obtain rfl : decide (0 ≤ firstAt (ids c.L) c.s.tt) = r := by rw [← hr.out]; unfold twice; simp [*]
    clear h9 h1 h6
    have cH := gives_from (chas_any c ta tc la lc fa fc ((w.alloc (.cells (zH c ta tc la lc fa fc) 77))) (c.s.tt) (h.below HN.out) hL) HN.out
    have HRG : Hid (((w.alloc (.cells (zH c ta tc la lc fa fc) 77))).rangeAt w.heap.size 0 (zH c ta tc la lc fa fc)) := hid (Block.new w _ _).whole
    have HI : Hid ((Tryz.prog.info? 77).map (·.size) = some ((zH c ta tc la lc fa fc) : List Value).length) := hid ch_info
    clear h hL
    go_enter Tryz.func61, Tryz.ntmps61
    go_wp2_with ((first
     | (with_reducible refine wpList_load_mid rfl 77 (.tmp 1) rfl w.heap.size 0 rfl (zH c ta tc la lc fa fc) _ HRG.out Tryz.underlying77 rfl HI.out ?_)
     | (go_at_call 84; ((with_reducible refine cH.mono ?_); rintro e w1 ⟨rfl, hb1⟩))))
    go_ret
    exact ⟨rfl, hb1⟩
   ·have d6 := bf h6
    by_cases h8 : c.s.op = 8
    ·have d8 := bt h8
     obtain rfl : decide (0 ≤ firstAt (ids c.L) c.s.tt) = r := by rw [← hr.out]; unfold twice; simp [*]
     clear h9 h1 h6 h8
     have cH := gives_from (chas_any c ta tc la lc fa fc ((w.alloc (.cells (zH c ta tc la lc fa fc) 77))) (c.s.tt) (h.below HN.out) hL) HN.out
     have HRG : Hid (((w.alloc (.cells (zH c ta tc la lc fa fc) 77))).rangeAt w.heap.size 0 (zH c ta tc la lc fa fc)) := hid (Block.new w _ _).whole
     have HI : Hid ((Tryz.prog.info? 77).map (·.size) = some ((zH c ta tc la lc fa fc) : List Value).length) := hid ch_info
     clear h hL
     go_enter Tryz.func61, Tryz.ntmps61
     go_wp2_with ((first
      | (with_reducible refine wpList_load_mid rfl 77 (.tmp 1) rfl w.heap.size 0 rfl (zH c ta tc la lc fa fc) _ HRG.out Tryz.underlying77 rfl HI.out ?_)
      | (go_at_call 84; ((with_reducible refine cH.mono ?_); rintro e w1 ⟨rfl, hb1⟩))))
     go_ret
     exact ⟨rfl, hb1⟩
    ·have d8 := bf h8
     obtain rfl : false = r := by rw [← hr.out]; unfold twice; simp [*]
     clear h9 h1 h6 h8
     go_enter Tryz.func61, Tryz.ntmps61
     go_wp2
     go_ret
     exact ⟨rfl, HN.out⟩
set_option maxRecDepth 20000 in
theorem beyond_any (c : Ch) (ta : Option Addr) (tc : Nat) (la : Option Addr) (lc : Nat) (fa : Option Addr) (fc : Nat) (w : World) (hL : c.L.length ≤ 40) :
  Calls Tryz.prog 62 #[zH c ta tc la lc fa fc] w (Gives (.bool (beyond c)) w) := by
 have HN := hid (newB w (.cells (zH c ta tc la lc fa fc) 77))
 obtain ⟨r, hr⟩ : ∃ r : Bool, Hid (beyond c = r) := ⟨_, rfl⟩
 rw [hr.out]
 unfold Gives
 have hml : (c.L.length : Int) ≤ 40 := by omega
 by_cases h1 : c.s.op = 1
 ·have d1 := bt h1
  obtain rfl : decide ((c.L.length : Int) < c.s.pl) = r := by rw [← hr.out]; unfold beyond; simp [*]
  clear h1
  go_enter Tryz.func62, Tryz.ntmps62
  go_wp2
  go_ret
  exact ⟨rfl, HN.out⟩
 ·have d1 := bf h1
  by_cases h7 : c.s.op = 7
  ·have d7 := bt h7
   obtain rfl : decide ((c.L.length : Int) - 1 < c.s.pl) = r := by rw [← hr.out]; unfold beyond; simp [*]
   clear h1 h7
   go_enter Tryz.func62, Tryz.ntmps62
   go_wp2
   go_ret
   exact ⟨rfl, HN.out⟩
  ·have d7 := bf h7
   obtain rfl : false = r := by rw [← hr.out]; unfold beyond; simp [*]
   clear h1 h7
   go_enter Tryz.func62, Tryz.ntmps62
   go_wp2
   go_ret
   exact ⟨rfl, HN.out⟩
def Bd (c : Ch) : Prop := (-1048576 ≤ c.s.a ∧ c.s.a ≤ 1048576) ∧ (-1099511627776 ≤ c.s.b ∧ c.s.b ≤ 1099511627776) ∧ (-1099511627776 ≤ c.old.lo ∧ c.old.lo ≤ 1099511627776) ∧ (-1099511627776 ≤ c.old.hi ∧ c.old.hi ≤ 1099511627776)
theorem mul_bd {a x : Int} (h : -1048576 ≤ a ∧ a ≤ 1048576) (k : -1099511627776 ≤ x ∧ x ≤ 1099511627776) : -1152921504606846976 ≤ a * x ∧ a * x ≤ 1152921504606846976 := by
 have h1 : (a + 1048576) * (x + 1099511627776) ≥ 0 := Int.mul_nonneg (by omega) (by omega)
 have h2 : (1048576 - a) * (1099511627776 - x) ≥ 0 := Int.mul_nonneg (by omega) (by omega)
 have h3 : (a + 1048576) * (1099511627776 - x) ≥ 0 := Int.mul_nonneg (by omega) (by omega)
 have h4 : (1048576 - a) * (x + 1099511627776) ≥ 0 := Int.mul_nonneg (by omega) (by omega)
 simp only [Int.add_mul, Int.sub_mul, Int.mul_add, Int.mul_sub] at h1 h2 h3 h4
 constructor <;> omega
set_option maxRecDepth 20000 in
theorem scaled_any (c : Ch) (ta : Option Addr) (tc : Nat) (la : Option Addr) (lc : Nat) (fa : Option Addr) (fc : Nat) (w : World) (hb : Bd c) :
  Calls Tryz.prog 87 #[zH c ta tc la lc fa fc] w (Gives (.tuple #[.int .i64 (low c), .int .i64 (high c)]) w) := by
 have HN := hid (newB w (.cells (zH c ta tc la lc fa fc) 77))
 obtain ⟨ha, hbb, hlo, hhi⟩ := hb
 have q1 := mul_bd ha hlo
 have q2 := mul_bd ha hhi
 have e1 : scA c = c.s.a * c.old.lo + c.s.b := rfl
 have e2 : scB c = c.s.a * c.old.hi + c.s.b := rfl
 have e3 : low c = if scB c < scA c then scB c else scA c := rfl
 have e4 : high c = if scB c > scA c then scB c else scA c := rfl
 obtain ⟨Q1, hQ1⟩ : ∃ Q1, c.s.a * c.old.lo = Q1 := ⟨_, rfl⟩
 obtain ⟨Q2, hQ2⟩ : ∃ Q2, c.s.a * c.old.hi = Q2 := ⟨_, rfl⟩
 rw [hQ1] at q1 e1
 rw [hQ2] at q2 e2
 obtain ⟨R1, hR1⟩ : ∃ R1, scA c = R1 := ⟨_, rfl⟩
 obtain ⟨R2, hR2⟩ : ∃ R2, scB c = R2 := ⟨_, rfl⟩
 rw [hR1] at e1
 rw [hR2] at e2
 rw [hR1, hR2] at e3 e4
 have em : ∀ ts t W, (Builtin.min_ ts t #[.int .i64 R1, .int .i64 R2]).run Tryz.prog W = .ok (.int .i64 (low c)) W := fun ts t W => by rw [run_min_int2, e3]
 have ex : ∀ ts t W, (Builtin.max_ ts t #[.int .i64 R1, .int .i64 R2]).run Tryz.prog W = .ok (.int .i64 (high c)) W := fun ts t W => by rw [run_max_int2, e4]
 have w1 : IntKind.i64.wrap Q1 = Q1 := IntWalk.i64_in _ (by omega)
 have w2 : IntKind.i64.wrap Q2 = Q2 := IntWalk.i64_in _ (by omega)
 have w3 : IntKind.i64.wrap (Q1 + c.s.b) = R1 := by rw [IntWalk.i64_in _ (by omega), e1]
 have w4 : IntKind.i64.wrap (Q2 + c.s.b) = R2 := by rw [IntWalk.i64_in _ (by omega), e2]
 obtain ⟨L, hL⟩ : ∃ L : Int, Hid (low c = L) := ⟨_, rfl⟩
 obtain ⟨M, hM⟩ : ∃ M : Int, Hid (high c = M) := ⟨_, rfl⟩
 rw [hL.out] at em ⊢
 rw [hM.out] at ex ⊢
 unfold Gives
 clear e1 e2 e3 e4 hR1 hR2 q1 q2 ha hbb hlo hhi
 go_enter Tryz.func87, Tryz.ntmps87
 go_wp2
 go_quiet (fail)
 go_wp2
 go_ret2
 exact ⟨rfl, below_drewN HN.out _⟩
set_option maxRecDepth 20000 in
theorem suits_any (c : Ch) (ta : Option Addr) (tc : Nat) (la : Option Addr) (lc : Nat) (fa : Option Addr) (fc : Nat) (w : World) (hb4 : c.s.op = 4 → Bd c) :
  Calls Tryz.prog 63 #[zH c ta tc la lc fa fc] w (Gives (.bool (suits c)) w) := by
 have HN := hid (newB w (.cells (zH c ta tc la lc fa fc) 77))
 obtain ⟨r, hr⟩ : ∃ r : Bool, Hid (suits c = r) := ⟨_, rfl⟩
 rw [hr.out]
 unfold Gives
 by_cases h2 : c.s.op = 2
 ·have d2 := bt h2
  obtain rfl : decide (c.old.Has c.s.v) = r := by rw [← hr.out]; unfold suits; simp [*]
  clear h2
  have cH := gives_from (has_any c.old c.s.v ((w.alloc (.cells (zH c ta tc la lc fa fc) 77)))) HN.out
  clear hb4
  go_enter Tryz.func63, Tryz.ntmps63
  go_wp2_with ((go_at_call 85; ((with_reducible refine cH.mono ?_); rintro e w1 ⟨rfl, hb1⟩)))
  go_ret
  exact ⟨rfl, hb1⟩
 ·have d2 := bf h2
  by_cases h3 : c.s.op = 3
  ·have d3 := bt h3
   obtain rfl : decide (c.old.Wider c.s.f) = r := by rw [← hr.out]; unfold suits; simp [*]
   clear h2 h3
   have cH := gives_from (wider_any c.old c.s.f ((w.alloc (.cells (zH c ta tc la lc fa fc) 77)))) HN.out
   clear hb4
   go_enter Tryz.func63, Tryz.ntmps63
   go_wp2_with ((go_at_call 86; ((with_reducible refine cH.mono ?_); rintro e w1 ⟨rfl, hb1⟩)))
   go_ret
   exact ⟨rfl, hb1⟩
  ·have d3 := bf h3
   by_cases h4 : c.s.op = 4
   ·have d4 := bt h4
    have cS := scaled_any c ta tc la lc fa fc ((w.alloc (.cells (zH c ta tc la lc fa fc) 77))) (hb4 h4)
    unfold Gives at cS
    have HRG : Hid (∀ w', Below ((w.alloc (.cells (zH c ta tc la lc fa fc) 77))).heap.size ((w.alloc (.cells (zH c ta tc la lc fa fc) 77))) w' → w'.rangeAt w.heap.size 0 (zH c ta tc la lc fa fc)) := hid (fun w' hb => ((Block.new w _ _).later hb).whole)
    have HI : Hid ((Tryz.prog.info? 77).map (·.size) = some ((zH c ta tc la lc fa fc) : List Value).length) := hid ch_info
    have hsp : suits c = decide (c.old.kind = 1 ∧ -1099511627776 ≤ low c ∧ high c ≤ 1099511627776) := by unfold suits; simp [*]
    have HSP := hid hsp
    clear hb4 hsp
    clear h2 h3 h4
    have HBX := hid (fun w' (hb : Below ((w.alloc (.cells (zH c ta tc la lc fa fc) 77))).heap.size ((w.alloc (.cells (zH c ta tc la lc fa fc) 77))) w') => ((Block.new w 77 (zH c ta tc la lc fa fc)).later hb).cell 21)
    have HBO := hid (fun w' (hb : Below ((w.alloc (.cells (zH c ta tc la lc fa fc) 77))).heap.size ((w.alloc (.cells (zH c ta tc la lc fa fc) 77))) w') => below_out hb)
    generalize low c = K1 at *
    generalize high c = K2 at *
    by_cases hk : c.old.kind = 1
    ·by_cases hl : -1099511627776 ≤ K1
     ·by_cases hh : K2 ≤ 1099511627776
      ·obtain rfl : true = r := by rw [← hr.out, HSP.out]; simp [*]
       have dk := bt hk
       have dl : decide (K1 ≥ -1099511627776) = true := decide_eq_true hl
       have dh : decide (K2 ≤ 1099511627776) = true := decide_eq_true hh
       clear hk hl hh
       go_enter Tryz.func63, Tryz.ntmps63
       go_wp2_with ((first
        | (with_reducible refine wpList_load_mid rfl 77 (.tmp 1) rfl w.heap.size 0 rfl (zH c ta tc la lc fa fc) _ (HRG.out _ (Below.refl _ _)) Tryz.underlying77 rfl HI.out ?_)
        | (go_at_call 87; ((with_reducible refine cS.mono ?_); rintro e w1 ⟨rfl, hb1⟩; have z21 := HBX.out _ hb1))))
       go_ret
       exact ⟨rfl, HBO.out _ hb1⟩
      ·obtain rfl : false = r := by rw [← hr.out, HSP.out]; simp [*]
       have dk := bt hk
       have dl : decide (K1 ≥ -1099511627776) = true := decide_eq_true hl
       have dh : decide (K2 ≤ 1099511627776) = false := decide_eq_false hh
       clear hk hl hh
       go_enter Tryz.func63, Tryz.ntmps63
       go_wp2_with ((first
        | (with_reducible refine wpList_load_mid rfl 77 (.tmp 1) rfl w.heap.size 0 rfl (zH c ta tc la lc fa fc) _ (HRG.out _ (Below.refl _ _)) Tryz.underlying77 rfl HI.out ?_)
        | (go_at_call 87; ((with_reducible refine cS.mono ?_); rintro e w1 ⟨rfl, hb1⟩; have z21 := HBX.out _ hb1))))
       go_ret
       exact ⟨rfl, HBO.out _ hb1⟩
     ·obtain rfl : false = r := by rw [← hr.out, HSP.out]; simp [*]
      have dk := bt hk
      have dl : decide (K1 ≥ -1099511627776) = false := decide_eq_false hl
      clear hk hl
      go_enter Tryz.func63, Tryz.ntmps63
      go_wp2_with ((first
       | (with_reducible refine wpList_load_mid rfl 77 (.tmp 1) rfl w.heap.size 0 rfl (zH c ta tc la lc fa fc) _ (HRG.out _ (Below.refl _ _)) Tryz.underlying77 rfl HI.out ?_)
       | (go_at_call 87; ((with_reducible refine cS.mono ?_); rintro e w1 ⟨rfl, hb1⟩; have z21 := HBX.out _ hb1))))
      go_ret
      exact ⟨rfl, HBO.out _ hb1⟩
    ·obtain rfl : false = r := by rw [← hr.out, HSP.out]; simp [*]
     have dk := bf hk
     clear hk
     go_enter Tryz.func63, Tryz.ntmps63
     go_wp2_with ((first
      | (with_reducible refine wpList_load_mid rfl 77 (.tmp 1) rfl w.heap.size 0 rfl (zH c ta tc la lc fa fc) _ (HRG.out _ (Below.refl _ _)) Tryz.underlying77 rfl HI.out ?_)
      | (go_at_call 87; ((with_reducible refine cS.mono ?_); rintro e w1 ⟨rfl, hb1⟩; have z21 := HBX.out _ hb1))))
     go_ret
     exact ⟨rfl, HBO.out _ hb1⟩
   ·have d4 := bf h4
    by_cases h5 : c.s.op = 5
    ·have d5 := bt h5
     have hsp : suits c = decide (c.old.kind = 3 ∧ c.old.most = c.s.t.length) := by unfold suits; simp [*]
     have HSP := hid hsp
     clear hb4 hsp
     clear h2 h3 h4 h5
     by_cases hk : c.old.kind = 3
     ·have dk := bt hk
      by_cases hm : c.old.most = c.s.t.length
      ·have dm := bt hm
       obtain rfl : true = r := by rw [← hr.out, HSP.out]; simp [*]
       clear hk hm
       go_enter Tryz.func63, Tryz.ntmps63
       go_wp2
       go_ret
       exact ⟨rfl, HN.out⟩
      ·have dm := bf hm
       obtain rfl : false = r := by rw [← hr.out, HSP.out]; simp [*]
       clear hk hm
       go_enter Tryz.func63, Tryz.ntmps63
       go_wp2
       go_ret
       exact ⟨rfl, HN.out⟩
     ·have dk := bf hk
      obtain rfl : false = r := by rw [← hr.out, HSP.out]; simp [*]
      clear hk
      go_enter Tryz.func63, Tryz.ntmps63
      go_wp2
      go_ret
      exact ⟨rfl, HN.out⟩
    ·have d5 := bf h5
     by_cases h6 : c.s.op = 6
     ·have d6 := bt h6
      have hsp : suits c = decide (c.old.kind = 1 ∧ c.old.lo = 0) := by unfold suits; simp [*]
      have HSP := hid hsp
      clear hb4 hsp
      clear h2 h3 h4 h5 h6
      by_cases hk : c.old.kind = 1
      ·have dk := bt hk
       by_cases hm : c.old.lo = 0
       ·have dm := bt hm
        obtain rfl : true = r := by rw [← hr.out, HSP.out]; simp [*]
        clear hk hm
        go_enter Tryz.func63, Tryz.ntmps63
        go_wp2
        go_ret
        exact ⟨rfl, HN.out⟩
       ·have dm := bf hm
        obtain rfl : false = r := by rw [← hr.out, HSP.out]; simp [*]
        clear hk hm
        go_enter Tryz.func63, Tryz.ntmps63
        go_wp2
        go_ret
        exact ⟨rfl, HN.out⟩
      ·have dk := bf hk
       obtain rfl : false = r := by rw [← hr.out, HSP.out]; simp [*]
       clear hk
       go_enter Tryz.func63, Tryz.ntmps63
       go_wp2
       go_ret
       exact ⟨rfl, HN.out⟩
     ·have d6 := bf h6
      obtain rfl : true = r := by rw [← hr.out]; unfold suits; simp [*]
      clear h2 h3 h4 h5 h6
      clear hb4
      go_enter Tryz.func63, Tryz.ntmps63
      go_wp2
      go_ret
      exact ⟨rfl, HN.out⟩
set_option maxRecDepth 20000 in
theorem check_any (c : Ch) (ta : Option Addr) (tc : Nat) (la : Option Addr) (lc : Nat) (fa : Option Addr) (fc : Nat) (w : World) (h : field.Fds w fa c.L) (hL : c.L.length ≤ 40) (hb4 : c.s.op = 4 → Bd c) :
  Calls Tryz.prog 38 #[zH c ta tc la lc fa fc] w (Gives (.int .i64 (err c : Nat)) w) := by
 have HN := hid (newB w (.cells (zH c ta tc la lc fa fc) 77))
 have hmx : c.L.length ≤ maxLen := by unfold maxLen; omega
 have hh := h.below HN.out
 obtain ⟨r, hr⟩ : ∃ r : Nat, Hid (err c = r) := ⟨_, rfl⟩
 rw [hr.out]
 have HER : Hid (err c = if found c = false then 8 else if twice c = true then 9 else if beyond c = true then 3 else if suits c = false then 17 else 0) := hid rfl
 have c1 := fun (w' : World) (hb : Below ((w.alloc (.cells (zH c ta tc la lc fa fc) 77))).heap.size ((w.alloc (.cells (zH c ta tc la lc fa fc) 77))) w') => gives_from (found_any c ta tc la lc fa fc w') hb
 have c2 := fun (w' : World) (hb : Below ((w.alloc (.cells (zH c ta tc la lc fa fc) 77))).heap.size ((w.alloc (.cells (zH c ta tc la lc fa fc) 77))) w') => gives_from (twice_any c ta tc la lc fa fc w' (hh.below hb) hmx) hb
 have c3 := fun (w' : World) (hb : Below ((w.alloc (.cells (zH c ta tc la lc fa fc) 77))).heap.size ((w.alloc (.cells (zH c ta tc la lc fa fc) 77))) w') => gives_from (beyond_any c ta tc la lc fa fc w' hL) hb
 have c4 := fun (w' : World) (hb : Below ((w.alloc (.cells (zH c ta tc la lc fa fc) 77))).heap.size ((w.alloc (.cells (zH c ta tc la lc fa fc) 77))) w') => gives_from (suits_any c ta tc la lc fa fc w' hb4) hb
 have HRG : Hid (∀ w', Below ((w.alloc (.cells (zH c ta tc la lc fa fc) 77))).heap.size ((w.alloc (.cells (zH c ta tc la lc fa fc) 77))) w' → w'.rangeAt w.heap.size 0 (zH c ta tc la lc fa fc)) := hid (fun w' hb => ((Block.new w _ _).later hb).whole)
 have HI : Hid ((Tryz.prog.info? 77).map (·.size) = some ((zH c ta tc la lc fa fc) : List Value).length) := hid ch_info
 have HB0 := hid (Below.refl ((w.alloc (.cells (zH c ta tc la lc fa fc) 77))).heap.size ((w.alloc (.cells (zH c ta tc la lc fa fc) 77))))
 have HBO := hid (fun w' (hb : Below ((w.alloc (.cells (zH c ta tc la lc fa fc) 77))).heap.size ((w.alloc (.cells (zH c ta tc la lc fa fc) 77))) w') => below_out hb)
 unfold Gives
 clear h hh hL hb4 hmx
 by_cases e1 : found c = false
 ·rw [e1] at c1
  obtain rfl : 8 = r := by rw [← hr.out, HER.out]; simp [*]
  clear e1
  go_enter Tryz.func38, Tryz.ntmps38
  go_wp2_with ((first
   | ((with_reducible refine wpList_load_mid rfl 77 (.tmp 1) rfl w.heap.size 0 rfl (zH c ta tc la lc fa fc) _ (HRG.out _ HB0.out) Tryz.underlying77 rfl HI.out ?_))
   | (go_at_call 60; ((with_reducible refine (c1 _ HB0.out).mono ?_); rintro e w1 ⟨rfl, hb1⟩))))
  go_ret
  exact ⟨rfl, HBO.out _ hb1⟩
 ·have f1 : found c = true := by simpa using e1
  rw [f1] at c1
  by_cases e2 : twice c = true
  ·rw [e2] at c2
   obtain rfl : 9 = r := by rw [← hr.out, HER.out]; simp [*]
   clear e1 e2
   go_enter Tryz.func38, Tryz.ntmps38
   go_wp2_with ((first
    | ((with_reducible refine wpList_load_mid rfl 77 (.tmp 1) rfl w.heap.size 0 rfl (zH c ta tc la lc fa fc) _ (HRG.out _ HB0.out) Tryz.underlying77 rfl HI.out ?_))
    | (go_at_call 60; ((with_reducible refine (c1 _ HB0.out).mono ?_); rintro e w1 ⟨rfl, hb1⟩))
    | ((with_reducible refine wpList_load_mid rfl 77 (.tmp 1) rfl w.heap.size 0 rfl (zH c ta tc la lc fa fc) _ (HRG.out _ hb1) Tryz.underlying77 rfl HI.out ?_))
    | (go_at_call 61; ((with_reducible refine (c2 _ hb1).mono ?_); rintro e w2 ⟨rfl, hb2⟩))))
   go_ret
   exact ⟨rfl, HBO.out _ hb2⟩
  ·have f2 : twice c = false := by simpa using e2
   rw [f2] at c2
   by_cases e3 : beyond c = true
   ·rw [e3] at c3
    obtain rfl : 3 = r := by rw [← hr.out, HER.out]; simp [*]
    clear e1 e2 e3
    go_enter Tryz.func38, Tryz.ntmps38
    go_wp2_with ((first
     | ((with_reducible refine wpList_load_mid rfl 77 (.tmp 1) rfl w.heap.size 0 rfl (zH c ta tc la lc fa fc) _ (HRG.out _ HB0.out) Tryz.underlying77 rfl HI.out ?_))
     | (go_at_call 60; ((with_reducible refine (c1 _ HB0.out).mono ?_); rintro e w1 ⟨rfl, hb1⟩))
     | ((with_reducible refine wpList_load_mid rfl 77 (.tmp 1) rfl w.heap.size 0 rfl (zH c ta tc la lc fa fc) _ (HRG.out _ hb1) Tryz.underlying77 rfl HI.out ?_))
     | (go_at_call 61; ((with_reducible refine (c2 _ hb1).mono ?_); rintro e w2 ⟨rfl, hb2⟩))
     | ((with_reducible refine wpList_load_mid rfl 77 (.tmp 1) rfl w.heap.size 0 rfl (zH c ta tc la lc fa fc) _ (HRG.out _ hb2) Tryz.underlying77 rfl HI.out ?_))
     | (go_at_call 62; ((with_reducible refine (c3 _ hb2).mono ?_); rintro e w3 ⟨rfl, hb3⟩))))
    go_ret
    exact ⟨rfl, HBO.out _ hb3⟩
   ·have f3 : beyond c = false := by simpa using e3
    rw [f3] at c3
    by_cases e4 : suits c = false
    ·rw [e4] at c4
     obtain rfl : 17 = r := by rw [← hr.out, HER.out]; simp [*]
     clear e1 e2 e3 e4
     go_enter Tryz.func38, Tryz.ntmps38
     go_wp2_with ((first
      | ((with_reducible refine wpList_load_mid rfl 77 (.tmp 1) rfl w.heap.size 0 rfl (zH c ta tc la lc fa fc) _ (HRG.out _ HB0.out) Tryz.underlying77 rfl HI.out ?_))
      | (go_at_call 60; ((with_reducible refine (c1 _ HB0.out).mono ?_); rintro e w1 ⟨rfl, hb1⟩))
      | ((with_reducible refine wpList_load_mid rfl 77 (.tmp 1) rfl w.heap.size 0 rfl (zH c ta tc la lc fa fc) _ (HRG.out _ hb1) Tryz.underlying77 rfl HI.out ?_))
      | (go_at_call 61; ((with_reducible refine (c2 _ hb1).mono ?_); rintro e w2 ⟨rfl, hb2⟩))
      | ((with_reducible refine wpList_load_mid rfl 77 (.tmp 1) rfl w.heap.size 0 rfl (zH c ta tc la lc fa fc) _ (HRG.out _ hb2) Tryz.underlying77 rfl HI.out ?_))
      | (go_at_call 62; ((with_reducible refine (c3 _ hb2).mono ?_); rintro e w3 ⟨rfl, hb3⟩))
      | ((with_reducible refine wpList_load_mid rfl 77 (.tmp 1) rfl w.heap.size 0 rfl (zH c ta tc la lc fa fc) _ (HRG.out _ hb3) Tryz.underlying77 rfl HI.out ?_))
      | (go_at_call 63; ((with_reducible refine (c4 _ hb3).mono ?_); rintro e w4 ⟨rfl, hb4⟩))))
     go_ret
     exact ⟨rfl, HBO.out _ hb4⟩
    ·have f4 : suits c = true := by simpa using e4
     rw [f4] at c4
     obtain rfl : 0 = r := by rw [← hr.out, HER.out]; simp [*]
     clear e1 e2 e3 e4 f1 f2 f3 f4
     go_enter Tryz.func38, Tryz.ntmps38
     go_wp2_with ((first
      | ((with_reducible refine wpList_load_mid rfl 77 (.tmp 1) rfl w.heap.size 0 rfl (zH c ta tc la lc fa fc) _ (HRG.out _ HB0.out) Tryz.underlying77 rfl HI.out ?_))
      | (go_at_call 60; ((with_reducible refine (c1 _ HB0.out).mono ?_); rintro e w1 ⟨rfl, hb1⟩))
      | ((with_reducible refine wpList_load_mid rfl 77 (.tmp 1) rfl w.heap.size 0 rfl (zH c ta tc la lc fa fc) _ (HRG.out _ hb1) Tryz.underlying77 rfl HI.out ?_))
      | (go_at_call 61; ((with_reducible refine (c2 _ hb1).mono ?_); rintro e w2 ⟨rfl, hb2⟩))
      | ((with_reducible refine wpList_load_mid rfl 77 (.tmp 1) rfl w.heap.size 0 rfl (zH c ta tc la lc fa fc) _ (HRG.out _ hb2) Tryz.underlying77 rfl HI.out ?_))
      | (go_at_call 62; ((with_reducible refine (c3 _ hb2).mono ?_); rintro e w3 ⟨rfl, hb3⟩))
      | ((with_reducible refine wpList_load_mid rfl 77 (.tmp 1) rfl w.heap.size 0 rfl (zH c ta tc la lc fa fc) _ (HRG.out _ hb3) Tryz.underlying77 rfl HI.out ?_))
      | (go_at_call 63; ((with_reducible refine (c4 _ hb3).mono ?_); rintro e w4 ⟨rfl, hb4⟩))))
     go_ret
     exact ⟨rfl, HBO.out _ hb4⟩
end Go.Proofs.YtaciegkblklokaaGreat.typing
namespace Go.Proofs.YtaciegkblklokaaGreat.typing
open Go.RowKit Go.Proofs.YtaciegkblklokaaGreat.schema
open Go.Proofs.YtaciegkblklokaaGreat.field (Gives newB gives_from)
def Out (L : List field.Fd) (w : World) (e : Ending) (w' : World) : Prop :=
 Below w.heap.size w w' ∧ ((L = [] ∧ e = .returned (.slice none 0 0)) ∨ (L ≠ [] ∧ ∃ g, w.heap.size ≤ g ∧ e = .returned (.slice (some ⟨g, 0, none⟩) L.length L.length) ∧ Block w' g 26 (fdV L)))
theorem Out.value {L : List field.Fd} {w w' : World} {e : Ending} (h : Out L w e w') : ∃ hv, e = .returned hv ∧ Below w.heap.size w w' ∧ ((L = [] ∧ hv = .slice none 0 0) ∨ (L ≠ [] ∧ ∃ g, w.heap.size ≤ g ∧ hv = .slice (some ⟨g, 0, none⟩) L.length L.length ∧ Block w' g 26 (fdV L))) := by
 obtain ⟨hb, ⟨h1, rfl⟩ | ⟨h1, g, h2, rfl, h3⟩⟩ := h
 ·exact ⟨_, rfl, hb, .inl ⟨h1, rfl⟩⟩
 ·exact ⟨_, rfl, hb, .inr ⟨h1, g, h2, rfl, h3⟩⟩
theorem new2 (w : World) (d1 d2 : Obj) (L : List field.Fd) : Below w.heap.size w (((w.alloc d1).alloc d2).alloc (.cells (fdV L).toArray 26)) ∧ Block (((w.alloc d1).alloc d2).alloc (.cells (fdV L).toArray 26)) (w.heap.size + 1 + 1) 26 (fdV L) := by
 have h1 := field.newB w d1
 have h2 := h1.alloc h1.size d2
 refine ⟨h2.alloc h2.size _, ?_⟩
 have := Block.new ((w.alloc d1).alloc d2) 26 (fdV L)
 rw [show ((w.alloc d1).alloc d2).heap.size = w.heap.size + 1 + 1 by simp] at this
 exact this
theorem new1 {B S : Nat} {w w1 : World} (hb : Below B w w1) (hB : B ≤ w1.heap.size) (hS : B ≤ S) (v1 v2 : Value) (L : List field.Fd) :
  Below B w (((w1.setCell ⟨S, 2, none⟩ v1).setCell ⟨S, 3, none⟩ v2).alloc (.cells (fdV L).toArray 26)) ∧ Block (((w1.setCell ⟨S, 2, none⟩ v1).setCell ⟨S, 3, none⟩ v2).alloc (.cells (fdV L).toArray 26)) w1.heap.size 26 (fdV L) := by
 have h1 := below_setCells (below_setCells hb hS 2 [v1]) hS 3 [v2]
 refine ⟨h1.alloc (by rw [size_setCells, size_setCells]; exact hB) _, ?_⟩
 have := Block.new ((w1.setCell ⟨S, 2, none⟩ v1).setCell ⟨S, 3, none⟩ v2) 26 (fdV L)
 rw [show ((w1.setCell ⟨S, 2, none⟩ v1).setCell ⟨S, 3, none⟩ v2).heap.size = w1.heap.size by simp] at this
 exact this
def Bq (c : Ch) : Prop := (2 ≤ c.s.a ∧ c.s.a ≤ 1048576) ∧ (-1099511627776 ≤ c.old.hi ∧ c.old.hi ≤ 1099511627776)
set_option maxRecDepth 20000 in
set_option maxHeartbeats 1600000 in
theorem heirs_any (c : Ch) (ta : Option Addr) (tc : Nat) (la : Option Addr) (lc : Nat) (fa : Option Addr) (fc : Nat) (w : World) (hb4 : c.s.op = 4 → Bd c) (hb6 : c.s.op = 6 → Bq c) :
  Calls Tryz.prog 95 #[zH c ta tc la lc fa fc] w (Out (heirs c) w) := by
 have HN := newB w (.cells (zH c ta tc la lc fa fc) 77)
 by_cases h2 : c.s.op = 2
 ·have d2 := bt h2
  have hsp : heirs c = [] := by unfold heirs; simp [*]
  rw [hsp]
  clear hsp
  unfold Out
  clear hb4 hb6 h2
  go_enter Tryz.func95, Tryz.ntmps95
  go_wp2
  go_ret
  exact ⟨HN.alloc (by simp) _, .inl ⟨trivial, rfl⟩⟩
 ·have d2 := bf h2
  by_cases h3 : c.s.op = 3
  ·have d3 := bt h3
   have hsp : heirs c = [c.s.f] := by unfold heirs; simp [*]
   rw [hsp]
   clear hsp
   unfold Out
   clear hb4 hb6 h2 h3
   go_enter Tryz.func95, Tryz.ntmps95
   go_wp2
   go_ret
   exact ⟨(new2 w _ _ [c.s.f]).1, .inr ⟨by simp, _, by omega, rfl, (new2 w _ _ [c.s.f]).2⟩⟩
  ·have d3 := bf h3
   by_cases h4 : c.s.op = 4
   ·have d4 := bt h4
    have hsp : heirs c = [{ c.old with lo := low c, hi := high c }] := by unfold heirs; simp [*]
    rw [hsp]
    clear hsp
    have cS := scaled_any c ta tc la lc fa fc (((w.alloc (.cells (zH c ta tc la lc fa fc) 77))).alloc (.cells (zF c.old) 26)) (hb4 h4)
    unfold Gives at cS
    obtain ⟨Q1, hK1⟩ : ∃ K : Int, Hid (low c = K) := ⟨_, rfl⟩
    obtain ⟨Q2, hK2⟩ : ∃ K : Int, Hid (high c = K) := ⟨_, rfl⟩
    rw [hK1.out] at cS ⊢
    rw [hK2.out] at cS ⊢
    unfold Out
    clear hb4 hb6 h2 h3 h4
    have k0 : Block (((w.alloc (.cells (zH c ta tc la lc fa fc) 77))).alloc (.cells (zF c.old) 26)) w.heap.size 77 (zH c ta tc la lc fa fc) := (Block.new w _ _).alloc _
    have k1 : Block (((w.alloc (.cells (zH c ta tc la lc fa fc) 77))).alloc (.cells (zF c.old) 26)) (w.heap.size + 1) 26 (zF c.old) := by have := Block.new ((w.alloc (.cells (zH c ta tc la lc fa fc) 77))) 26 (zF c.old); simpa using this
    have kb : Below w.heap.size w (((w.alloc (.cells (zH c ta tc la lc fa fc) 77))).alloc (.cells (zF c.old) 26)) := HN.alloc (by simp) _
    have HR0 := hid k0.whole
    have K1 := hid k1
    have KB := hid kb
    clear k0 k1 kb
    have HI : Hid ((Tryz.prog.info? 77).map (·.size) = some ((zH c ta tc la lc fa fc) : List Value).length) := hid ch_info
    go_enter Tryz.func95, Tryz.ntmps95
    go_wp2_with (first
     | (with_reducible refine wpList_load_mid rfl 77 (.tmp 1) rfl w.heap.size 0 rfl (zH c ta tc la lc fa fc) _ HR0.out Tryz.underlying77 rfl HI.out ?_)
     | (go_at_call 87; ((with_reducible refine cS.mono ?_); rintro e w1 ⟨rfl, hb1⟩; have hk := K1.out.later hb1; have y2 := hk.cell 2; have y3 := hk.cell 3; have y0 := hk.cell 0; have y1 := hk.cell 1; have y4 := hk.cell 4; have f2 := hk.frozen 2; have f3 := hk.frozen 3; have HS := hid hb1.size; have HBW := hid (KB.out.trans (hb1.mono (by simp; omega))); clear hk hb1)))
    go_ret
    have hsz := HS.out
    simp at hsz
    have hz := new1 HBW.out (by omega) (show w.heap.size ≤ w.heap.size + 1 by omega) (.int .i64 Q1) (.int .i64 Q2) [{ c.old with lo := Q1, hi := Q2 }]
    exact ⟨hz.1, .inr ⟨by simp, _, by omega, rfl, hz.2⟩⟩
   ·have d4 := bf h4
    by_cases h5 : c.s.op = 5
    ·have d5 := bt h5
     have hsp : heirs c = [{ c.old with most := c.s.a }] := by unfold heirs; simp [*]
     rw [hsp]
     clear hsp
     unfold Out
     clear hb4 hb6 h2 h3 h4 h5
     go_enter Tryz.func95, Tryz.ntmps95
     go_wp2
     go_ret
     exact ⟨(new2 w _ _ [{ c.old with most := c.s.a }]).1, .inr ⟨by simp, _, by omega, rfl, (new2 w _ _ [{ c.old with most := c.s.a }]).2⟩⟩
    ·have d5 := bf h5
     by_cases h6 : c.s.op = 6
     ·have d6 := bt h6
      have hsp : heirs c = [{ c.old with hi := Int.tdiv c.old.hi c.s.a }, ⟨c.s.tt, 1, 0, mn (c.s.a - 1) c.old.hi, 0⟩] := by unfold heirs; simp [*]
      rw [hsp]
      clear hsp
      obtain ⟨⟨qa, qb⟩, qc⟩ := hb6 h6
      have em : ∀ ts t W, (Builtin.min_ ts t #[.int .i64 (c.s.a - 1), .int .i64 c.old.hi]).run Tryz.prog W = .ok (.int .i64 (mn (c.s.a - 1) c.old.hi)) W := fun ts t W => by rw [run_min_int2]; rfl
      obtain ⟨M, hM⟩ : ∃ M : Int, Hid (mn (c.s.a - 1) c.old.hi = M) := ⟨_, rfl⟩
      rw [hM.out] at em ⊢
      have q0 : ¬ c.s.a = 0 := by omega
      unfold Out
      clear hb4 hb6 h2 h3 h4 h5 h6
      go_enter Tryz.func95, Tryz.ntmps95
      go_wp2
      go_ret
      exact ⟨(new2 w _ _ [{ c.old with hi := Int.tdiv c.old.hi c.s.a }, ⟨c.s.tt, 1, 0, M, 0⟩]).1, .inr ⟨by simp, _, by omega, rfl, (new2 w _ _ [{ c.old with hi := Int.tdiv c.old.hi c.s.a }, ⟨c.s.tt, 1, 0, M, 0⟩]).2⟩⟩
     ·have d6 := bf h6
      by_cases h8 : c.s.op = 8
      ·have d8 := bt h8
       have hsp : heirs c = [{ c.old with id := c.s.tt }] := by unfold heirs; simp [*]
       rw [hsp]
       clear hsp
       unfold Out
       clear hb4 hb6 h2 h3 h4 h5 h6 h8
       go_enter Tryz.func95, Tryz.ntmps95
       go_wp2
       go_ret
       exact ⟨(new2 w _ _ [{ c.old with id := c.s.tt }]).1, .inr ⟨by simp, _, by omega, rfl, (new2 w _ _ [{ c.old with id := c.s.tt }]).2⟩⟩
      ·have d8 := bf h8
       have hsp : heirs c = [c.old] := by unfold heirs; simp [*]
       rw [hsp]
       clear hsp
       unfold Out
       clear hb4 hb6 h2 h3 h4 h5 h6 h8
       go_enter Tryz.func95, Tryz.ntmps95
       go_wp2
       go_ret
       exact ⟨(new2 w _ _ [c.old]).1, .inr ⟨by simp, _, by omega, rfl, (new2 w _ _ [c.old]).2⟩⟩
end Go.Proofs.YtaciegkblklokaaGreat.typing
namespace Go.Proofs.YtaciegkblklokaaGreat.typing
open Go.RowKit Go.Proofs.YtaciegkblklokaaGreat.schema Go.Proofs.YtaciegkblklokaaGreat.rows
open Go.Proofs.YtaciegkblklokaaGreat.field (Gives newB gives_from)
theorem fdV_take (L : List field.Fd) (i : Nat) : (fdV L).take (i * 5) = fdV (L.take i) := by
 by_cases h : i ≤ L.length
 ·conv => lhs; rw [← List.take_append_drop i L, fdV_append]
  exact List.take_left' (by rw [fdV_length, List.length_take, Nat.min_eq_left h])
 ·rw [List.take_of_length_le (by rw [fdV_length]; omega), List.take_of_length_le (by omega)]
theorem fdV_drop (L : List field.Fd) (i : Nat) : (fdV L).drop (i * 5) = fdV (L.drop i) := by
 by_cases h : i ≤ L.length
 ·conv => lhs; rw [← List.take_append_drop i L, fdV_append]
  exact List.drop_left' (by rw [fdV_length, List.length_take, Nat.min_eq_left h])
 ·rw [List.drop_of_length_le (by rw [fdV_length]; omega), List.drop_of_length_le (by omega)]; rfl
theorem fdV_one' (f : field.Fd) : fdV [f] = fdC f := by simp [fdV]
theorem finish {w w1 w3 : World} {B m : Nat} {v v' : Value} {ys : List Value} {L : List field.Fd} (hb : Below w.heap.size w w1) (hB : w.heap.size ≤ B) (hv : ∀ k, v.ownBlock = some k → B ≤ k)
  (ho3 : w3.ownsRow B 26 5 v' m ys) (hg : w1.grownBy w3 v.ownBlock) (hy : ys = fdV L) (hm : m = L.length) : OwnsF L w (.returned v') w3 := by
 subst hy hm
 exact ⟨v', rfl, own_low ho3 hB, hb.grown hg hb.size (fun k hk => by have := hv k hk; omega)⟩
theorem replace_any (base N i : Nat) (v : Value) (xs : List Value) (H : List field.Fd) (hv : Value) (w : World) (hown : w.ownsRow base 26 5 v (N + 1) xs) (hbase : base ≤ w.heap.size) (hi : i ≤ N) (hx1 : ∀ u ∈ xs, u.oneCell' = true) (hn : N ≤ 1000)
  (hH : (H = [] ∧ hv = .slice none 0 0) ∨ (H ≠ [] ∧ H.length ≤ 2 ∧ ∃ g, hv = .slice (some ⟨g, 0, none⟩) H.length H.length ∧ Block w g 26 (fdV H) ∧ v.ownBlock ≠ some g)) :
  Calls Tryz.prog 94 #[v, .int .i64 i, .int .i64 ((i : Int) + 1), hv] w (MadeF base v.ownBlock (N + H.length) (xs.take (i * 5) ++ (fdV H ++ xs.drop ((i + 1) * 5))) w) := by
 rcases hH with ⟨rfl, rfl⟩ | ⟨h0, h2, g, rfl, hG, hgv⟩
 ·by_cases hN : i = N
  ·have := replaceF_0end base N i v xs w hown hbase hN hx1 hn
   simpa [fdV] using this
  ·have := replaceF_0mid base N i v xs w hown hbase (by omega) hx1 hn
   simpa [fdV] using this
 ·have hgo : H.length * 5 ≤ (fdV H).length := by rw [fdV_length]; exact Nat.le_refl _
  have hc : (∃ a, H = [a]) ∨ (∃ a b, H = [a, b]) := by
   cases H with
   | nil => exact absurd rfl h0
   | cons a r =>
    cases r with
    | nil => exact .inl ⟨a, rfl⟩
    | cons b q =>
     cases q with
     | nil => exact .inr ⟨a, b, rfl⟩
     | cons d t => simp at h2
  have hl := fdV_length H
  have h1 := fdV_one H
  generalize fdV H = X at *
  rcases hc with ⟨a, rfl⟩ | ⟨a, b, rfl⟩
  ·simp only [List.length_cons, List.length_nil] at hl hgo ⊢
   by_cases hN : i = N
   ·exact replaceF_1end base N i g 1 X 26 v xs X w hown hbase hN hl hG hgo hgv (fun j u hj => hj) h1 hx1 hn
   ·exact replaceF_1mid base N i g 1 X 26 v xs X w hown hbase (by omega) hl hG hgo hgv (fun j u hj => hj) h1 hx1 hn
  ·simp only [List.length_cons, List.length_nil] at hl hgo ⊢
   by_cases hN : i = N
   ·exact replaceF_2end base N i g 2 X 26 v xs X w hown hbase hN hl hG hgo hgv (fun j u hj => hj) h1 hx1 hn
   ·exact replaceF_2mid base N i g 2 X 26 v xs X w hown hbase (by omega) hl hG hgo hgv (fun j u hj => hj) h1 hx1 hn
theorem heirs_len (c : Ch) : (heirs c).length ≤ 2 := by
 unfold heirs
 repeat' split
 all_goals simp
end Go.Proofs.YtaciegkblklokaaGreat.typing
namespace Go.Proofs.YtaciegkblklokaaGreat.schema
open Go.RowKit
open Go.Proofs.YtaciegkblklokaaGreat.field (Gives newB gives_from refSize_any)
theorem refAt_any (i : Int) (a : Option Addr) (cap : Nat) (L : List field.Fd) (x : Int) (w : World) (h : field.Fds w a L) (hL : L.length ≤ maxLen) :
  Calls Tryz.prog 23 #[zS i a L.length cap, .int .i64 x] w (Gives (.int .i64 (firstAt (ids L) x)) w) := by
 have hml : (L.length : Int) ≤ 9223372036854775807 := by unfold maxLen at hL; omega
 have HX := hid (boxM i a L cap w)
 have HF := hid (h.below (newB w (.cells (zS i a L.length cap) 58)))
 obtain ⟨r, hr⟩ : ∃ r : Int, Hid (firstAt (ids L) x = r) := ⟨_, rfl⟩
 rw [hr.out]
 unfold Gives
 clear h hL
 go_enter Tryz.func23, Tryz.ntmps23
 go_wp2
 go_loopw [5] (fun n wr => ∃ k : Nat, k ≤ L.length ∧ n = .int .i64 (k : Int) ∧ Hid (x ∉ (ids L).take k) ∧ Hid (Below (w.alloc (.cells (zS i a L.length cap) 58)).heap.size (w.alloc (.cells (zS i a L.length cap) 58)) wr)) (fun n _ => L.length - (intOf n).toNat)
 case atStart => exact ⟨0, Nat.zero_le _, rfl, hid (by simp), hid (Below.refl _ _)⟩
 case round =>
  obtain ⟨k, hk, rfl, HNO, HB⟩ := hrel
  obtain ⟨z0, z1, hbo⟩ := HX.out _ HB.out
  by_cases hlt : k < L.length
  ·obtain ⟨b, off, p, rfl, hbl, hp, c0, c1, c2, c3, c4⟩ := field_at HF.out HB.out hlt
   have i1 : (k : Int) < L.length := by omega
   have HHIT := hid (fun e => first_hit HNO.out ((ids_at hp).trans (congrArg some e)))
   have HNX := hid (fun e => not_take_succ HNO.out (ids_at hp) e)
   clear hp
   by_cases hx : p.id = x
   ·have hd : (p.id == x) = true := beq_iff_eq.2 hx
    obtain rfl : (k : Int) = r := by rw [← hr.out]; exact (HHIT.out hx).symm
    clear hx
    go_wp2
    go_ret
    exact ⟨rfl, hbo⟩
   ·have hd : (p.id == x) = false := beq_eq_false_iff_ne.2 hx
    have HXX := hid hx
    clear hx
    go_wp2
    exact ⟨⟨k + 1, by omega, by go_num, hid (HNX.out HXX.out), HB⟩, by simp [intOf]; omega⟩
  ·obtain rfl : k = L.length := by omega
   obtain rfl : -1 = r := by rw [← hr.out]; have := HNO.out; rw [List.take_of_length_le (by rw [ids_length]; exact Nat.le_refl _)] at this; exact (first_none this).symm
   go_wp2
   go_ret
   exact ⟨rfl, hbo⟩
theorem refLong_any (i : Int) (a : Option Addr) (cap : Nat) (L : List field.Fd) (w : World) (h : field.Fds w a L) (hL : L.length ≤ 40) :
  Calls Tryz.prog 55 #[zS i a L.length cap] w (Gives (.int .i64 (size L : Int)) w) := by
 have HX := hid (boxM i a L cap w)
 have HF := hid (h.below (newB w (.cells (zS i a L.length cap) 58)))
 obtain ⟨S, hS⟩ : ∃ S : Nat, Hid (size L = S) := ⟨_, rfl⟩
 rw [hS.out]
 unfold Gives
 clear h
 go_enter Tryz.func55, Tryz.ntmps55
 go_wp2
 go_loopw [3, 4] (fun s n wr => ∃ k : Nat, k ≤ L.length ∧ s = .int .i64 (size (L.take k) : Int) ∧ n = .int .i64 (k : Int) ∧ Hid (Below (w.alloc (.cells (zS i a L.length cap) 58)).heap.size (w.alloc (.cells (zS i a L.length cap) 58)) wr)) (fun _ n _ => L.length - (intOf n).toNat)
 case atStart => exact ⟨0, Nat.zero_le _, rfl, rfl, hid (Below.refl _ _)⟩
 case round =>
  obtain ⟨k, hk, rfl, rfl, HB⟩ := hrel
  obtain ⟨z0, z1, hbo⟩ := HX.out _ HB.out
  by_cases hlt : k < L.length
  ·obtain ⟨b, off, p, rfl, hbl, hp, c0, c1, c2, c3, c4⟩ := field_at HF.out HB.out hlt
   have i1 : (k : Int) < L.length := by omega
   have HSZ := hid (size_succ hp)
   have hst := size_take L k
   have cs := fun w' => refSize_any p w'
   have hps := fd_size_le p
   clear hp
   generalize size (L.take k) = s at *
   go_wp2_with (go_at_call 78; ((with_reducible refine (cs _).mono ?_); rintro e w2 ⟨rfl, hb2⟩))
   exact ⟨⟨k + 1, by omega, by rw [HSZ.out]; go_num, by go_num, hid (HB.out.trans (hb2.mono HB.out.size))⟩, by simp [intOf]; omega⟩
  ·obtain rfl : k = L.length := by omega
   go_wp2
   go_ret
   exact ⟨ret_int (by rw [← hS.out, List.take_of_length_le (Nat.le_refl _)]), hbo⟩
end Go.Proofs.YtaciegkblklokaaGreat.schema
namespace Go.Proofs.YtaciegkblklokaaGreat.schema
open Go.RowKit
section
variable {o : Oper} {a : Act} {w : World}
theorem exec_two {op : BinOp} {t t' : TypeId} {x y : Operand} {vx vy u : Value} (ho : o.op = .binOp op t x y t')
  (hg : (eqGuard op t x y vx vy).run Tryz.prog w = .ok () w) (hr : (binOp op t vx vy).run Tryz.prog w = .ok u w) (hx : a.eval x = vx := by kernel_rfl) (hy : a.eval y = vy := by kernel_rfl) : (execOp a.eval o).run Tryz.prog w = .ok (.value u) w := by
 unfold execOp
 simp [ho, hx, hy, Sem.run_bind, hg, hr]
theorem exec_neq_int {x y : Operand} {t' : TypeId} {n m : Int} {r : Bool} (ho : o.op = .binOp .neq 3 x y t') (h : Hid ((n != m) = r)) (hx : a.eval x = .int .i64 n := by kernel_rfl) (hy : a.eval y = .int .i64 m := by kernel_rfl) : (execOp a.eval o).run Tryz.prog w = .ok (.value (.bool r)) w :=
 exec_two ho (hx := hx) (hy := hy) (by simp [go_sem]) (by rw [← h.out]; simp [go_sem])
theorem exec_gtr_int {x y : Operand} {t' : TypeId} {n m : Int} {r : Bool} (ho : o.op = .binOp .gtr 3 x y t') (h : Hid (decide (n > m) = r)) (hx : a.eval x = .int .i64 n := by kernel_rfl) (hy : a.eval y = .int .i64 m := by kernel_rfl) : (execOp a.eval o).run Tryz.prog w = .ok (.value (.bool r)) w :=
 exec_two ho (hx := hx) (hy := hy) (by simp [go_sem]) (by rw [← h.out]; simp [go_sem])
theorem exec_geq_int {x y : Operand} {t' : TypeId} {n m : Int} {r : Bool} (ho : o.op = .binOp .geq 3 x y t') (h : Hid (decide (n ≥ m) = r)) (hx : a.eval x = .int .i64 n := by kernel_rfl) (hy : a.eval y = .int .i64 m := by kernel_rfl) : (execOp a.eval o).run Tryz.prog w = .ok (.value (.bool r)) w :=
 exec_two ho (hx := hx) (hy := hy) (by simp [go_sem]) (by rw [← h.out]; simp [go_sem])
theorem exec_pred {x y : Operand} {t' : TypeId} {k : Nat} (ho : o.op = .binOp .sub 3 x y t') (h : k < 1000000) (hx : a.eval x = .int .i64 ((k + 1 : Nat) : Int) := by kernel_rfl) (hy : a.eval y = .int .i64 1 := by kernel_rfl) : (execOp a.eval o).run Tryz.prog w = .ok (.value (.int .i64 (k : Int))) w :=
 exec_two ho (hx := hx) (hy := hy) (by simp [go_sem]) (by
  have : IntKind.i64.wrap (((k + 1 : Nat) : Int) - 1) = (k : Int) := by rw [show ((k + 1 : Nat) : Int) - 1 = (k : Int) by omega]; exact IntWalk.i64_in _ (by omega)
  simp only [go_sem]
  rw [this]
  simp [go_sem])
theorem exec_indexF {x y : Operand} {b off len cap i : Nat} (ho : o.op = .indexAddr 30 x y) (hi : i < len) (hx : a.eval x = .slice (some ⟨b, off, none⟩) len cap := by kernel_rfl) (hy : a.eval y = .int .i64 (i : Int) := by kernel_rfl) :
  (execOp a.eval o).run Tryz.prog w = .ok (.value (.pointer (some ⟨b, off + i * 5, none⟩))) w := by
 unfold execOp
 rw [ho]
 simp only [hx, hy]
 go_simp
theorem exec_cell_int {ty : TypeId} {x : Operand} {ad : Addr} {k : IntKind} {n : Int} (ho : o.op = .load ty x) (hx : a.eval x = .pointer (some ad)) (hc : w.cell? ad = some (.int k n)) (hu : ∀ w', (isAgg ty).run Tryz.prog w' = .ok false w') :
  (execOp a.eval o).run Tryz.prog w = .ok (.value (.int k n)) w := by
 unfold execOp
 rw [ho]
 simp only [hx]
 go_simp
theorem exec_cell_slice {ty : TypeId} {x : Operand} {ad : Addr} {q : Option Addr} {n c : Nat} (ho : o.op = .load ty x) (hc : w.cell? ad = some (.slice q n c)) (hu : ∀ w', (isAgg ty).run Tryz.prog w' = .ok false w') (hx : a.eval x = .pointer (some ad) := by kernel_rfl) :
  (execOp a.eval o).run Tryz.prog w = .ok (.value (.slice q n c)) w := by
 unfold execOp
 rw [ho]
 simp only [hx]
 go_simp
theorem exec_load_at {ty : TypeId} {x : Operand} {b off : Nat} {cs : List Value} {d : TypeDesc} (ho : o.op = .load ty x) (hc : w.rangeAt b off cs)
  (hu : Tryz.prog.underlying ty = some d) (hd : d.isRow = true) (hi : (Tryz.prog.info? ty).map (·.size) = some cs.length) (hx : a.eval x = .pointer (some ⟨b, off, none⟩) := by kernel_rfl) : (execOp a.eval o).run Tryz.prog w = .ok (.value (.agg cs.toArray)) w := by
 unfold execOp
 simp [ho, hx, run_loadAt_mid w b off ty cs d hc hu hd hi]
end
theorem info_fd : Hid ((Tryz.prog.info? 26).map (·.size) = some 5) := by show _ = _; kernel_rfl
theorem info_fm : Hid ((Tryz.prog.info? 58).map (·.size) = some 2) := by show _ = _; kernel_rfl
theorem range_later {w w' : World} {b o : Nat} {cs : List Value} (h : w.rangeAt b o cs) (hb : Below w.heap.size w w') (hlt : b < w.heap.size) : w'.rangeAt b o cs := fun j v hj => (hb.cell (p := ⟨b, o + j, none⟩) hlt).trans (h j v hj)
theorem range5 {w : World} {b o : Nat} {v0 v1 v2 v3 v4 : Value} (h0 : w.cell? ⟨b, o, none⟩ = some v0) (h1 : w.cell? ⟨b, o + 1, none⟩ = some v1) (h2 : w.cell? ⟨b, o + 2, none⟩ = some v2) (h3 : w.cell? ⟨b, o + 3, none⟩ = some v3) (h4 : w.cell? ⟨b, o + 4, none⟩ = some v4) : w.rangeAt b o [v0, v1, v2, v3, v4]
 | 0, v, hj => by cases hj; exact h0
 | 1, v, hj => by cases hj; exact h1
 | 2, v, hj => by cases hj; exact h2
 | 3, v, hj => by cases hj; exact h3
 | 4, v, hj => by cases hj; exact h4
 | n + 5, v, hj => by simp at hj
theorem range2 {w : World} {b o : Nat} {v0 v1 : Value} (h0 : w.cell? ⟨b, o, none⟩ = some v0) (h1 : w.cell? ⟨b, o + 1, none⟩ = some v1) : w.rangeAt b o [v0, v1]
 | 0, v, hj => by cases hj; exact h0
 | 1, v, hj => by cases hj; exact h1
 | n + 2, v, hj => by simp at hj
theorem idxOf_lt_of_take : ∀ (l : List Int) (k : Nat) (x : Int), x ∈ l.take k → l.idxOf x < k
 | l, 0, x, h => by simp at h
 | [], k + 1, x, h => by simp at h
 | y :: l, k + 1, x, h => by
  by_cases hy : y = x
  ·subst hy; simp
  ·have hb : (y == x) = false := beq_eq_false_iff_ne.2 hy
   rw [List.take_succ_cons, List.mem_cons] at h
   have := idxOf_lt_of_take l k x (h.resolve_left (Ne.symm hy))
   rw [List.idxOf_cons, hb]
   show l.idxOf x + 1 < k + 1
   omega
theorem at_iff {l : List Int} {k : Nat} {x : Int} (h : l[k]? = some x) : firstAt l x = k ↔ x ∉ l.take k := by
 constructor
 ·intro he hm
  have := idxOf_lt_of_take l k x hm
  unfold firstAt at he
  rw [if_pos (List.mem_of_getElem? h)] at he
  omega
 ·intro hn; exact first_hit hn h
theorem ids_take (L : List field.Fd) (k : Nat) : ids (L.take k) = (ids L).take k := by unfold ids; rw [List.map_take]
end Go.Proofs.YtaciegkblklokaaGreat.schema
