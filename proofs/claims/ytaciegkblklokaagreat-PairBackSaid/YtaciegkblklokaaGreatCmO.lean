/- Contracts and lemmas that the claims of this seat share: StepSame, StepSames, StepRight, TypingForward. Each says its own conditions. -/
import Derived.Test.YtaciegkblklokaaGreatCmN
import Derived.Test.YtaciegkblklokaaGreatCmG
import Derived.Test.YtaciegkblklokaaGreatCmH
import Derived.Handy
import Derived.Conc.WalkWords
import Derived.Test.YtaciegkblklokaaGreatCmK
import Derived.Test.YtaciegkblklokaaGreatCmF
set_option linter.unusedVariables false
namespace Go.Proofs.YtaciegkblklokaaGreat.step
open Go.RowKit
open Go.Proofs.YtaciegkblklokaaGreat.field (Gives newB gives_from)
open Go.Proofs.YtaciegkblklokaaGreat.schema (below_out take_succ_at eq_take_succ neq_fd equalF_any exec_two exec_load_at exec_cell_slice info_fd)
theorem eq_seven (a b c d e f g a' b' c' d' e' f' g' : Int) (w : World) : (binOp .eql 91 (.agg #[.int .i64 a, .int .i64 b, .int .i64 c, .int .i64 d, .int .i64 e, .int .i64 f, .int .i64 g]) (.agg #[.int .i64 a', .int .i64 b', .int .i64 c', .int .i64 d', .int .i64 e', .int .i64 f', .int .i64 g'])).run Tryz.prog w = .ok (.bool (decide (a = a' ∧ b = b' ∧ c = c' ∧ d = d' ∧ e = e' ∧ f = f' ∧ g = g'))) w := by
 have u3 := Tryz.underlying3
 have a3 := Tryz.isAgg3
 have z3 := Tryz.sizeOf3
 rw [run_eql_struct, show (10000 : Nat) = 9999 + 1 from rfl, Op.equalIn]
 simp only [Sem.run_bind, run_underlying Tryz.underlying91, Result.andThen_ok]
 simp only [Std.Legacy.Range.forIn_eq_forIn_range', Std.Legacy.Range.size, Nat.sub_zero, Nat.add_sub_cancel, Nat.div_one, List.range'_succ, List.range'_zero, List.forIn_cons, List.forIn_nil]
 go_simp
 by_cases h1 : a = a'
 ·by_cases h2 : b = b'
  ·by_cases h3 : c = c'
   ·by_cases h4 : d = d'
    ·by_cases h5 : e = e'
     ·by_cases h6 : f = f'
      ·by_cases h7 : g = g' <;> simp [h1, h2, h3, h4, h5, h6, h7]
      ·simp [h1, h2, h3, h4, h5, h6]
     ·simp [h1, h2, h3, h4, h5]
    ·simp [h1, h2, h3, h4]
   ·simp [h1, h2, h3]
  ·simp [h1, h2]
 ·simp [h1]
theorem eqg_seven (x y : Operand) (u v : Array Value) (w : World) : (eqGuard .eql 91 x y (.agg u) (.agg v)).run Tryz.prog w = .ok () w :=
 run_eqGuard_agg w .eql 91 x y _ _ (by kernel_rfl)
theorem eq_fd (p q : field.Fd) (w : World) : (binOp .eql 26 (zF p) (zF q)).run Tryz.prog w = .ok (.bool (decide (p = q))) w := by
 rw [run_eql_struct, show (10000 : Nat) = 9999 + 1 from rfl, run_equalIn_struct w 9999 26 _ _ (by kernel_rfl) Tryz.stoodInHeld26]
 go_simp
 obtain ⟨i, k, lo, hi, m⟩ := p
 obtain ⟨i', k', lo', hi', m'⟩ := q
 simp only [field.Fd.mk.injEq]
 by_cases h1 : i = i'
 ·by_cases h2 : k = k'
  ·by_cases h3 : lo = lo'
   ·by_cases h4 : hi = hi'
    ·by_cases h5 : m = m' <;> simp [h1, h2, h3, h4, h5]
    ·simp [h1, h2, h3, h4]
   ·simp [h1, h2, h3]
  ·simp [h1, h2]
 ·simp [h1]
theorem eqg_fd (op : BinOp) (x y : Operand) (u v : Array Value) (w : World) : (eqGuard op 26 x y (.agg u) (.agg v)).run Tryz.prog w = .ok () w :=
 run_eqGuard_agg w op 26 x y _ _ (by kernel_rfl)
theorem eq_va (p q : field.Va) (w : World) : (binOp .eql 28 (zV p) (zV q)).run Tryz.prog w = .ok (.bool (decide (p = q))) w := by
 rw [run_eql_struct, show (10000 : Nat) = 9999 + 1 from rfl, run_equalIn_struct w 9999 28 _ _ (by kernel_rfl) Tryz.stoodInHeld28]
 go_simp
 obtain ⟨n, s⟩ := p
 obtain ⟨m, t⟩ := q
 rw [show decide ((⟨n, s⟩ : field.Va) = ⟨m, t⟩) = decide (n = m ∧ s.toList = t.toList) from decide_eq_decide.2 record.va_eq]
 by_cases h1 : n = m
 ·by_cases h2 : s.toList = t.toList <;> simp [h1, h2]
 ·simp [h1]
theorem neq_va (p q : field.Va) (w : World) : (binOp .neq 28 (zV p) (zV q)).run Tryz.prog w = .ok (.bool (!decide (p = q))) w := by
 rw [run_neq_struct, show (10000 : Nat) = 9999 + 1 from rfl, run_equalIn_struct w 9999 28 _ _ (by kernel_rfl) Tryz.stoodInHeld28]
 go_simp
 obtain ⟨n, s⟩ := p
 obtain ⟨m, t⟩ := q
 rw [show decide ((⟨n, s⟩ : field.Va) = ⟨m, t⟩) = decide (n = m ∧ s.toList = t.toList) from decide_eq_decide.2 record.va_eq]
 by_cases h1 : n = m
 ·by_cases h2 : s.toList = t.toList <;> simp [h1, h2]
 ·simp [h1]
theorem eqg_va (op : BinOp) (x y : Operand) (u v : Array Value) (w : World) : (eqGuard op 28 x y (.agg u) (.agg v)).run Tryz.prog w = .ok () w :=
 run_eqGuard_agg w op 28 x y _ _ (by kernel_rfl)
theorem equalI_any (a : Option Addr) (ca : Nat) (L : List Int) (b : Option Addr) (cb : Nat) (M : List Int) (w : World) (h : Ins w a L) (h' : Ins w b M) (hL : L.length ≤ maxLen) (hM : M.length ≤ maxLen) :
  Calls Tryz.prog 51 #[.slice a L.length ca, .slice b M.length cb] w (Gives (.bool (decide (L = M))) w) := by
 have hml : (L.length : Int) ≤ 9223372036854775807 := by unfold maxLen at hL; omega
 have hmm : (M.length : Int) ≤ 9223372036854775807 := by unfold maxLen at hM; omega
 have HF := hid h
 have HG := hid h'
 obtain ⟨r, hr⟩ : ∃ r : Bool, Hid (decide (L = M) = r) := ⟨_, rfl⟩
 rw [hr.out]
 unfold Gives
 clear h h' hL hM
 by_cases hlen : L.length = M.length
 ·have HLEN := hid hlen
  rw [← hlen]
  clear hlen hmm
  go_enter Tryz.func51, Tryz.ntmps51
  go_wp2
  go_loopw [13] (fun n wr => ∃ k : Nat, k ≤ L.length ∧ n = .int .i64 (k : Int) ∧ Hid (L.take k = M.take k) ∧ Hid (Below w.heap.size w wr)) (fun n _ => L.length - (intOf n).toNat)
  case atStart => exact ⟨0, Nat.zero_le _, rfl, hid rfl, hid (Below.refl _ _)⟩
  case round =>
   obtain ⟨k, hk, rfl, HEQ, HB⟩ := hrel
   by_cases hlt : k < L.length
   ·obtain ⟨g, off, p, rfl, hbl, hp, c0⟩ := int_at HF.out HB.out hlt
    obtain ⟨g', off', q, rfl, hbl', hq, d0⟩ := int_at HG.out HB.out (k := k) (by rw [← HLEN.out]; exact hlt)
    have i1 : (k : Int) < L.length := by omega
    have HS := hid (eq_take_succ hp hq)
    have HNE := hid (fun (hpq : ¬ p = q) => show ¬ L = M from fun e => by rw [e] at hp; exact hpq (Option.some.inj (hp.symm.trans hq)))
    clear hp hq
    by_cases hpq : p = q
    ·have HPQ := hid hpq
     have hd : (p == q) = true := by rw [beq_iff_eq]; exact hpq
     have hd2 : (p != q) = false := by simp [hpq]
     clear hpq
     go_wp2
     go_quiet (fail)
     go_wp2
     exact ⟨⟨k + 1, by omega, by go_num, hid (HS.out.2 ⟨HEQ.out, HPQ.out⟩), hid (below_drewN HB.out _)⟩, by simp [intOf]; omega⟩
    ·obtain rfl : false = r := by rw [← hr.out]; exact (decide_eq_false (HNE.out hpq)).symm
     have hd : (p == q) = false := by rw [beq_eq_false_iff_ne]; exact hpq
     have hd2 : (p != q) = true := by simp [hpq]
     clear hpq
     go_wp2
     go_quiet (fail)
     go_wp2
     go_ret
     exact ⟨rfl, below_drewN HB.out _⟩
   ·obtain rfl : k = L.length := by omega
    obtain rfl : true = r := by
     rw [← hr.out]
     have := HEQ.out
     rw [List.take_of_length_le (Nat.le_refl _), List.take_of_length_le (by rw [HLEN.out]; exact Nat.le_refl _)] at this
     exact (decide_eq_true this).symm
    go_wp2
    go_ret
    exact ⟨rfl, HB.out⟩
 ·obtain rfl : false = r := by rw [← hr.out]; exact (decide_eq_false (fun e => hlen (by rw [e]))).symm
  have hd : ((L.length : Int) == (M.length : Int)) = false := by rw [beq_eq_false_iff_ne]; omega
  clear hlen
  go_enter Tryz.func51, Tryz.ntmps51
  go_wp2
  go_ret
  exact ⟨rfl, Below.refl _ _⟩
theorem numbers_any (s : Sp) (ta : Option Addr) (tc : Nat) (la : Option Addr) (lc : Nat) (w : World) : Calls Tryz.prog 50 #[zP s ta tc la lc] w (Gives (.agg #[.int .i64 s.op, .int .i64 s.fm, .int .i64 s.fd, .int .i64 s.pl, .int .i64 s.tt, .int .i64 s.a, .int .i64 s.b]) w) := by
 have HW := hid (newB w (.cells (zP s ta tc la lc) 32))
 unfold Gives
 go_enter Tryz.func50, Tryz.ntmps50
 go_wp2
 go_returns
 exact ⟨rfl, HW.out.trans ((newB _ _).mono (by simp))⟩
end Go.Proofs.YtaciegkblklokaaGreat.step
namespace Go.Proofs.YtaciegkblklokaaGreat.step
open Go.RowKit
open Go.Proofs.YtaciegkblklokaaGreat.field (Gives newB gives_from)
open Go.Proofs.YtaciegkblklokaaGreat.schema (below_out take_succ_at eq_take_succ neq_fd equalF_any exec_two exec_load_at exec_cell_slice info_fd field_at)
theorem info_st : Hid ((Tryz.prog.info? 32).map (·.size) = some 16) := by show _ = _; kernel_rfl
theorem info_va : Hid ((Tryz.prog.info? 28).map (·.size) = some 2) := by show _ = _; kernel_rfl
theorem range_f {W : World} {B : Nat} {s : Sp} {ta : Option Addr} {tc : Nat} {la : Option Addr} {lc : Nat} (h : Block W B 32 (zP s ta tc la lc)) : W.rangeAt B 7 (zF s.f) :=
 h.range 7 _ (fun j v hj => by
  match j, hj with
  | 0, hj => exact hj
  | 1, hj => exact hj
  | 2, hj => exact hj
  | 3, hj => exact hj
  | 4, hj => exact hj
  | n + 5, hj => simp at hj)
theorem range_v {W : World} {B : Nat} {s : Sp} {ta : Option Addr} {tc : Nat} {la : Option Addr} {lc : Nat} (h : Block W B 32 (zP s ta tc la lc)) : W.rangeAt B 12 (zV s.v) :=
 h.range 12 _ (fun j v hj => by
  match j, hj with
  | 0, hj => exact hj
  | 1, hj => exact hj
  | n + 2, hj => simp at hj)
def WP2 (s : Sp) (ta : Option Addr) (tc : Nat) (la : Option Addr) (lc : Nat) (u : Sp) (ua : Option Addr) (uc : Nat) (va : Option Addr) (vc : Nat) (w : World) : World := (w.alloc (.cells (zP s ta tc la lc) 32)).alloc (.cells (zP u ua uc va vc) 32)
theorem WP2.all (s : Sp) (ta : Option Addr) (tc : Nat) (la : Option Addr) (lc : Nat) (u : Sp) (ua : Option Addr) (uc : Nat) (va : Option Addr) (vc : Nat) (w : World) : Block (WP2 s ta tc la lc u ua uc va vc w) w.heap.size 32 (zP s ta tc la lc) ∧ Block (WP2 s ta tc la lc u ua uc va vc w) (w.heap.size + 1) 32 (zP u ua uc va vc) ∧ Below w.heap.size w (WP2 s ta tc la lc u ua uc va vc w) := by
 refine ⟨(Block.new w 32 (zP s ta tc la lc)).alloc _, ?_, (newB w _).trans ((newB _ _).mono (by simp))⟩
 have h := Block.new (w.alloc (.cells (zP s ta tc la lc) 32)) 32 (zP u ua uc va vc)
 rw [show ((w.alloc (.cells (zP s ta tc la lc) 32))).heap.size = w.heap.size + 1 by simp] at h
 exact h
theorem sp_eq {s u : Sp} : s = u ↔ (s.op = u.op ∧ s.fm = u.fm ∧ s.fd = u.fd ∧ s.pl = u.pl ∧ s.tt = u.tt ∧ s.a = u.a ∧ s.b = u.b) ∧ s.f = u.f ∧ s.v = u.v ∧ s.t = u.t ∧ s.l = u.l := by
 constructor
 ·rintro rfl; simp
 ·rintro ⟨⟨h1, h2, h3, h4, h5, h6, h7⟩, h8, h9, h10, h11⟩
  cases s; cases u; simp only at *
  subst h1 h2 h3 h4 h5 h6 h7 h8 h9 h10 h11; rfl
set_option maxRecDepth 20000 in
set_option maxHeartbeats 3200000 in
theorem same_any (s : Sp) (ta : Option Addr) (tc : Nat) (la : Option Addr) (lc : Nat) (u : Sp) (ua : Option Addr) (uc : Nat) (va : Option Addr) (vc : Nat) (w : World) (h : Lists w s ta la) (h' : Lists w u ua va) :
  Calls Tryz.prog 26 #[zP s ta tc la lc, zP u ua uc va vc] w (Gives (.bool (decide (s = u))) w) := by
 obtain ⟨hA, hU, hw⟩ := WP2.all s ta tc la lc u ua uc va vc w
 have hl1 := h.below hw
 have hl2 := h'.below hw
 unfold WP2 at hA hU hw hl1 hl2
 obtain ⟨W0, hW0⟩ : ∃ x, (w.alloc (.cells (zP s ta tc la lc) 32)).alloc (.cells (zP u ua uc va vc) 32) = x := ⟨_, rfl⟩
 have HW0 := hid hW0
 rw [hW0] at hA hU hw hl1 hl2
 have HZ : Hid (∀ w', Below W0.heap.size W0 w' → Block w' w.heap.size 32 (zP s ta tc la lc) ∧ Block w' (w.heap.size + 1) 32 (zP u ua uc va vc)) := hid (fun w' hb => ⟨hA.later hb, hU.later hb⟩)
 have HL1 := hid hl1
 have HL2 := hid hl2
 have HB0 := hid hw
 have cN1 := fun w' => numbers_any s ta tc la lc w'
 have cN2 := fun w' => numbers_any u ua uc va vc w'
 have cT0 := fun w' (hb : Below W0.heap.size W0 w') => equalI_any ta tc s.t ua uc u.t w' (HL1.out.below hb).t (HL2.out.below hb).t HL1.out.mt HL2.out.mt
 have cL0 := fun w' (hb : Below W0.heap.size W0 w') => equalF_any la lc s.l va vc u.l w' (HL1.out.below hb).l (HL2.out.below hb).l HL1.out.ml HL2.out.ml
 obtain ⟨r, hr⟩ : ∃ r : Bool, Hid (decide (s = u) = r) := ⟨_, rfl⟩
 rw [hr.out]
 unfold Gives at cN1 cN2 cT0 cL0 ⊢
 clear h h' hA hU hw hl1 hl2 hW0
 by_cases h0 : s.op = u.op ∧ s.fm = u.fm ∧ s.fd = u.fd ∧ s.pl = u.pl ∧ s.tt = u.tt ∧ s.a = u.a ∧ s.b = u.b
 ·have HE0 := hid (fun W => eq_seven s.op s.fm s.fd s.pl s.tt s.a s.b u.op u.fm u.fd u.pl u.tt u.a u.b W)
  rw [decide_eq_true h0] at HE0
  by_cases h1 : s.f = u.f
  ·have HE1 := hid (fun W => eq_fd s.f u.f W)
   rw [decide_eq_true h1] at HE1
   by_cases h2 : s.v = u.v
   ·have HE2 := hid (fun W => eq_va s.v u.v W)
    rw [decide_eq_true h2] at HE2
    by_cases h3 : s.t = u.t
    ·have cT := cT0
     rw [decide_eq_true h3] at cT
     have cL := cL0
     rw [show decide (s.l = u.l) = r by rw [← hr.out]; exact decide_eq_decide.2 ⟨fun e => sp_eq.2 ⟨h0, h1, h2, h3, e⟩, fun e => (sp_eq.1 e).2.2.2.2⟩] at cL
     clear h0 h1 h2 h3 cT0 cL0
     go_enter Tryz.func26, Tryz.ntmps26
     go_wp2
     rw [HW0.out]
     have hb : Below W0.heap.size W0 W0.drew := below_drewN (Below.refl _ _) 1
     refine plan.region (by kernel_rfl) ?_
     refine plan.Rest.first 0 _ (zP s ta tc la lc) rfl (fun w' hb' => exec_load_at (b := w.heap.size) (off := 0) rfl ((HZ.out _ (hb.trans (hb'.mono hb.size))).1).whole Tryz.underlying32 rfl info_st.out) ?_
     refine plan.Rest.first 2 _ (zP u ua uc va vc) rfl (fun w' hb' => exec_load_at (b := w.heap.size + 1) (off := 0) rfl ((HZ.out _ (hb.trans (hb'.mono hb.size))).2).whole Tryz.underlying32 rfl info_st.out) ?_
     refine plan.Rest.call 1 _ 50 #[zP s ta tc la lc] rfl ((cN1 W0.drew).mono ?_)
     rintro e W1 ⟨rfl, hn⟩
     have hb := hb.trans (hn.mono hb.size)
     refine ⟨_, rfl, hn, ?_⟩
     refine plan.Rest.call 3 _ 50 #[zP u ua uc va vc] rfl ((cN2 W1).mono ?_)
     rintro e W2 ⟨rfl, hn⟩
     have hb := hb.trans (hn.mono hb.size)
     refine ⟨_, rfl, hn, ?_⟩
     refine plan.Rest.first 4 _ (.bool true) rfl (fun w' hb' => (exec_two rfl (eqg_seven _ _ _ _ _) (HE0.out _))) ?_
     refine plan.Rest.first 5 _ (.bool true) rfl (fun w' hb' => (by kernel_rfl)) ?_
     refine plan.Rest.first 6 _ (.pointer (some ⟨w.heap.size, 7, none⟩)) rfl (fun w' hb' => (by kernel_rfl)) ?_
     refine plan.Rest.first 7 _ (zF s.f) rfl (fun w' hb' => exec_load_at (b := w.heap.size) (off := 7) rfl (range_f ((HZ.out _ (hb.trans (hb'.mono hb.size))).1)) Tryz.underlying26 rfl info_fd.out) ?_
     refine plan.Rest.first 8 _ (.pointer (some ⟨w.heap.size + 1, 7, none⟩)) rfl (fun w' hb' => (by kernel_rfl)) ?_
     refine plan.Rest.first 9 _ (zF u.f) rfl (fun w' hb' => exec_load_at (b := w.heap.size + 1) (off := 7) rfl (range_f ((HZ.out _ (hb.trans (hb'.mono hb.size))).2)) Tryz.underlying26 rfl info_fd.out) ?_
     refine plan.Rest.first 10 _ (.bool true) rfl (fun w' hb' => (exec_two rfl (eqg_fd _ _ _ _ _ _) (HE1.out _))) ?_
     refine plan.Rest.first 11 _ (.bool true) rfl (fun w' hb' => (by kernel_rfl)) ?_
     refine plan.Rest.first 12 _ (.bool true) rfl (fun w' hb' => (by kernel_rfl)) ?_
     refine plan.Rest.first 13 _ (.pointer (some ⟨w.heap.size, 12, none⟩)) rfl (fun w' hb' => (by kernel_rfl)) ?_
     refine plan.Rest.first 14 _ (zV s.v) rfl (fun w' hb' => exec_load_at (b := w.heap.size) (off := 12) rfl (range_v ((HZ.out _ (hb.trans (hb'.mono hb.size))).1)) Tryz.underlying28 rfl info_va.out) ?_
     refine plan.Rest.first 15 _ (.pointer (some ⟨w.heap.size + 1, 12, none⟩)) rfl (fun w' hb' => (by kernel_rfl)) ?_
     refine plan.Rest.first 16 _ (zV u.v) rfl (fun w' hb' => exec_load_at (b := w.heap.size + 1) (off := 12) rfl (range_v ((HZ.out _ (hb.trans (hb'.mono hb.size))).2)) Tryz.underlying28 rfl info_va.out) ?_
     refine plan.Rest.first 17 _ (.bool true) rfl (fun w' hb' => (exec_two rfl (eqg_va _ _ _ _ _ _) (HE2.out _))) ?_
     refine plan.Rest.first 18 _ (.bool true) rfl (fun w' hb' => (by kernel_rfl)) ?_
     refine plan.Rest.first 19 _ (.bool true) rfl (fun w' hb' => (by kernel_rfl)) ?_
     refine plan.Rest.first 20 _ (.pointer (some ⟨w.heap.size, 14, none⟩)) rfl (fun w' hb' => (by kernel_rfl)) ?_
     refine plan.Rest.first 21 _ (.slice ta s.t.length tc) rfl (fun w' hb' => exec_cell_slice (ad := ⟨w.heap.size, 14, none⟩) rfl (((HZ.out _ (hb.trans (hb'.mono hb.size))).1).cell 14) Tryz.isAgg29) ?_
     refine plan.Rest.first 22 _ (.pointer (some ⟨w.heap.size + 1, 14, none⟩)) rfl (fun w' hb' => (by kernel_rfl)) ?_
     refine plan.Rest.first 23 _ (.slice ua u.t.length uc) rfl (fun w' hb' => exec_cell_slice (ad := ⟨w.heap.size + 1, 14, none⟩) rfl (((HZ.out _ (hb.trans (hb'.mono hb.size))).2).cell 14) Tryz.isAgg29) ?_
     refine plan.Rest.call 24 _ 51 #[.slice ta s.t.length tc, .slice ua u.t.length uc] rfl ((cT W2 hb).mono ?_)
     rintro e W3 ⟨rfl, hn⟩
     have hb := hb.trans (hn.mono hb.size)
     refine ⟨_, rfl, hn, ?_⟩
     refine plan.Rest.first 25 _ (.bool true) rfl (fun w' hb' => (by kernel_rfl)) ?_
     refine plan.Rest.first 26 _ (.bool true) rfl (fun w' hb' => (by kernel_rfl)) ?_
     refine plan.Rest.first 27 _ (.pointer (some ⟨w.heap.size, 15, none⟩)) rfl (fun w' hb' => (by kernel_rfl)) ?_
     refine plan.Rest.first 28 _ (.slice la s.l.length lc) rfl (fun w' hb' => exec_cell_slice (ad := ⟨w.heap.size, 15, none⟩) rfl (((HZ.out _ (hb.trans (hb'.mono hb.size))).1).cell 15) Tryz.isAgg30) ?_
     refine plan.Rest.first 29 _ (.pointer (some ⟨w.heap.size + 1, 15, none⟩)) rfl (fun w' hb' => (by kernel_rfl)) ?_
     refine plan.Rest.first 30 _ (.slice va u.l.length vc) rfl (fun w' hb' => exec_cell_slice (ad := ⟨w.heap.size + 1, 15, none⟩) rfl (((HZ.out _ (hb.trans (hb'.mono hb.size))).2).cell 15) Tryz.isAgg30) ?_
     refine plan.Rest.call 31 _ 52 #[.slice la s.l.length lc, .slice va u.l.length vc] rfl ((cL W3 hb).mono ?_)
     rintro e W4 ⟨rfl, hn⟩
     have hb := hb.trans (hn.mono hb.size)
     refine ⟨_, rfl, hn, ?_⟩
     refine plan.Rest.first 32 _ (.bool r) rfl (fun w' hb' => (by kernel_rfl)) ?_
     refine plan.Rest.value 33 _ (.bool r) rfl ?_
     refine plan.Rest.done ?_
     walk_nrm
     go_wp2
     go_ret
     exact ⟨rfl, HB0.out.trans (hb.mono HB0.out.size)⟩
    ·have cT := cT0
     rw [decide_eq_false h3] at cT
     obtain rfl : false = r := by rw [← hr.out]; exact (decide_eq_false (fun e => h3 (sp_eq.1 e).2.2.2.1)).symm
     clear h0 h1 h2 h3 cT0 cL0
     go_enter Tryz.func26, Tryz.ntmps26
     go_wp2
     rw [HW0.out]
     have hb : Below W0.heap.size W0 W0.drew := below_drewN (Below.refl _ _) 1
     refine plan.region (by kernel_rfl) ?_
     refine plan.Rest.first 0 _ (zP s ta tc la lc) rfl (fun w' hb' => exec_load_at (b := w.heap.size) (off := 0) rfl ((HZ.out _ (hb.trans (hb'.mono hb.size))).1).whole Tryz.underlying32 rfl info_st.out) ?_
     refine plan.Rest.first 2 _ (zP u ua uc va vc) rfl (fun w' hb' => exec_load_at (b := w.heap.size + 1) (off := 0) rfl ((HZ.out _ (hb.trans (hb'.mono hb.size))).2).whole Tryz.underlying32 rfl info_st.out) ?_
     refine plan.Rest.call 1 _ 50 #[zP s ta tc la lc] rfl ((cN1 W0.drew).mono ?_)
     rintro e W1 ⟨rfl, hn⟩
     have hb := hb.trans (hn.mono hb.size)
     refine ⟨_, rfl, hn, ?_⟩
     refine plan.Rest.call 3 _ 50 #[zP u ua uc va vc] rfl ((cN2 W1).mono ?_)
     rintro e W2 ⟨rfl, hn⟩
     have hb := hb.trans (hn.mono hb.size)
     refine ⟨_, rfl, hn, ?_⟩
     refine plan.Rest.first 4 _ (.bool true) rfl (fun w' hb' => (exec_two rfl (eqg_seven _ _ _ _ _) (HE0.out _))) ?_
     refine plan.Rest.first 5 _ (.bool true) rfl (fun w' hb' => (by kernel_rfl)) ?_
     refine plan.Rest.first 6 _ (.pointer (some ⟨w.heap.size, 7, none⟩)) rfl (fun w' hb' => (by kernel_rfl)) ?_
     refine plan.Rest.first 7 _ (zF s.f) rfl (fun w' hb' => exec_load_at (b := w.heap.size) (off := 7) rfl (range_f ((HZ.out _ (hb.trans (hb'.mono hb.size))).1)) Tryz.underlying26 rfl info_fd.out) ?_
     refine plan.Rest.first 8 _ (.pointer (some ⟨w.heap.size + 1, 7, none⟩)) rfl (fun w' hb' => (by kernel_rfl)) ?_
     refine plan.Rest.first 9 _ (zF u.f) rfl (fun w' hb' => exec_load_at (b := w.heap.size + 1) (off := 7) rfl (range_f ((HZ.out _ (hb.trans (hb'.mono hb.size))).2)) Tryz.underlying26 rfl info_fd.out) ?_
     refine plan.Rest.first 10 _ (.bool true) rfl (fun w' hb' => (exec_two rfl (eqg_fd _ _ _ _ _ _) (HE1.out _))) ?_
     refine plan.Rest.first 11 _ (.bool true) rfl (fun w' hb' => (by kernel_rfl)) ?_
     refine plan.Rest.first 12 _ (.bool true) rfl (fun w' hb' => (by kernel_rfl)) ?_
     refine plan.Rest.first 13 _ (.pointer (some ⟨w.heap.size, 12, none⟩)) rfl (fun w' hb' => (by kernel_rfl)) ?_
     refine plan.Rest.first 14 _ (zV s.v) rfl (fun w' hb' => exec_load_at (b := w.heap.size) (off := 12) rfl (range_v ((HZ.out _ (hb.trans (hb'.mono hb.size))).1)) Tryz.underlying28 rfl info_va.out) ?_
     refine plan.Rest.first 15 _ (.pointer (some ⟨w.heap.size + 1, 12, none⟩)) rfl (fun w' hb' => (by kernel_rfl)) ?_
     refine plan.Rest.first 16 _ (zV u.v) rfl (fun w' hb' => exec_load_at (b := w.heap.size + 1) (off := 12) rfl (range_v ((HZ.out _ (hb.trans (hb'.mono hb.size))).2)) Tryz.underlying28 rfl info_va.out) ?_
     refine plan.Rest.first 17 _ (.bool true) rfl (fun w' hb' => (exec_two rfl (eqg_va _ _ _ _ _ _) (HE2.out _))) ?_
     refine plan.Rest.first 18 _ (.bool true) rfl (fun w' hb' => (by kernel_rfl)) ?_
     refine plan.Rest.first 19 _ (.bool true) rfl (fun w' hb' => (by kernel_rfl)) ?_
     refine plan.Rest.first 20 _ (.pointer (some ⟨w.heap.size, 14, none⟩)) rfl (fun w' hb' => (by kernel_rfl)) ?_
     refine plan.Rest.first 21 _ (.slice ta s.t.length tc) rfl (fun w' hb' => exec_cell_slice (ad := ⟨w.heap.size, 14, none⟩) rfl (((HZ.out _ (hb.trans (hb'.mono hb.size))).1).cell 14) Tryz.isAgg29) ?_
     refine plan.Rest.first 22 _ (.pointer (some ⟨w.heap.size + 1, 14, none⟩)) rfl (fun w' hb' => (by kernel_rfl)) ?_
     refine plan.Rest.first 23 _ (.slice ua u.t.length uc) rfl (fun w' hb' => exec_cell_slice (ad := ⟨w.heap.size + 1, 14, none⟩) rfl (((HZ.out _ (hb.trans (hb'.mono hb.size))).2).cell 14) Tryz.isAgg29) ?_
     refine plan.Rest.call 24 _ 51 #[.slice ta s.t.length tc, .slice ua u.t.length uc] rfl ((cT W2 hb).mono ?_)
     rintro e W3 ⟨rfl, hn⟩
     have hb := hb.trans (hn.mono hb.size)
     refine ⟨_, rfl, hn, ?_⟩
     refine plan.Rest.first 25 _ (.bool false) rfl (fun w' hb' => (by kernel_rfl)) ?_
     refine plan.Rest.first 26 _ (.bool false) rfl (fun w' hb' => (by kernel_rfl)) ?_
     refine plan.Rest.skip 27 _ rfl ?_
     refine plan.Rest.skip 28 _ rfl ?_
     refine plan.Rest.skip 29 _ rfl ?_
     refine plan.Rest.skip 30 _ rfl ?_
     refine plan.Rest.skip 31 _ rfl ?_
     refine plan.Rest.first 32 _ (.bool false) rfl (fun w' hb' => (by kernel_rfl)) ?_
     refine plan.Rest.value 33 _ (.bool false) rfl ?_
     refine plan.Rest.done ?_
     walk_nrm
     go_wp2
     go_ret
     exact ⟨rfl, HB0.out.trans (hb.mono HB0.out.size)⟩
   ·have HE2 := hid (fun W => eq_va s.v u.v W)
    rw [decide_eq_false h2] at HE2
    obtain rfl : false = r := by rw [← hr.out]; exact (decide_eq_false (fun e => h2 (sp_eq.1 e).2.2.1)).symm
    clear h0 h1 h2 cT0 cL0
    go_enter Tryz.func26, Tryz.ntmps26
    go_wp2
    rw [HW0.out]
    have hb : Below W0.heap.size W0 W0.drew := below_drewN (Below.refl _ _) 1
    refine plan.region (by kernel_rfl) ?_
    refine plan.Rest.first 0 _ (zP s ta tc la lc) rfl (fun w' hb' => exec_load_at (b := w.heap.size) (off := 0) rfl ((HZ.out _ (hb.trans (hb'.mono hb.size))).1).whole Tryz.underlying32 rfl info_st.out) ?_
    refine plan.Rest.first 2 _ (zP u ua uc va vc) rfl (fun w' hb' => exec_load_at (b := w.heap.size + 1) (off := 0) rfl ((HZ.out _ (hb.trans (hb'.mono hb.size))).2).whole Tryz.underlying32 rfl info_st.out) ?_
    refine plan.Rest.call 1 _ 50 #[zP s ta tc la lc] rfl ((cN1 W0.drew).mono ?_)
    rintro e W1 ⟨rfl, hn⟩
    have hb := hb.trans (hn.mono hb.size)
    refine ⟨_, rfl, hn, ?_⟩
    refine plan.Rest.call 3 _ 50 #[zP u ua uc va vc] rfl ((cN2 W1).mono ?_)
    rintro e W2 ⟨rfl, hn⟩
    have hb := hb.trans (hn.mono hb.size)
    refine ⟨_, rfl, hn, ?_⟩
    refine plan.Rest.first 4 _ (.bool true) rfl (fun w' hb' => (exec_two rfl (eqg_seven _ _ _ _ _) (HE0.out _))) ?_
    refine plan.Rest.first 5 _ (.bool true) rfl (fun w' hb' => (by kernel_rfl)) ?_
    refine plan.Rest.first 6 _ (.pointer (some ⟨w.heap.size, 7, none⟩)) rfl (fun w' hb' => (by kernel_rfl)) ?_
    refine plan.Rest.first 7 _ (zF s.f) rfl (fun w' hb' => exec_load_at (b := w.heap.size) (off := 7) rfl (range_f ((HZ.out _ (hb.trans (hb'.mono hb.size))).1)) Tryz.underlying26 rfl info_fd.out) ?_
    refine plan.Rest.first 8 _ (.pointer (some ⟨w.heap.size + 1, 7, none⟩)) rfl (fun w' hb' => (by kernel_rfl)) ?_
    refine plan.Rest.first 9 _ (zF u.f) rfl (fun w' hb' => exec_load_at (b := w.heap.size + 1) (off := 7) rfl (range_f ((HZ.out _ (hb.trans (hb'.mono hb.size))).2)) Tryz.underlying26 rfl info_fd.out) ?_
    refine plan.Rest.first 10 _ (.bool true) rfl (fun w' hb' => (exec_two rfl (eqg_fd _ _ _ _ _ _) (HE1.out _))) ?_
    refine plan.Rest.first 11 _ (.bool true) rfl (fun w' hb' => (by kernel_rfl)) ?_
    refine plan.Rest.first 12 _ (.bool true) rfl (fun w' hb' => (by kernel_rfl)) ?_
    refine plan.Rest.first 13 _ (.pointer (some ⟨w.heap.size, 12, none⟩)) rfl (fun w' hb' => (by kernel_rfl)) ?_
    refine plan.Rest.first 14 _ (zV s.v) rfl (fun w' hb' => exec_load_at (b := w.heap.size) (off := 12) rfl (range_v ((HZ.out _ (hb.trans (hb'.mono hb.size))).1)) Tryz.underlying28 rfl info_va.out) ?_
    refine plan.Rest.first 15 _ (.pointer (some ⟨w.heap.size + 1, 12, none⟩)) rfl (fun w' hb' => (by kernel_rfl)) ?_
    refine plan.Rest.first 16 _ (zV u.v) rfl (fun w' hb' => exec_load_at (b := w.heap.size + 1) (off := 12) rfl (range_v ((HZ.out _ (hb.trans (hb'.mono hb.size))).2)) Tryz.underlying28 rfl info_va.out) ?_
    refine plan.Rest.first 17 _ (.bool false) rfl (fun w' hb' => (exec_two rfl (eqg_va _ _ _ _ _ _) (HE2.out _))) ?_
    refine plan.Rest.first 18 _ (.bool false) rfl (fun w' hb' => (by kernel_rfl)) ?_
    refine plan.Rest.first 19 _ (.bool false) rfl (fun w' hb' => (by kernel_rfl)) ?_
    refine plan.Rest.skip 20 _ rfl ?_
    refine plan.Rest.skip 21 _ rfl ?_
    refine plan.Rest.skip 22 _ rfl ?_
    refine plan.Rest.skip 23 _ rfl ?_
    refine plan.Rest.skip 24 _ rfl ?_
    refine plan.Rest.first 25 _ (.bool false) rfl (fun w' hb' => (by kernel_rfl)) ?_
    refine plan.Rest.first 26 _ (.bool false) rfl (fun w' hb' => (by kernel_rfl)) ?_
    refine plan.Rest.skip 27 _ rfl ?_
    refine plan.Rest.skip 28 _ rfl ?_
    refine plan.Rest.skip 29 _ rfl ?_
    refine plan.Rest.skip 30 _ rfl ?_
    refine plan.Rest.skip 31 _ rfl ?_
    refine plan.Rest.first 32 _ (.bool false) rfl (fun w' hb' => (by kernel_rfl)) ?_
    refine plan.Rest.value 33 _ (.bool false) rfl ?_
    refine plan.Rest.done ?_
    walk_nrm
    go_wp2
    go_ret
    exact ⟨rfl, HB0.out.trans (hb.mono HB0.out.size)⟩
  ·have HE1 := hid (fun W => eq_fd s.f u.f W)
   rw [decide_eq_false h1] at HE1
   obtain rfl : false = r := by rw [← hr.out]; exact (decide_eq_false (fun e => h1 (sp_eq.1 e).2.1)).symm
   clear h0 h1 cT0 cL0
   go_enter Tryz.func26, Tryz.ntmps26
   go_wp2
   rw [HW0.out]
   have hb : Below W0.heap.size W0 W0.drew := below_drewN (Below.refl _ _) 1
   refine plan.region (by kernel_rfl) ?_
   refine plan.Rest.first 0 _ (zP s ta tc la lc) rfl (fun w' hb' => exec_load_at (b := w.heap.size) (off := 0) rfl ((HZ.out _ (hb.trans (hb'.mono hb.size))).1).whole Tryz.underlying32 rfl info_st.out) ?_
   refine plan.Rest.first 2 _ (zP u ua uc va vc) rfl (fun w' hb' => exec_load_at (b := w.heap.size + 1) (off := 0) rfl ((HZ.out _ (hb.trans (hb'.mono hb.size))).2).whole Tryz.underlying32 rfl info_st.out) ?_
   refine plan.Rest.call 1 _ 50 #[zP s ta tc la lc] rfl ((cN1 W0.drew).mono ?_)
   rintro e W1 ⟨rfl, hn⟩
   have hb := hb.trans (hn.mono hb.size)
   refine ⟨_, rfl, hn, ?_⟩
   refine plan.Rest.call 3 _ 50 #[zP u ua uc va vc] rfl ((cN2 W1).mono ?_)
   rintro e W2 ⟨rfl, hn⟩
   have hb := hb.trans (hn.mono hb.size)
   refine ⟨_, rfl, hn, ?_⟩
   refine plan.Rest.first 4 _ (.bool true) rfl (fun w' hb' => (exec_two rfl (eqg_seven _ _ _ _ _) (HE0.out _))) ?_
   refine plan.Rest.first 5 _ (.bool true) rfl (fun w' hb' => (by kernel_rfl)) ?_
   refine plan.Rest.first 6 _ (.pointer (some ⟨w.heap.size, 7, none⟩)) rfl (fun w' hb' => (by kernel_rfl)) ?_
   refine plan.Rest.first 7 _ (zF s.f) rfl (fun w' hb' => exec_load_at (b := w.heap.size) (off := 7) rfl (range_f ((HZ.out _ (hb.trans (hb'.mono hb.size))).1)) Tryz.underlying26 rfl info_fd.out) ?_
   refine plan.Rest.first 8 _ (.pointer (some ⟨w.heap.size + 1, 7, none⟩)) rfl (fun w' hb' => (by kernel_rfl)) ?_
   refine plan.Rest.first 9 _ (zF u.f) rfl (fun w' hb' => exec_load_at (b := w.heap.size + 1) (off := 7) rfl (range_f ((HZ.out _ (hb.trans (hb'.mono hb.size))).2)) Tryz.underlying26 rfl info_fd.out) ?_
   refine plan.Rest.first 10 _ (.bool false) rfl (fun w' hb' => (exec_two rfl (eqg_fd _ _ _ _ _ _) (HE1.out _))) ?_
   refine plan.Rest.first 11 _ (.bool false) rfl (fun w' hb' => (by kernel_rfl)) ?_
   refine plan.Rest.first 12 _ (.bool false) rfl (fun w' hb' => (by kernel_rfl)) ?_
   refine plan.Rest.skip 13 _ rfl ?_
   refine plan.Rest.skip 14 _ rfl ?_
   refine plan.Rest.skip 15 _ rfl ?_
   refine plan.Rest.skip 16 _ rfl ?_
   refine plan.Rest.skip 17 _ rfl ?_
   refine plan.Rest.first 18 _ (.bool false) rfl (fun w' hb' => (by kernel_rfl)) ?_
   refine plan.Rest.first 19 _ (.bool false) rfl (fun w' hb' => (by kernel_rfl)) ?_
   refine plan.Rest.skip 20 _ rfl ?_
   refine plan.Rest.skip 21 _ rfl ?_
   refine plan.Rest.skip 22 _ rfl ?_
   refine plan.Rest.skip 23 _ rfl ?_
   refine plan.Rest.skip 24 _ rfl ?_
   refine plan.Rest.first 25 _ (.bool false) rfl (fun w' hb' => (by kernel_rfl)) ?_
   refine plan.Rest.first 26 _ (.bool false) rfl (fun w' hb' => (by kernel_rfl)) ?_
   refine plan.Rest.skip 27 _ rfl ?_
   refine plan.Rest.skip 28 _ rfl ?_
   refine plan.Rest.skip 29 _ rfl ?_
   refine plan.Rest.skip 30 _ rfl ?_
   refine plan.Rest.skip 31 _ rfl ?_
   refine plan.Rest.first 32 _ (.bool false) rfl (fun w' hb' => (by kernel_rfl)) ?_
   refine plan.Rest.value 33 _ (.bool false) rfl ?_
   refine plan.Rest.done ?_
   walk_nrm
   go_wp2
   go_ret
   exact ⟨rfl, HB0.out.trans (hb.mono HB0.out.size)⟩
 ·have HE0 := hid (fun W => eq_seven s.op s.fm s.fd s.pl s.tt s.a s.b u.op u.fm u.fd u.pl u.tt u.a u.b W)
  rw [decide_eq_false h0] at HE0
  obtain rfl : false = r := by rw [← hr.out]; exact (decide_eq_false (fun e => h0 (sp_eq.1 e).1)).symm
  clear h0 cT0 cL0
  go_enter Tryz.func26, Tryz.ntmps26
  go_wp2
  rw [HW0.out]
  have hb : Below W0.heap.size W0 W0.drew := below_drewN (Below.refl _ _) 1
  refine plan.region (by kernel_rfl) ?_
  refine plan.Rest.first 0 _ (zP s ta tc la lc) rfl (fun w' hb' => exec_load_at (b := w.heap.size) (off := 0) rfl ((HZ.out _ (hb.trans (hb'.mono hb.size))).1).whole Tryz.underlying32 rfl info_st.out) ?_
  refine plan.Rest.first 2 _ (zP u ua uc va vc) rfl (fun w' hb' => exec_load_at (b := w.heap.size + 1) (off := 0) rfl ((HZ.out _ (hb.trans (hb'.mono hb.size))).2).whole Tryz.underlying32 rfl info_st.out) ?_
  refine plan.Rest.call 1 _ 50 #[zP s ta tc la lc] rfl ((cN1 W0.drew).mono ?_)
  rintro e W1 ⟨rfl, hn⟩
  have hb := hb.trans (hn.mono hb.size)
  refine ⟨_, rfl, hn, ?_⟩
  refine plan.Rest.call 3 _ 50 #[zP u ua uc va vc] rfl ((cN2 W1).mono ?_)
  rintro e W2 ⟨rfl, hn⟩
  have hb := hb.trans (hn.mono hb.size)
  refine ⟨_, rfl, hn, ?_⟩
  refine plan.Rest.first 4 _ (.bool false) rfl (fun w' hb' => (exec_two rfl (eqg_seven _ _ _ _ _) (HE0.out _))) ?_
  refine plan.Rest.first 5 _ (.bool false) rfl (fun w' hb' => (by kernel_rfl)) ?_
  refine plan.Rest.skip 6 _ rfl ?_
  refine plan.Rest.skip 7 _ rfl ?_
  refine plan.Rest.skip 8 _ rfl ?_
  refine plan.Rest.skip 9 _ rfl ?_
  refine plan.Rest.skip 10 _ rfl ?_
  refine plan.Rest.first 11 _ (.bool false) rfl (fun w' hb' => (by kernel_rfl)) ?_
  refine plan.Rest.first 12 _ (.bool false) rfl (fun w' hb' => (by kernel_rfl)) ?_
  refine plan.Rest.skip 13 _ rfl ?_
  refine plan.Rest.skip 14 _ rfl ?_
  refine plan.Rest.skip 15 _ rfl ?_
  refine plan.Rest.skip 16 _ rfl ?_
  refine plan.Rest.skip 17 _ rfl ?_
  refine plan.Rest.first 18 _ (.bool false) rfl (fun w' hb' => (by kernel_rfl)) ?_
  refine plan.Rest.first 19 _ (.bool false) rfl (fun w' hb' => (by kernel_rfl)) ?_
  refine plan.Rest.skip 20 _ rfl ?_
  refine plan.Rest.skip 21 _ rfl ?_
  refine plan.Rest.skip 22 _ rfl ?_
  refine plan.Rest.skip 23 _ rfl ?_
  refine plan.Rest.skip 24 _ rfl ?_
  refine plan.Rest.first 25 _ (.bool false) rfl (fun w' hb' => (by kernel_rfl)) ?_
  refine plan.Rest.first 26 _ (.bool false) rfl (fun w' hb' => (by kernel_rfl)) ?_
  refine plan.Rest.skip 27 _ rfl ?_
  refine plan.Rest.skip 28 _ rfl ?_
  refine plan.Rest.skip 29 _ rfl ?_
  refine plan.Rest.skip 30 _ rfl ?_
  refine plan.Rest.skip 31 _ rfl ?_
  refine plan.Rest.first 32 _ (.bool false) rfl (fun w' hb' => (by kernel_rfl)) ?_
  refine plan.Rest.value 33 _ (.bool false) rfl ?_
  refine plan.Rest.done ?_
  walk_nrm
  go_wp2
  go_ret
  exact ⟨rfl, HB0.out.trans (hb.mono HB0.out.size)⟩
end Go.Proofs.YtaciegkblklokaaGreat.step
namespace Go.Proofs.YtaciegkblklokaaGreat.step
open Go.RowKit
open Go.Proofs.YtaciegkblklokaaGreat.field (Gives newB gives_from)
open Go.Proofs.YtaciegkblklokaaGreat.schema (below_out take_succ_at)
def Sp.bareK (s : Sp) (k : Nat) : Sp := ((mem s.op).take k).foldl Sp.clear { s with op := 0 }
theorem bareK_succ {s : Sp} {k m : Nat} (h : (mem s.op)[k]? = some m) : s.bareK (k + 1) = (s.bareK k).clear m := by
 unfold Sp.bareK
 rw [take_succ_at h, List.foldl_append]
 rfl
theorem bareK_all (s : Sp) : s.bareK (mem s.op).length = (mem s.op).foldl Sp.clear { s with op := 0 } := by
 unfold Sp.bareK
 rw [List.take_of_length_le (Nat.le_refl _)]
theorem memI_cell {w w' : World} {a : Option Addr} {op : Int} (h : Ins w a (memI op)) (hb : Below w.heap.size w w') {k : Nat} (hk : k < (mem op).length) :
  ∃ b off m, a = some ⟨b, off, none⟩ ∧ b < w'.heap.size ∧ (mem op)[k]? = some m ∧ m < 12 ∧ w'.cell? ⟨b, off + k, none⟩ = some (.int .i64 (m : Int)) := by
 obtain ⟨b, off, p, h1, h2, h3, h4⟩ := int_at h hb (k := k) (by rw [memI_len]; exact hk)
 have hm := List.getElem?_eq_getElem hk
 have h5 := memI_at hm
 rw [h3] at h5
 obtain rfl := Option.some.inj h5
 exact ⟨b, off, _, h1, h2, hm, mem_lt op _ (List.mem_of_getElem? hm), h4⟩
set_option maxRecDepth 20000 in
set_option maxHeartbeats 3200000 in
theorem right_any (s : Sp) (ta : Option Addr) (tc : Nat) (la : Option Addr) (lc : Nat) (w : World) (h : Lists w s ta la) : Calls Tryz.prog 59 #[zP s ta tc la lc] w (Gives (.bool (decide s.Right)) w) := by
 have HX := hid (boxP s ta tc la lc w)
 have HL := hid (h.below (newB w (.cells (zP s ta tc la lc) 32)))
 have cM := members_any s.op (w.alloc (.cells (zP s ta tc la lc) 32))
 obtain ⟨r, hr⟩ : ∃ r : Bool, Hid (decide s.Right = r) := ⟨_, rfl⟩
 rw [hr.out]
 unfold Gives
 unfold Members at cM
 clear h
 go_enter Tryz.func59, Tryz.ntmps59
 go_wp2_with (go_at_call 81; ((with_reducible refine cM.mono ?_); rintro e w1 ⟨aM, cMx, rfl, hI, hb1⟩; obtain ⟨⟨z0, z1, z2, z3, z4, z5, z6, z7, z8, z9, z10, z11, z12, z13, z14, z15⟩, hbo⟩ := HX.out _ hb1; have HB1 := hid hb1; have HBO := hid hbo; have HI := hid hI.ins; clear hb1 hbo hI))
 clear z0 z1 z2 z3 z4 z5 z6 z7 z8 z9 z10 z11 z12 z13 z14 z15 cM
 have HL1 := hid (HL.out.below HB1.out)
 have HX1 := hid (fun w' (hb : Below w1.heap.size w1 w') => HX.out w' (HB1.out.trans (hb.mono HB1.out.size)))
 have HBX : Hid (BoxAt w1 w1.heap.size (s.bareK 0) ta tc la lc (w1.alloc (.cells #[.int .i64 0, .int .i64 s.fm, .int .i64 s.fd, .int .i64 s.pl, .int .i64 s.tt, .int .i64 s.a, .int .i64 s.b, .int .i64 s.f.id, .int .i64 s.f.kind, .int .i64 s.f.lo, .int .i64 s.f.hi, .int .i64 s.f.most, .int .i64 s.v.n, .string s.v.s, .slice ta s.t.length tc, .slice la s.l.length lc] 32))) :=
  hid ⟨Block.new w1 32 [.int .i64 0, .int .i64 s.fm, .int .i64 s.fd, .int .i64 s.pl, .int .i64 s.tt, .int .i64 s.a, .int .i64 s.b, .int .i64 s.f.id, .int .i64 s.f.kind, .int .i64 s.f.lo, .int .i64 s.f.hi, .int .i64 s.f.most, .int .i64 s.v.n, .string s.v.s, .slice ta s.t.length tc, .slice la s.l.length lc], ⟨HL1.out.t, HL1.out.l, HL1.out.mt, HL1.out.ml⟩, Nat.le_refl _, newB _ _⟩
 generalize w1.alloc (.cells #[.int .i64 0, .int .i64 s.fm, .int .i64 s.fd, .int .i64 s.pl, .int .i64 s.tt, .int .i64 s.a, .int .i64 s.b, .int .i64 s.f.id, .int .i64 s.f.kind, .int .i64 s.f.lo, .int .i64 s.f.hi, .int .i64 s.f.most, .int .i64 s.v.n, .string s.v.s, .slice ta s.t.length tc, .slice la s.l.length lc] 32) = w2 at *
 obtain ⟨U, hU⟩ : ∃ U : Nat, Hid (w1.heap.size = U) := ⟨_, rfl⟩
 rw [hU.out] at HBX ⊢
 obtain ⟨N, hN⟩ : ∃ N : Nat, Hid ((mem s.op).length = N) := ⟨_, rfl⟩
 have hN5 : N ≤ 5 := by rw [← hN.out]; exact mem_len _
 rw [hN.out]
 go_loopw [14] (fun n wr => ∃ k : Nat, k ≤ N ∧ n = .int .i64 (k : Int) ∧ Hid (∀ m ∈ (mem s.op).take k, s.Fine m) ∧ Hid (∃ ta' tc' la' lc', BoxAt w1 U (s.bareK k) ta' tc' la' lc' wr)) (fun n _ => N - (intOf n).toNat)
 case atStart => exact ⟨0, Nat.zero_le _, rfl, hid (by simp), hid ⟨_, _, _, _, HBX.out⟩⟩
 case round =>
  obtain ⟨k, hk, rfl, HOK, HBW⟩ := hrel
  obtain ⟨ta', tc', la', lc', hbox⟩ := HBW.out
  have HB := hid hbox.below
  obtain ⟨⟨z0, z1, z2, z3, z4, z5, z6, z7, z8, z9, z10, z11, z12, z13, z14, z15⟩, hbo⟩ := HX1.out _ HB.out
  have HBOX := hid hbox
  by_cases hlt : k < N
  ·obtain ⟨b, off, m, rfl, hbl, hm, hm12, c0⟩ := memI_cell HI.out HB.out (k := k) (by rw [hN.out]; exact hlt)
   have i1 : (k : Int) < N := by omega
   have HM := hid hm
   have HTK := hid (take_succ_at hm)
   have HSUC := hid (bareK_succ hm)
   have HMEM := hid (List.mem_of_getElem? hm)
   have cF := fine_any s ta tc la lc m hm12 _ (HL1.out.below HB.out)
   have cC := fun w' hb => clear_any U (s.bareK k) ta' tc' la' lc' m hm12 w' (HBOX.out.later hb)
   clear hm hbox hbo
   unfold Gives at cF
   unfold Cleared at cC
   by_cases hf : s.Fine m
   ·rw [decide_eq_true hf] at cF
    have HFM := hid hf
    clear hf
    go_wp2_with (first
     | (go_at_call 82; ((with_reducible refine cF.mono ?_); rintro e w3 ⟨rfl, hb3⟩; have HB3 := hid hb3))
     | (go_at_call 83; ((with_reducible refine (cC _ hb3).mono ?_); rintro e w4 ⟨rfl, hbx4⟩; have HB4 := hid hbx4)))
    refine ⟨⟨k + 1, by omega, by go_num, hid ?_, hid ?_⟩, by simp [intOf]; omega⟩
    ·rw [HTK.out]
     intro q hq
     rcases List.mem_append.1 hq with h | h
     ·exact HOK.out q h
     ·rw [List.mem_singleton.1 h]; exact HFM.out
    ·rw [HSUC.out]; exact HB4.out
   ·rw [decide_eq_false hf] at cF
    obtain rfl : false = r := by rw [← hr.out]; exact (decide_eq_false (fun h => hf (h.1 m HMEM.out))).symm
    clear hf cC
    go_wp2_with (go_at_call 82; ((with_reducible refine cF.mono ?_); rintro e w3 ⟨rfl, hb3⟩))
    go_ret
    exact ⟨rfl, HBO.out.trans ((HB.out.trans (hb3.mono HB.out.size)).mono HBO.out.size)⟩
  ·obtain rfl : k = N := by omega
   have HALL : Hid (∀ m ∈ mem s.op, s.Fine m) := hid (by have := HOK.out; rw [← hN.out, List.take_of_length_le (Nat.le_refl _)] at this; exact this)
   have HRI : Hid (s.Right ↔ mem s.op ≠ [] ∧ s.bareK k = Sp.zero) := hid (by rw [← hN.out, bareK_all]; exact ⟨fun h => h.2, fun h => ⟨HALL.out, h⟩⟩)
   clear hbox hbo z0 z1 z2 z3 z4 z5 z6 z7 z8 z9 z10 z11 z12 z13 z14 z15
   by_cases hz : k = 0
   ·have hme : mem s.op = [] := List.eq_nil_of_length_eq_zero (by rw [hN.out]; exact hz)
    obtain rfl : false = r := by rw [← hr.out]; exact (decide_eq_false (fun h => (HRI.out.1 h).1 hme)).symm
    have hd : decide ((k : Int) > 0) = false := decide_eq_false (by omega)
    have j1 : ¬ 0 < k := by omega
    have j2 : ¬ (0 : Int) < (k : Int) := by omega
    clear hme hlt
    go_wp2
    go_ret
    exact ⟨rfl, HBO.out.trans (HB.out.mono HBO.out.size)⟩
   ·have hme : mem s.op ≠ [] := fun e => hz (by rw [← hN.out, e]; rfl)
    have hd : decide ((k : Int) > 0) = true := decide_eq_true (by omega)
    have j1 : 0 < k := by omega
    have j2 : (0 : Int) < (k : Int) := by omega
    have HRB : Hid (decide (s.bareK k = Sp.zero) = r) := hid (by rw [← hr.out]; exact decide_eq_decide.2 ⟨fun h => HRI.out.2 ⟨hme, h⟩, fun h => (HRI.out.1 h).2⟩)
    obtain ⟨u, hu⟩ : ∃ u, Hid (s.bareK k = u) := ⟨_, rfl⟩
    have HBU := HBOX
    rw [hu.out] at HBU HRB
    have hf := HBU.out.f
    have y0 := hf.cell 0
    have y1 := hf.cell 1
    have y2 := hf.cell 2
    have y3 := hf.cell 3
    have y4 := hf.cell 4
    have y5 := hf.cell 5
    have y6 := hf.cell 6
    have y7 := hf.cell 7
    have y8 := hf.cell 8
    have y9 := hf.cell 9
    have y10 := hf.cell 10
    have y11 := hf.cell 11
    have y12 := hf.cell 12
    have y13 := hf.cell 13
    have y14 := hf.cell 14
    have y15 := hf.cell 15
    have cS := fun w' (hb : Below w1.heap.size w1 w') => same_any u ta' tc' la' lc' Sp.zero none 0 none 0 w' ((HBU.out.lists).below hb) ⟨.inl rfl, .inl rfl, Nat.zero_le _, Nat.zero_le _⟩
    rw [HRB.out] at cS
    unfold Gives at cS
    replace cS : ∀ w', Below w1.heap.size w1 w' → Calls Tryz.prog 26 #[zP u ta' tc' la' lc', zZ] w' fun e w2 => e = .returned (.bool r) ∧ Below w'.heap.size w' w2 := cS
    clear hf hme hlt hz
    go_wp2_with (go_at_call 26; ((with_reducible refine (cS _ (by first | exact HB.out | exact below_drewN HB.out _)).mono ?_); rintro e w3 ⟨rfl, hb3⟩))
    go_ret
    exact ⟨rfl, HBO.out.trans ((HB.out.trans (hb3.mono HB.out.size)).mono HBO.out.size)⟩
end Go.Proofs.YtaciegkblklokaaGreat.step
namespace Go.Proofs.YtaciegkblklokaaGreat.typing
open Go.RowKit Go.Proofs.YtaciegkblklokaaGreat.schema
open Go.Proofs.YtaciegkblklokaaGreat.field (Gives newB gives_from)
open Go.Proofs.YtaciegkblklokaaGreat.step (Lists boxP)
theorem twithin_any (n lo hi : Int) (w : World) : Calls Tryz.prog 58 #[.int .i64 n, .int .i64 lo, .int .i64 hi] w (Gives (.bool (decide (lo ≤ n ∧ n ≤ hi))) w) := by
 obtain ⟨v, hv⟩ : ∃ v : Bool, Hid (decide (lo ≤ n ∧ n ≤ hi) = v) := ⟨_, rfl⟩
 rw [hv.out]
 unfold Gives
 by_cases h1 : lo ≤ n
 ·by_cases h2 : n ≤ hi
  ·obtain rfl : true = v := by rw [← hv.out]; simp [h1, h2]
   go_enter Tryz.func58, Tryz.ntmps58
   go_wp2
   go_ret
   exact ⟨rfl, Below.refl _ _⟩
  ·obtain rfl : false = v := by rw [← hv.out]; simp [h1, h2]
   have hd : decide (n ≤ hi) = false := decide_eq_false h2
   go_enter Tryz.func58, Tryz.ntmps58
   go_wp2
   go_ret
   exact ⟨rfl, Below.refl _ _⟩
 ·obtain rfl : false = v := by rw [← hv.out]; simp [h1]
  have hd : decide (lo ≤ n) = false := decide_eq_false h1
  go_enter Tryz.func58, Tryz.ntmps58
  go_wp2
  go_ret
  exact ⟨rfl, Below.refl _ _⟩
set_option maxRecDepth 20000 in
theorem forward_any (s : step.Sp) (ta : Option Addr) (tc : Nat) (la : Option Addr) (lc : Nat) (w : World) (hl : Lists w s ta la) : Calls Tryz.prog 36 #[zP s ta tc la lc] w (Gives (.bool (decide ((1 ≤ s.op ∧ s.op ≤ 10) ∧ s.Right))) w) := by
 have HX := hid (boxP s ta tc la lc w)
 have hN := newB w (.cells (zP s ta tc la lc) 32)
 have cW := twithin_any s.op 1 10 ((w.alloc (.cells (zP s ta tc la lc) 32)))
 have cR := fun (w' : World) (hb : Below ((w.alloc (.cells (zP s ta tc la lc) 32))).heap.size ((w.alloc (.cells (zP s ta tc la lc) 32))) w') => step.right_any s ta tc la lc w' ((hl.below hN).below hb)
 obtain ⟨r, hr⟩ : ∃ r : Bool, Hid (decide ((1 ≤ s.op ∧ s.op ≤ 10) ∧ s.Right) = r) := ⟨_, rfl⟩
 rw [hr.out]
 unfold Gives at cW cR ⊢
 clear hN hl
 by_cases hw : 1 ≤ s.op ∧ s.op ≤ 10
 ·rw [decide_eq_true hw] at cW
  have HR : Hid (decide s.Right = r) := hid (by rw [← hr.out]; simp [hw])
  rw [HR.out] at cR
  clear hw
  go_enter Tryz.func36, Tryz.ntmps36
  go_wp2_with (first
   | (go_at_call 58; ((with_reducible refine cW.mono ?_); rintro e w1 ⟨rfl, hb1⟩; obtain ⟨⟨z0, z1, z2, z3, z4, z5, z6, z7, z8, z9, z10, z11, z12, z13, z14, z15⟩, hbo⟩ := HX.out _ hb1))
   | (go_at_call 59; ((with_reducible refine (cR _ hb1).mono ?_); rintro e w2 ⟨rfl, hb2⟩)))
  go_ret
  exact ⟨rfl, hbo.trans (hb2.mono hbo.size)⟩
 ·rw [decide_eq_false hw] at cW
  obtain rfl : false = r := by rw [← hr.out]; simp [hw]
  clear hw
  go_enter Tryz.func36, Tryz.ntmps36
  go_wp2_with (go_at_call 58; ((with_reducible refine cW.mono ?_); rintro e w1 ⟨rfl, hb1⟩; have hbo := (HX.out _ hb1).2))
  go_ret
  exact ⟨rfl, hbo⟩
def Far (n : Nat) (x : Option Addr) (G : List Fm) : Prop := (∀ y, x = some y → n ≤ y.block) ∧ ∀ p ∈ G, ∀ y, p.f = some y → n ≤ y.block
theorem far_row {w : World} {B n m sz c : Nat} {e : TypeId} {x : Option Addr} {xs : List Value} (h : w.ownsRow B e sz (.slice x n c) m xs) : ∀ y, x = some y → B ≤ y.block := by
 intro y hy
 subst hy
 rcases h.2 with ⟨hv, _⟩ | ⟨g, cap, cur, hv, hb, _⟩
 ·cases hv
 ·cases hv; exact hb
theorem far_nil (n : Nat) : Far n none [] := ⟨fun y hy => (by cases hy), fun p hp => (by cases hp)⟩
def OnAs (r : Int × List schema.Form × Nat) (w : World) (e : Ending) (w' : World) : Prop :=
 ∃ x xc G, e = .returned (.tuple #[zS r.1 x (List.length (α := Fm) G) xc, .int .i64 (r.2.2 : Nat)]) ∧ FmL w' x G ∧ forms G = r.2.1 ∧ Far w.heap.size x G ∧ Below w.heap.size w w'
theorem fit_iff (v : Int) (F : List schema.Form) (s : step.Sp) : Fit v F s ↔ Right v F ∧ (1 ≤ s.op ∧ s.op ≤ 10) ∧ s.Right := by
 unfold Fit
 constructor
 ·rintro ⟨h1, h2, h3⟩
  exact ⟨h1, ⟨(step.mem_span h2.2.1).1, h3⟩, h2⟩
 ·rintro ⟨h1, h2, h3⟩
  exact ⟨h1, h3, h2.2⟩
set_option maxRecDepth 20000 in
set_option maxHeartbeats 3200000 in
theorem on_no (v : Int) (a : Option Addr) (cc : Nat) (F : List Fm) (c : Ch) (hc : c = begin_ (forms F) c.s) (ta : Option Addr) (tc : Nat) (la : Option Addr) (lc : Nat) (w : World) (h : FmL w a F) (hF : Small w F) (hl : Lists w c.s ta la) (hL : c.s.l.length ≤ 40) (hf : ¬ Fit v (forms F) c.s) :
  Calls Tryz.prog 19 #[zS v a F.length cc, zP c.s ta tc la lc] w (OnAs (0, [], 2) w) := by
 have hbw : Below w.heap.size w ((((w.alloc (.cells (zS v a F.length cc) 24))).alloc (.cells (zP c.s ta tc la lc) 32)).alloc (.cells #[.int .i64 0, .slice none 0 0] 24)) := by
  have h1 := newB w (.cells (zS v a F.length cc) 24)
  have h2 := h1.alloc h1.size (.cells (zP c.s ta tc la lc) 32)
  exact h2.alloc h2.size _
 have HX : Hid (∀ w', Below (((((w.alloc (.cells (zS v a F.length cc) 24))).alloc (.cells (zP c.s ta tc la lc) 32)).alloc (.cells #[.int .i64 0, .slice none 0 0] 24))).heap.size ((((w.alloc (.cells (zS v a F.length cc) 24))).alloc (.cells (zP c.s ta tc la lc) 32)).alloc (.cells #[.int .i64 0, .slice none 0 0] 24)) w' → Block w' w.heap.size 24 (zS v a F.length cc) ∧ Block w' (w.heap.size + 1) 32 (zP c.s ta tc la lc) ∧ Block w' (w.heap.size + 1 + 1) 24 [.int .i64 0, .slice none 0 0] ∧ Below w.heap.size w w') := hid (fun w' hb => by
  refine ⟨(((Block.new w _ _).alloc _).alloc _).later hb, Block.later (w := ((((w.alloc (.cells (zS v a F.length cc) 24))).alloc (.cells (zP c.s ta tc la lc) 32)).alloc (.cells #[.int .i64 0, .slice none 0 0] 24))) ?_ hb, Block.later (w := ((((w.alloc (.cells (zS v a F.length cc) 24))).alloc (.cells (zP c.s ta tc la lc) 32)).alloc (.cells #[.int .i64 0, .slice none 0 0] 24))) ?_ hb, hbw.trans (hb.mono (by simp; omega))⟩
  ·have := (Block.new ((w.alloc (.cells (zS v a F.length cc) 24))) 32 (zP c.s ta tc la lc)).alloc (.cells #[.int .i64 0, .slice none 0 0] 24)
   simpa using this
  ·have := Block.new (((w.alloc (.cells (zS v a F.length cc) 24))).alloc (.cells (zP c.s ta tc la lc) 32)) 24 [.int .i64 0, .slice none 0 0]
   simpa using this)
 have hmx : F.length ≤ maxLen := by have := hF.1; unfold maxLen; omega
 have cR := right_any v a cc F ((((w.alloc (.cells (zS v a F.length cc) 24))).alloc (.cells (zP c.s ta tc la lc) 32)).alloc (.cells #[.int .i64 0, .slice none 0 0] 24)) (h.below hbw) hmx
 unfold Gives at cR
 have n1 : w.heap.size ≠ w.heap.size + 1 + 1 := by omega
 have n2 : w.heap.size + 1 ≠ w.heap.size + 1 + 1 := by omega
 have cF := fun (w' : World) (hb : Below (((((w.alloc (.cells (zS v a F.length cc) 24))).alloc (.cells (zP c.s ta tc la lc) 32)).alloc (.cells #[.int .i64 0, .slice none 0 0] 24))).heap.size ((((w.alloc (.cells (zS v a F.length cc) 24))).alloc (.cells (zP c.s ta tc la lc) 32)).alloc (.cells #[.int .i64 0, .slice none 0 0] 24)) w') => forward_any c.s ta tc la lc w' ((hl.below hbw).below hb)
 unfold Gives at cF
 rw [fit_iff] at hf
 unfold OnAs
 clear h hF hl hL hmx hbw hc
 by_cases hr : Right v (forms F)
 ·rw [decide_eq_true hr] at cR
  rw [decide_eq_false (show ¬ ((1 ≤ c.s.op ∧ c.s.op ≤ 10) ∧ c.s.Right) from fun e => hf ⟨hr, e⟩)] at cF
  clear hf hr
  go_enter Tryz.func19, Tryz.ntmps19
  go_wp2_with (first
   | (go_at_call 35; ((with_reducible refine cR.mono ?_); rintro e w1 ⟨rfl, hb1⟩; obtain ⟨k0, k1, k2, kb⟩ := HX.out _ hb1; have z0 := k0.cell 0; have z1 := k0.cell 1; have y0 := k1.cell 0; have y1 := k1.cell 1; have y2 := k1.cell 2; have y3 := k1.cell 3; have y4 := k1.cell 4; have y5 := k1.cell 5; have y6 := k1.cell 6; have y7 := k1.cell 7; have y8 := k1.cell 8; have y9 := k1.cell 9; have y10 := k1.cell 10; have y11 := k1.cell 11; have y12 := k1.cell 12; have y13 := k1.cell 13; have y14 := k1.cell 14; have y15 := k1.cell 15; have x0 := k2.cell 0; have x1 := k2.cell 1; have f0 := k2.frozen 0; have f1 := k2.frozen 1; have K2 := hid k2; have KB := hid kb; clear k0 k1 k2 kb))
   | (go_at_call 36; ((with_reducible refine (cF _ hb1).mono ?_); rintro e w2 ⟨rfl, hb2⟩; have hb1 := hb1.trans (hb2.mono hb1.size); obtain ⟨k0, k1, k2, kb⟩ := HX.out _ hb1; have z0 := k0.cell 0; have z1 := k0.cell 1; have y0 := k1.cell 0; have y1 := k1.cell 1; have y2 := k1.cell 2; have y3 := k1.cell 3; have y4 := k1.cell 4; have y5 := k1.cell 5; have y6 := k1.cell 6; have y7 := k1.cell 7; have y8 := k1.cell 8; have y9 := k1.cell 9; have y10 := k1.cell 10; have y11 := k1.cell 11; have y12 := k1.cell 12; have y13 := k1.cell 13; have y14 := k1.cell 14; have y15 := k1.cell 15; have x0 := k2.cell 0; have x1 := k2.cell 1; have f0 := k2.frozen 0; have f1 := k2.frozen 1; have K2 := hid k2; have KB := hid kb; clear k0 k1 k2 kb)))
  have hB := (K2.out.setCell 0 (.int .i64 0)).setCell 1 (.slice none 0 0)
  refine bodyPost_ret (results_cell2 (b := w.heap.size + 1 + 1) (o := 0) rfl rfl hB.whole Tryz.underlying24 rfl (sc_info2 _ _)) rfl ?_
  exact ⟨none, 0, [], rfl, ⟨.inl rfl, by simp⟩, rfl, far_nil _, below_setCells (below_setCells KB.out (by omega) 0 [_]) (by omega) 1 [_]⟩
 ·rw [decide_eq_false hr] at cR
  clear hf hr cF
  go_enter Tryz.func19, Tryz.ntmps19
  go_wp2_with (go_at_call 35; ((with_reducible refine cR.mono ?_); rintro e w1 ⟨rfl, hb1⟩; obtain ⟨k0, k1, k2, kb⟩ := HX.out _ hb1; have z0 := k0.cell 0; have z1 := k0.cell 1; have y0 := k1.cell 0; have y1 := k1.cell 1; have y2 := k1.cell 2; have y3 := k1.cell 3; have y4 := k1.cell 4; have y5 := k1.cell 5; have y6 := k1.cell 6; have y7 := k1.cell 7; have y8 := k1.cell 8; have y9 := k1.cell 9; have y10 := k1.cell 10; have y11 := k1.cell 11; have y12 := k1.cell 12; have y13 := k1.cell 13; have y14 := k1.cell 14; have y15 := k1.cell 15; have x0 := k2.cell 0; have x1 := k2.cell 1; have f0 := k2.frozen 0; have f1 := k2.frozen 1; have K2 := hid k2; have KB := hid kb; clear k0 k1 k2 kb))
  have hB := (K2.out.setCell 0 (.int .i64 0)).setCell 1 (.slice none 0 0)
  refine bodyPost_ret (results_cell2 (b := w.heap.size + 1 + 1) (o := 0) rfl rfl hB.whole Tryz.underlying24 rfl (sc_info2 _ _)) rfl ?_
  exact ⟨none, 0, [], rfl, ⟨.inl rfl, by simp⟩, rfl, far_nil _, below_setCells (below_setCells KB.out (by omega) 0 [_]) (by omega) 1 [_]⟩
end Go.Proofs.YtaciegkblklokaaGreat.typing
