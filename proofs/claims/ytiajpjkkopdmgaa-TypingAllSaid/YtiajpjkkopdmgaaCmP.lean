/- Contracts and lemmas that the claims of this seat share: StepSame, StepSames. Each says its own conditions. -/
import Derived.Test.YtiajpjkkopdmgaaCmN
import Derived.Test.YtiajpjkkopdmgaaCmG
import Derived.Test.YtiajpjkkopdmgaaCmO
import Derived.Test.YtiajpjkkopdmgaaCmI
import Derived.Handy
import Derived.Conc.WalkWords

namespace Go.Proofs.Ytiajpjkkopdmgaa.step
open Go.RowKit
open Go.Proofs.Ytiajpjkkopdmgaa.field (Gives newB gives_from)
open Go.Proofs.Ytiajpjkkopdmgaa.schema (below_out take_succ_at eq_take_succ neq_fd equalF_any exec_two exec_load_at exec_cell_slice info_fd)
set_option linter.unusedVariables false

theorem eq_seven (a b c d e f g a' b' c' d' e' f' g' : Int) (w : World) : (binOp .eql 123 (.agg #[.int .i64 a, .int .i64 b, .int .i64 c, .int .i64 d, .int .i64 e, .int .i64 f, .int .i64 g]) (.agg #[.int .i64 a', .int .i64 b', .int .i64 c', .int .i64 d', .int .i64 e', .int .i64 f', .int .i64 g'])).run Try.prog w = .ok (.bool (decide (a = a' ∧ b = b' ∧ c = c' ∧ d = d' ∧ e = e' ∧ f = f' ∧ g = g'))) w := by
  have u3 := Try.underlying3
  have a3 := Try.isAgg3
  have z3 := Try.sizeOf3
  rw [run_eql_struct, show (10000 : Nat) = 9999 + 1 from rfl, Op.equalIn]
  simp only [Sem.run_bind, run_underlying Try.underlying123, Result.andThen_ok]
  simp only [Std.Legacy.Range.forIn_eq_forIn_range', Std.Legacy.Range.size, Nat.sub_zero, Nat.add_sub_cancel, Nat.div_one, List.range'_succ, List.range'_zero, List.forIn_cons, List.forIn_nil]
  go_simp
  by_cases h1 : a = a'
  · by_cases h2 : b = b'
    · by_cases h3 : c = c'
      · by_cases h4 : d = d'
        · by_cases h5 : e = e'
          · by_cases h6 : f = f'
            · by_cases h7 : g = g' <;> simp [h1, h2, h3, h4, h5, h6, h7]
            · simp [h1, h2, h3, h4, h5, h6]
          · simp [h1, h2, h3, h4, h5]
        · simp [h1, h2, h3, h4]
      · simp [h1, h2, h3]
    · simp [h1, h2]
  · simp [h1]
theorem eqg_seven (x y : Operand) (u v : Array Value) (w : World) : (eqGuard .eql 123 x y (.agg u) (.agg v)).run Try.prog w = .ok () w :=
  run_eqGuard_agg w .eql 123 x y _ _ (by kernel_rfl)
theorem eq_fd (p q : field.Fd) (w : World) : (binOp .eql 26 (.agg #[.int .i64 p.id, .int .i64 p.kind, .int .i64 p.lo, .int .i64 p.hi, .int .i64 p.most]) (.agg #[.int .i64 q.id, .int .i64 q.kind, .int .i64 q.lo, .int .i64 q.hi, .int .i64 q.most])).run Try.prog w = .ok (.bool (decide (p = q))) w := by
  rw [run_eql_struct, show (10000 : Nat) = 9999 + 1 from rfl, run_equalIn_struct w 9999 26 _ _ (by kernel_rfl) Try.stoodInHeld26]
  go_simp
  obtain ⟨i, k, lo, hi, m⟩ := p
  obtain ⟨i', k', lo', hi', m'⟩ := q
  simp only [field.Fd.mk.injEq]
  by_cases h1 : i = i'
  · by_cases h2 : k = k'
    · by_cases h3 : lo = lo'
      · by_cases h4 : hi = hi'
        · by_cases h5 : m = m' <;> simp [h1, h2, h3, h4, h5]
        · simp [h1, h2, h3, h4]
      · simp [h1, h2, h3]
    · simp [h1, h2]
  · simp [h1]
theorem eqg_fd (op : BinOp) (x y : Operand) (u v : Array Value) (w : World) : (eqGuard op 26 x y (.agg u) (.agg v)).run Try.prog w = .ok () w :=
  run_eqGuard_agg w op 26 x y _ _ (by kernel_rfl)
theorem eq_va (p q : field.Va) (w : World) : (binOp .eql 28 (.agg #[.int .i64 p.n, .string p.s]) (.agg #[.int .i64 q.n, .string q.s])).run Try.prog w = .ok (.bool (decide (p = q))) w := by
  rw [run_eql_struct, show (10000 : Nat) = 9999 + 1 from rfl, run_equalIn_struct w 9999 28 _ _ (by kernel_rfl) Try.stoodInHeld28]
  go_simp
  obtain ⟨n, s⟩ := p
  obtain ⟨m, t⟩ := q
  rw [show decide ((⟨n, s⟩ : field.Va) = ⟨m, t⟩) = decide (n = m ∧ s.toList = t.toList) from decide_eq_decide.2 record.va_eq]
  by_cases h1 : n = m
  · by_cases h2 : s.toList = t.toList <;> simp [h1, h2]
  · simp [h1]
theorem eqg_va (op : BinOp) (x y : Operand) (u v : Array Value) (w : World) : (eqGuard op 28 x y (.agg u) (.agg v)).run Try.prog w = .ok () w :=
  run_eqGuard_agg w op 28 x y _ _ (by kernel_rfl)
theorem equalI_any (a : Option Addr) (ca : Nat) (L : List Int) (b : Option Addr) (cb : Nat) (M : List Int) (w : World) (h : Ins w a L) (h' : Ins w b M) (hL : L.length ≤ maxLen) (hM : M.length ≤ maxLen) :
    Calls Try.prog 98 #[.slice a L.length ca, .slice b M.length cb] w (Gives (.bool (decide (L = M))) w) := by
  have hml : (L.length : Int) ≤ 9223372036854775807 := by unfold maxLen at hL; omega
  have hmm : (M.length : Int) ≤ 9223372036854775807 := by unfold maxLen at hM; omega
  have HF := hid h
  have HG := hid h'
  obtain ⟨r, hr⟩ : ∃ r : Bool, Hid (decide (L = M) = r) := ⟨_, rfl⟩
  rw [hr.out]
  unfold Gives
  clear h h' hL hM
  by_cases hlen : L.length = M.length
  · have HLEN := hid hlen
    rw [← hlen]
    clear hlen hmm
    go_enter Try.func98, Try.ntmps98
    go_wp2
    go_loopw [13] (fun n wr => ∃ k : Nat, k ≤ L.length ∧ n = .int .i64 (k : Int) ∧ Hid (L.take k = M.take k) ∧ Hid (Below w.heap.size w wr)) (fun n _ => L.length - (intOf n).toNat)
    case atStart => exact ⟨0, Nat.zero_le _, rfl, hid rfl, hid (Below.refl _ _)⟩
    case round =>
      obtain ⟨k, hk, rfl, HEQ, HB⟩ := hrel
      by_cases hlt : k < L.length
      · obtain ⟨g, off, p, rfl, hbl, hp, c0⟩ := int_at HF.out HB.out hlt
        obtain ⟨g', off', q, rfl, hbl', hq, d0⟩ := int_at HG.out HB.out (k := k) (by rw [← HLEN.out]; exact hlt)
        have i1 : (k : Int) < L.length := by omega
        have HS := hid (eq_take_succ hp hq)
        have HNE := hid (fun (hpq : ¬ p = q) => show ¬ L = M from fun e => by rw [e] at hp; exact hpq (Option.some.inj (hp.symm.trans hq)))
        clear hp hq
        by_cases hpq : p = q
        · have HPQ := hid hpq
          have hd : (p == q) = true := by rw [beq_iff_eq]; exact hpq
          have hd2 : (p != q) = false := by simp [hpq]
          clear hpq
          go_wp2
          go_quiet (fail)
          go_wp2
          exact ⟨⟨k + 1, by omega, by go_num, hid (HS.out.2 ⟨HEQ.out, HPQ.out⟩), hid (below_drewN HB.out _)⟩, by simp [intOf]; omega⟩
        · obtain rfl : false = r := by rw [← hr.out]; exact (decide_eq_false (HNE.out hpq)).symm
          have hd : (p == q) = false := by rw [beq_eq_false_iff_ne]; exact hpq
          have hd2 : (p != q) = true := by simp [hpq]
          clear hpq
          go_wp2
          go_quiet (fail)
          go_wp2
          go_ret
          exact ⟨rfl, below_drewN HB.out _⟩
      · obtain rfl : k = L.length := by omega
        obtain rfl : true = r := by
          rw [← hr.out]
          have := HEQ.out
          rw [List.take_of_length_le (Nat.le_refl _), List.take_of_length_le (by rw [HLEN.out]; exact Nat.le_refl _)] at this
          exact (decide_eq_true this).symm
        go_wp2
        go_ret
        exact ⟨rfl, HB.out⟩
  · obtain rfl : false = r := by rw [← hr.out]; exact (decide_eq_false (fun e => hlen (by rw [e]))).symm
    have hd : ((L.length : Int) == (M.length : Int)) = false := by rw [beq_eq_false_iff_ne]; omega
    clear hlen
    go_enter Try.func98, Try.ntmps98
    go_wp2
    go_ret
    exact ⟨rfl, Below.refl _ _⟩
theorem numbers_any (s : Sp) (ta : Option Addr) (tc : Nat) (la : Option Addr) (lc : Nat) (w : World) : Calls Try.prog 97 #[.agg #[.int .i64 s.op, .int .i64 s.fm, .int .i64 s.fd, .int .i64 s.pl, .int .i64 s.tt, .int .i64 s.a, .int .i64 s.b, .int .i64 s.f.id, .int .i64 s.f.kind, .int .i64 s.f.lo, .int .i64 s.f.hi, .int .i64 s.f.most, .int .i64 s.v.n, .string s.v.s, .slice ta s.t.length tc, .slice la s.l.length lc]] w (Gives (.agg #[.int .i64 s.op, .int .i64 s.fm, .int .i64 s.fd, .int .i64 s.pl, .int .i64 s.tt, .int .i64 s.a, .int .i64 s.b]) w) := by
  have HW := hid (newB w (.cells #[.int .i64 s.op, .int .i64 s.fm, .int .i64 s.fd, .int .i64 s.pl, .int .i64 s.tt, .int .i64 s.a, .int .i64 s.b, .int .i64 s.f.id, .int .i64 s.f.kind, .int .i64 s.f.lo, .int .i64 s.f.hi, .int .i64 s.f.most, .int .i64 s.v.n, .string s.v.s, .slice ta s.t.length tc, .slice la s.l.length lc] 32))
  unfold Gives
  go_enter Try.func97, Try.ntmps97
  go_wp2
  go_returns
  exact ⟨rfl, HW.out.trans ((newB _ _).mono (by simp))⟩
end Go.Proofs.Ytiajpjkkopdmgaa.step

namespace Go.Proofs.Ytiajpjkkopdmgaa.step
open Go.RowKit
open Go.Proofs.Ytiajpjkkopdmgaa.field (Gives newB gives_from)
open Go.Proofs.Ytiajpjkkopdmgaa.schema (below_out take_succ_at eq_take_succ neq_fd equalF_any exec_two exec_load_at exec_cell_slice info_fd field_at)
set_option linter.unusedVariables false

theorem info_st : Hid ((Try.prog.info? 32).map (·.size) = some 16) := by show _ = _; kernel_rfl
theorem info_va : Hid ((Try.prog.info? 28).map (·.size) = some 2) := by show _ = _; kernel_rfl
theorem range_f {W : World} {B : Nat} {s : Sp} {ta : Option Addr} {tc : Nat} {la : Option Addr} {lc : Nat} (h : Block W B 32 [.int .i64 s.op, .int .i64 s.fm, .int .i64 s.fd, .int .i64 s.pl, .int .i64 s.tt, .int .i64 s.a, .int .i64 s.b, .int .i64 s.f.id, .int .i64 s.f.kind, .int .i64 s.f.lo, .int .i64 s.f.hi, .int .i64 s.f.most, .int .i64 s.v.n, .string s.v.s, .slice ta s.t.length tc, .slice la s.l.length lc]) : W.rangeAt B 7 [.int .i64 s.f.id, .int .i64 s.f.kind, .int .i64 s.f.lo, .int .i64 s.f.hi, .int .i64 s.f.most] :=
  h.range 7 _ (fun j v hj => by
    match j, hj with
    | 0, hj => exact hj
    | 1, hj => exact hj
    | 2, hj => exact hj
    | 3, hj => exact hj
    | 4, hj => exact hj
    | n + 5, hj => simp at hj)
theorem range_v {W : World} {B : Nat} {s : Sp} {ta : Option Addr} {tc : Nat} {la : Option Addr} {lc : Nat} (h : Block W B 32 [.int .i64 s.op, .int .i64 s.fm, .int .i64 s.fd, .int .i64 s.pl, .int .i64 s.tt, .int .i64 s.a, .int .i64 s.b, .int .i64 s.f.id, .int .i64 s.f.kind, .int .i64 s.f.lo, .int .i64 s.f.hi, .int .i64 s.f.most, .int .i64 s.v.n, .string s.v.s, .slice ta s.t.length tc, .slice la s.l.length lc]) : W.rangeAt B 12 [.int .i64 s.v.n, .string s.v.s] :=
  h.range 12 _ (fun j v hj => by
    match j, hj with
    | 0, hj => exact hj
    | 1, hj => exact hj
    | n + 2, hj => simp at hj)
/-- the world in which two steps have been boxed -/
def WP2 (s : Sp) (ta : Option Addr) (tc : Nat) (la : Option Addr) (lc : Nat) (u : Sp) (ua : Option Addr) (uc : Nat) (va : Option Addr) (vc : Nat) (w : World) : World := (w.alloc (.cells #[.int .i64 s.op, .int .i64 s.fm, .int .i64 s.fd, .int .i64 s.pl, .int .i64 s.tt, .int .i64 s.a, .int .i64 s.b, .int .i64 s.f.id, .int .i64 s.f.kind, .int .i64 s.f.lo, .int .i64 s.f.hi, .int .i64 s.f.most, .int .i64 s.v.n, .string s.v.s, .slice ta s.t.length tc, .slice la s.l.length lc] 32)).alloc (.cells #[.int .i64 u.op, .int .i64 u.fm, .int .i64 u.fd, .int .i64 u.pl, .int .i64 u.tt, .int .i64 u.a, .int .i64 u.b, .int .i64 u.f.id, .int .i64 u.f.kind, .int .i64 u.f.lo, .int .i64 u.f.hi, .int .i64 u.f.most, .int .i64 u.v.n, .string u.v.s, .slice ua u.t.length uc, .slice va u.l.length vc] 32)
theorem WP2.all (s : Sp) (ta : Option Addr) (tc : Nat) (la : Option Addr) (lc : Nat) (u : Sp) (ua : Option Addr) (uc : Nat) (va : Option Addr) (vc : Nat) (w : World) : Block (WP2 s ta tc la lc u ua uc va vc w) w.heap.size 32 [.int .i64 s.op, .int .i64 s.fm, .int .i64 s.fd, .int .i64 s.pl, .int .i64 s.tt, .int .i64 s.a, .int .i64 s.b, .int .i64 s.f.id, .int .i64 s.f.kind, .int .i64 s.f.lo, .int .i64 s.f.hi, .int .i64 s.f.most, .int .i64 s.v.n, .string s.v.s, .slice ta s.t.length tc, .slice la s.l.length lc] ∧ Block (WP2 s ta tc la lc u ua uc va vc w) (w.heap.size + 1) 32 [.int .i64 u.op, .int .i64 u.fm, .int .i64 u.fd, .int .i64 u.pl, .int .i64 u.tt, .int .i64 u.a, .int .i64 u.b, .int .i64 u.f.id, .int .i64 u.f.kind, .int .i64 u.f.lo, .int .i64 u.f.hi, .int .i64 u.f.most, .int .i64 u.v.n, .string u.v.s, .slice ua u.t.length uc, .slice va u.l.length vc] ∧ Below w.heap.size w (WP2 s ta tc la lc u ua uc va vc w) := by
  refine ⟨(Block.new w 32 [.int .i64 s.op, .int .i64 s.fm, .int .i64 s.fd, .int .i64 s.pl, .int .i64 s.tt, .int .i64 s.a, .int .i64 s.b, .int .i64 s.f.id, .int .i64 s.f.kind, .int .i64 s.f.lo, .int .i64 s.f.hi, .int .i64 s.f.most, .int .i64 s.v.n, .string s.v.s, .slice ta s.t.length tc, .slice la s.l.length lc]).alloc _, ?_, (newB w _).trans ((newB _ _).mono (by simp))⟩
  have h := Block.new (w.alloc (.cells #[.int .i64 s.op, .int .i64 s.fm, .int .i64 s.fd, .int .i64 s.pl, .int .i64 s.tt, .int .i64 s.a, .int .i64 s.b, .int .i64 s.f.id, .int .i64 s.f.kind, .int .i64 s.f.lo, .int .i64 s.f.hi, .int .i64 s.f.most, .int .i64 s.v.n, .string s.v.s, .slice ta s.t.length tc, .slice la s.l.length lc] 32)) 32 [.int .i64 u.op, .int .i64 u.fm, .int .i64 u.fd, .int .i64 u.pl, .int .i64 u.tt, .int .i64 u.a, .int .i64 u.b, .int .i64 u.f.id, .int .i64 u.f.kind, .int .i64 u.f.lo, .int .i64 u.f.hi, .int .i64 u.f.most, .int .i64 u.v.n, .string u.v.s, .slice ua u.t.length uc, .slice va u.l.length vc]
  rw [show ((w.alloc (.cells #[.int .i64 s.op, .int .i64 s.fm, .int .i64 s.fd, .int .i64 s.pl, .int .i64 s.tt, .int .i64 s.a, .int .i64 s.b, .int .i64 s.f.id, .int .i64 s.f.kind, .int .i64 s.f.lo, .int .i64 s.f.hi, .int .i64 s.f.most, .int .i64 s.v.n, .string s.v.s, .slice ta s.t.length tc, .slice la s.l.length lc] 32))).heap.size = w.heap.size + 1 by simp] at h
  exact h
theorem sp_eq {s u : Sp} : s = u ↔ (s.op = u.op ∧ s.fm = u.fm ∧ s.fd = u.fd ∧ s.pl = u.pl ∧ s.tt = u.tt ∧ s.a = u.a ∧ s.b = u.b) ∧ s.f = u.f ∧ s.v = u.v ∧ s.t = u.t ∧ s.l = u.l := by
  constructor
  · rintro rfl; simp
  · rintro ⟨⟨h1, h2, h3, h4, h5, h6, h7⟩, h8, h9, h10, h11⟩
    cases s; cases u; simp only at *
    subst h1 h2 h3 h4 h5 h6 h7 h8 h9 h10 h11; rfl
set_option maxRecDepth 20000 in
set_option maxHeartbeats 3200000 in
theorem same_any (s : Sp) (ta : Option Addr) (tc : Nat) (la : Option Addr) (lc : Nat) (u : Sp) (ua : Option Addr) (uc : Nat) (va : Option Addr) (vc : Nat) (w : World) (h : Lists w s ta la) (h' : Lists w u ua va) :
    Calls Try.prog 72 #[.agg #[.int .i64 s.op, .int .i64 s.fm, .int .i64 s.fd, .int .i64 s.pl, .int .i64 s.tt, .int .i64 s.a, .int .i64 s.b, .int .i64 s.f.id, .int .i64 s.f.kind, .int .i64 s.f.lo, .int .i64 s.f.hi, .int .i64 s.f.most, .int .i64 s.v.n, .string s.v.s, .slice ta s.t.length tc, .slice la s.l.length lc], .agg #[.int .i64 u.op, .int .i64 u.fm, .int .i64 u.fd, .int .i64 u.pl, .int .i64 u.tt, .int .i64 u.a, .int .i64 u.b, .int .i64 u.f.id, .int .i64 u.f.kind, .int .i64 u.f.lo, .int .i64 u.f.hi, .int .i64 u.f.most, .int .i64 u.v.n, .string u.v.s, .slice ua u.t.length uc, .slice va u.l.length vc]] w (Gives (.bool (decide (s = u))) w) := by
  obtain ⟨hA, hU, hw⟩ := WP2.all s ta tc la lc u ua uc va vc w
  have hl1 := h.below hw
  have hl2 := h'.below hw
  unfold WP2 at hA hU hw hl1 hl2
  obtain ⟨W0, hW0⟩ : ∃ x, (w.alloc (.cells #[.int .i64 s.op, .int .i64 s.fm, .int .i64 s.fd, .int .i64 s.pl, .int .i64 s.tt, .int .i64 s.a, .int .i64 s.b, .int .i64 s.f.id, .int .i64 s.f.kind, .int .i64 s.f.lo, .int .i64 s.f.hi, .int .i64 s.f.most, .int .i64 s.v.n, .string s.v.s, .slice ta s.t.length tc, .slice la s.l.length lc] 32)).alloc (.cells #[.int .i64 u.op, .int .i64 u.fm, .int .i64 u.fd, .int .i64 u.pl, .int .i64 u.tt, .int .i64 u.a, .int .i64 u.b, .int .i64 u.f.id, .int .i64 u.f.kind, .int .i64 u.f.lo, .int .i64 u.f.hi, .int .i64 u.f.most, .int .i64 u.v.n, .string u.v.s, .slice ua u.t.length uc, .slice va u.l.length vc] 32) = x := ⟨_, rfl⟩
  have HW0 := hid hW0
  rw [hW0] at hA hU hw hl1 hl2
  have HZ : Hid (∀ w', Below W0.heap.size W0 w' → Block w' w.heap.size 32 [.int .i64 s.op, .int .i64 s.fm, .int .i64 s.fd, .int .i64 s.pl, .int .i64 s.tt, .int .i64 s.a, .int .i64 s.b, .int .i64 s.f.id, .int .i64 s.f.kind, .int .i64 s.f.lo, .int .i64 s.f.hi, .int .i64 s.f.most, .int .i64 s.v.n, .string s.v.s, .slice ta s.t.length tc, .slice la s.l.length lc] ∧ Block w' (w.heap.size + 1) 32 [.int .i64 u.op, .int .i64 u.fm, .int .i64 u.fd, .int .i64 u.pl, .int .i64 u.tt, .int .i64 u.a, .int .i64 u.b, .int .i64 u.f.id, .int .i64 u.f.kind, .int .i64 u.f.lo, .int .i64 u.f.hi, .int .i64 u.f.most, .int .i64 u.v.n, .string u.v.s, .slice ua u.t.length uc, .slice va u.l.length vc]) := hid (fun w' hb => ⟨hA.later hb, hU.later hb⟩)
  have HL1 := hid hl1
  have HL2 := hid hl2
  have HB0 := hid hw
  have cN1 := fun w' => numbers_any s ta tc la lc w'
  have cN2 := fun w' => numbers_any u ua uc va vc w'
  have cT0 := fun w' (hb : Below W0.heap.size W0 w') => equalI_any ta tc s.t ua uc u.t w' (HL1.out.below hb).t (HL2.out.below hb).t HL1.out.mt HL2.out.mt
  have cL0 := fun w' (hb : Below W0.heap.size W0 w') => equalF_any la lc s.l va vc u.l w' (HL1.out.below hb).l (HL2.out.below hb).l HL1.out.ml HL2.out.ml
  obtain ⟨r, hr⟩ : ∃ r : Bool, Hid (decide (s = u) = r) := ⟨_, rfl⟩
  rw [hr.out]
  unfold Gives at cN1 cN2 cT0 cL0 ⊢
  clear h h' hA hU hw hl1 hl2 hW0
  by_cases h0 : s.op = u.op ∧ s.fm = u.fm ∧ s.fd = u.fd ∧ s.pl = u.pl ∧ s.tt = u.tt ∧ s.a = u.a ∧ s.b = u.b
  · have HE0 := hid (fun W => eq_seven s.op s.fm s.fd s.pl s.tt s.a s.b u.op u.fm u.fd u.pl u.tt u.a u.b W)
    rw [decide_eq_true h0] at HE0
    by_cases h1 : s.f = u.f
    · have HE1 := hid (fun W => eq_fd s.f u.f W)
      rw [decide_eq_true h1] at HE1
      by_cases h2 : s.v = u.v
      · have HE2 := hid (fun W => eq_va s.v u.v W)
        rw [decide_eq_true h2] at HE2
        by_cases h3 : s.t = u.t
        · have cT := cT0
          rw [decide_eq_true h3] at cT
          have cL := cL0
          rw [show decide (s.l = u.l) = r by rw [← hr.out]; exact decide_eq_decide.2 ⟨fun e => sp_eq.2 ⟨h0, h1, h2, h3, e⟩, fun e => (sp_eq.1 e).2.2.2.2⟩] at cL
          clear h0 h1 h2 h3 cT0 cL0
          go_enter Try.func72, Try.ntmps72
          go_wp2
          rw [HW0.out]
          have hb : Below W0.heap.size W0 W0.drew := below_drewN (Below.refl _ _) 1
          refine plan.region (by kernel_rfl) ?_
          refine plan.Rest.first 0 _ (.agg #[.int .i64 s.op, .int .i64 s.fm, .int .i64 s.fd, .int .i64 s.pl, .int .i64 s.tt, .int .i64 s.a, .int .i64 s.b, .int .i64 s.f.id, .int .i64 s.f.kind, .int .i64 s.f.lo, .int .i64 s.f.hi, .int .i64 s.f.most, .int .i64 s.v.n, .string s.v.s, .slice ta s.t.length tc, .slice la s.l.length lc]) rfl (by kernel_rfl) (by kernel_rfl) (by kernel_rfl) (by kernel_rfl) (fun w' hb' => exec_load_at (b := w.heap.size) (off := 0) rfl (by kernel_rfl) ((HZ.out _ (hb.trans (hb'.mono hb.size))).1).whole Try.underlying32 rfl info_st.out) ?_
          refine plan.Rest.first 2 _ (.agg #[.int .i64 u.op, .int .i64 u.fm, .int .i64 u.fd, .int .i64 u.pl, .int .i64 u.tt, .int .i64 u.a, .int .i64 u.b, .int .i64 u.f.id, .int .i64 u.f.kind, .int .i64 u.f.lo, .int .i64 u.f.hi, .int .i64 u.f.most, .int .i64 u.v.n, .string u.v.s, .slice ua u.t.length uc, .slice va u.l.length vc]) rfl (by kernel_rfl) (by kernel_rfl) (by kernel_rfl) (by kernel_rfl) (fun w' hb' => exec_load_at (b := w.heap.size + 1) (off := 0) rfl (by kernel_rfl) ((HZ.out _ (hb.trans (hb'.mono hb.size))).2).whole Try.underlying32 rfl info_st.out) ?_
          refine plan.Rest.call 1 _ 97 #[.agg #[.int .i64 s.op, .int .i64 s.fm, .int .i64 s.fd, .int .i64 s.pl, .int .i64 s.tt, .int .i64 s.a, .int .i64 s.b, .int .i64 s.f.id, .int .i64 s.f.kind, .int .i64 s.f.lo, .int .i64 s.f.hi, .int .i64 s.f.most, .int .i64 s.v.n, .string s.v.s, .slice ta s.t.length tc, .slice la s.l.length lc]] rfl (by kernel_rfl) (by kernel_rfl) (by kernel_rfl) ((cN1 W0.drew).mono ?_)
          rintro e W1 ⟨rfl, hn⟩
          have hb := hb.trans (hn.mono hb.size)
          refine ⟨_, rfl, hn, ?_⟩
          refine plan.Rest.call 3 _ 97 #[.agg #[.int .i64 u.op, .int .i64 u.fm, .int .i64 u.fd, .int .i64 u.pl, .int .i64 u.tt, .int .i64 u.a, .int .i64 u.b, .int .i64 u.f.id, .int .i64 u.f.kind, .int .i64 u.f.lo, .int .i64 u.f.hi, .int .i64 u.f.most, .int .i64 u.v.n, .string u.v.s, .slice ua u.t.length uc, .slice va u.l.length vc]] rfl (by kernel_rfl) (by kernel_rfl) (by kernel_rfl) ((cN2 W1).mono ?_)
          rintro e W2 ⟨rfl, hn⟩
          have hb := hb.trans (hn.mono hb.size)
          refine ⟨_, rfl, hn, ?_⟩
          refine plan.Rest.first 4 _ (.bool true) rfl (by kernel_rfl) (by kernel_rfl) (by kernel_rfl) (by kernel_rfl) (fun w' hb' => (exec_two rfl (by kernel_rfl) (by kernel_rfl) (eqg_seven _ _ _ _ _) (HE0.out _))) ?_
          refine plan.Rest.first 5 _ (.bool true) rfl (by kernel_rfl) (by kernel_rfl) (by kernel_rfl) (by kernel_rfl) (fun w' hb' => (by kernel_rfl)) ?_
          refine plan.Rest.first 6 _ (.pointer (some ⟨w.heap.size, 7, none⟩)) rfl (by kernel_rfl) (by kernel_rfl) (by kernel_rfl) (by kernel_rfl) (fun w' hb' => (by kernel_rfl)) ?_
          refine plan.Rest.first 7 _ (.agg #[.int .i64 s.f.id, .int .i64 s.f.kind, .int .i64 s.f.lo, .int .i64 s.f.hi, .int .i64 s.f.most]) rfl (by kernel_rfl) (by kernel_rfl) (by kernel_rfl) (by kernel_rfl) (fun w' hb' => exec_load_at (b := w.heap.size) (off := 7) rfl (by kernel_rfl) (range_f ((HZ.out _ (hb.trans (hb'.mono hb.size))).1)) Try.underlying26 rfl info_fd.out) ?_
          refine plan.Rest.first 8 _ (.pointer (some ⟨w.heap.size + 1, 7, none⟩)) rfl (by kernel_rfl) (by kernel_rfl) (by kernel_rfl) (by kernel_rfl) (fun w' hb' => (by kernel_rfl)) ?_
          refine plan.Rest.first 9 _ (.agg #[.int .i64 u.f.id, .int .i64 u.f.kind, .int .i64 u.f.lo, .int .i64 u.f.hi, .int .i64 u.f.most]) rfl (by kernel_rfl) (by kernel_rfl) (by kernel_rfl) (by kernel_rfl) (fun w' hb' => exec_load_at (b := w.heap.size + 1) (off := 7) rfl (by kernel_rfl) (range_f ((HZ.out _ (hb.trans (hb'.mono hb.size))).2)) Try.underlying26 rfl info_fd.out) ?_
          refine plan.Rest.first 10 _ (.bool true) rfl (by kernel_rfl) (by kernel_rfl) (by kernel_rfl) (by kernel_rfl) (fun w' hb' => (exec_two rfl (by kernel_rfl) (by kernel_rfl) (eqg_fd _ _ _ _ _ _) (HE1.out _))) ?_
          refine plan.Rest.first 11 _ (.bool true) rfl (by kernel_rfl) (by kernel_rfl) (by kernel_rfl) (by kernel_rfl) (fun w' hb' => (by kernel_rfl)) ?_
          refine plan.Rest.first 12 _ (.bool true) rfl (by kernel_rfl) (by kernel_rfl) (by kernel_rfl) (by kernel_rfl) (fun w' hb' => (by kernel_rfl)) ?_
          refine plan.Rest.first 13 _ (.pointer (some ⟨w.heap.size, 12, none⟩)) rfl (by kernel_rfl) (by kernel_rfl) (by kernel_rfl) (by kernel_rfl) (fun w' hb' => (by kernel_rfl)) ?_
          refine plan.Rest.first 14 _ (.agg #[.int .i64 s.v.n, .string s.v.s]) rfl (by kernel_rfl) (by kernel_rfl) (by kernel_rfl) (by kernel_rfl) (fun w' hb' => exec_load_at (b := w.heap.size) (off := 12) rfl (by kernel_rfl) (range_v ((HZ.out _ (hb.trans (hb'.mono hb.size))).1)) Try.underlying28 rfl info_va.out) ?_
          refine plan.Rest.first 15 _ (.pointer (some ⟨w.heap.size + 1, 12, none⟩)) rfl (by kernel_rfl) (by kernel_rfl) (by kernel_rfl) (by kernel_rfl) (fun w' hb' => (by kernel_rfl)) ?_
          refine plan.Rest.first 16 _ (.agg #[.int .i64 u.v.n, .string u.v.s]) rfl (by kernel_rfl) (by kernel_rfl) (by kernel_rfl) (by kernel_rfl) (fun w' hb' => exec_load_at (b := w.heap.size + 1) (off := 12) rfl (by kernel_rfl) (range_v ((HZ.out _ (hb.trans (hb'.mono hb.size))).2)) Try.underlying28 rfl info_va.out) ?_
          refine plan.Rest.first 17 _ (.bool true) rfl (by kernel_rfl) (by kernel_rfl) (by kernel_rfl) (by kernel_rfl) (fun w' hb' => (exec_two rfl (by kernel_rfl) (by kernel_rfl) (eqg_va _ _ _ _ _ _) (HE2.out _))) ?_
          refine plan.Rest.first 18 _ (.bool true) rfl (by kernel_rfl) (by kernel_rfl) (by kernel_rfl) (by kernel_rfl) (fun w' hb' => (by kernel_rfl)) ?_
          refine plan.Rest.first 19 _ (.bool true) rfl (by kernel_rfl) (by kernel_rfl) (by kernel_rfl) (by kernel_rfl) (fun w' hb' => (by kernel_rfl)) ?_
          refine plan.Rest.first 20 _ (.pointer (some ⟨w.heap.size, 14, none⟩)) rfl (by kernel_rfl) (by kernel_rfl) (by kernel_rfl) (by kernel_rfl) (fun w' hb' => (by kernel_rfl)) ?_
          refine plan.Rest.first 21 _ (.slice ta s.t.length tc) rfl (by kernel_rfl) (by kernel_rfl) (by kernel_rfl) (by kernel_rfl) (fun w' hb' => exec_cell_slice (ad := ⟨w.heap.size, 14, none⟩) rfl (by kernel_rfl) (((HZ.out _ (hb.trans (hb'.mono hb.size))).1).cell 14) Try.isAgg29) ?_
          refine plan.Rest.first 22 _ (.pointer (some ⟨w.heap.size + 1, 14, none⟩)) rfl (by kernel_rfl) (by kernel_rfl) (by kernel_rfl) (by kernel_rfl) (fun w' hb' => (by kernel_rfl)) ?_
          refine plan.Rest.first 23 _ (.slice ua u.t.length uc) rfl (by kernel_rfl) (by kernel_rfl) (by kernel_rfl) (by kernel_rfl) (fun w' hb' => exec_cell_slice (ad := ⟨w.heap.size + 1, 14, none⟩) rfl (by kernel_rfl) (((HZ.out _ (hb.trans (hb'.mono hb.size))).2).cell 14) Try.isAgg29) ?_
          refine plan.Rest.call 24 _ 98 #[.slice ta s.t.length tc, .slice ua u.t.length uc] rfl (by kernel_rfl) (by kernel_rfl) (by kernel_rfl) ((cT W2 hb).mono ?_)
          rintro e W3 ⟨rfl, hn⟩
          have hb := hb.trans (hn.mono hb.size)
          refine ⟨_, rfl, hn, ?_⟩
          refine plan.Rest.first 25 _ (.bool true) rfl (by kernel_rfl) (by kernel_rfl) (by kernel_rfl) (by kernel_rfl) (fun w' hb' => (by kernel_rfl)) ?_
          refine plan.Rest.first 26 _ (.bool true) rfl (by kernel_rfl) (by kernel_rfl) (by kernel_rfl) (by kernel_rfl) (fun w' hb' => (by kernel_rfl)) ?_
          refine plan.Rest.first 27 _ (.pointer (some ⟨w.heap.size, 15, none⟩)) rfl (by kernel_rfl) (by kernel_rfl) (by kernel_rfl) (by kernel_rfl) (fun w' hb' => (by kernel_rfl)) ?_
          refine plan.Rest.first 28 _ (.slice la s.l.length lc) rfl (by kernel_rfl) (by kernel_rfl) (by kernel_rfl) (by kernel_rfl) (fun w' hb' => exec_cell_slice (ad := ⟨w.heap.size, 15, none⟩) rfl (by kernel_rfl) (((HZ.out _ (hb.trans (hb'.mono hb.size))).1).cell 15) Try.isAgg30) ?_
          refine plan.Rest.first 29 _ (.pointer (some ⟨w.heap.size + 1, 15, none⟩)) rfl (by kernel_rfl) (by kernel_rfl) (by kernel_rfl) (by kernel_rfl) (fun w' hb' => (by kernel_rfl)) ?_
          refine plan.Rest.first 30 _ (.slice va u.l.length vc) rfl (by kernel_rfl) (by kernel_rfl) (by kernel_rfl) (by kernel_rfl) (fun w' hb' => exec_cell_slice (ad := ⟨w.heap.size + 1, 15, none⟩) rfl (by kernel_rfl) (((HZ.out _ (hb.trans (hb'.mono hb.size))).2).cell 15) Try.isAgg30) ?_
          refine plan.Rest.call 31 _ 99 #[.slice la s.l.length lc, .slice va u.l.length vc] rfl (by kernel_rfl) (by kernel_rfl) (by kernel_rfl) ((cL W3 hb).mono ?_)
          rintro e W4 ⟨rfl, hn⟩
          have hb := hb.trans (hn.mono hb.size)
          refine ⟨_, rfl, hn, ?_⟩
          refine plan.Rest.first 32 _ (.bool r) rfl (by kernel_rfl) (by kernel_rfl) (by kernel_rfl) (by kernel_rfl) (fun w' hb' => (by kernel_rfl)) ?_
          refine plan.Rest.value 33 _ (.bool r) rfl (by kernel_rfl) (by kernel_rfl) (by kernel_rfl) ?_
          refine plan.Rest.done (by kernel_rfl) ?_
          walk_nrm
          go_wp2
          go_ret
          exact ⟨rfl, HB0.out.trans (hb.mono HB0.out.size)⟩
        · have cT := cT0
          rw [decide_eq_false h3] at cT
          obtain rfl : false = r := by rw [← hr.out]; exact (decide_eq_false (fun e => h3 (sp_eq.1 e).2.2.2.1)).symm
          clear h0 h1 h2 h3 cT0 cL0
          go_enter Try.func72, Try.ntmps72
          go_wp2
          rw [HW0.out]
          have hb : Below W0.heap.size W0 W0.drew := below_drewN (Below.refl _ _) 1
          refine plan.region (by kernel_rfl) ?_
          refine plan.Rest.first 0 _ (.agg #[.int .i64 s.op, .int .i64 s.fm, .int .i64 s.fd, .int .i64 s.pl, .int .i64 s.tt, .int .i64 s.a, .int .i64 s.b, .int .i64 s.f.id, .int .i64 s.f.kind, .int .i64 s.f.lo, .int .i64 s.f.hi, .int .i64 s.f.most, .int .i64 s.v.n, .string s.v.s, .slice ta s.t.length tc, .slice la s.l.length lc]) rfl (by kernel_rfl) (by kernel_rfl) (by kernel_rfl) (by kernel_rfl) (fun w' hb' => exec_load_at (b := w.heap.size) (off := 0) rfl (by kernel_rfl) ((HZ.out _ (hb.trans (hb'.mono hb.size))).1).whole Try.underlying32 rfl info_st.out) ?_
          refine plan.Rest.first 2 _ (.agg #[.int .i64 u.op, .int .i64 u.fm, .int .i64 u.fd, .int .i64 u.pl, .int .i64 u.tt, .int .i64 u.a, .int .i64 u.b, .int .i64 u.f.id, .int .i64 u.f.kind, .int .i64 u.f.lo, .int .i64 u.f.hi, .int .i64 u.f.most, .int .i64 u.v.n, .string u.v.s, .slice ua u.t.length uc, .slice va u.l.length vc]) rfl (by kernel_rfl) (by kernel_rfl) (by kernel_rfl) (by kernel_rfl) (fun w' hb' => exec_load_at (b := w.heap.size + 1) (off := 0) rfl (by kernel_rfl) ((HZ.out _ (hb.trans (hb'.mono hb.size))).2).whole Try.underlying32 rfl info_st.out) ?_
          refine plan.Rest.call 1 _ 97 #[.agg #[.int .i64 s.op, .int .i64 s.fm, .int .i64 s.fd, .int .i64 s.pl, .int .i64 s.tt, .int .i64 s.a, .int .i64 s.b, .int .i64 s.f.id, .int .i64 s.f.kind, .int .i64 s.f.lo, .int .i64 s.f.hi, .int .i64 s.f.most, .int .i64 s.v.n, .string s.v.s, .slice ta s.t.length tc, .slice la s.l.length lc]] rfl (by kernel_rfl) (by kernel_rfl) (by kernel_rfl) ((cN1 W0.drew).mono ?_)
          rintro e W1 ⟨rfl, hn⟩
          have hb := hb.trans (hn.mono hb.size)
          refine ⟨_, rfl, hn, ?_⟩
          refine plan.Rest.call 3 _ 97 #[.agg #[.int .i64 u.op, .int .i64 u.fm, .int .i64 u.fd, .int .i64 u.pl, .int .i64 u.tt, .int .i64 u.a, .int .i64 u.b, .int .i64 u.f.id, .int .i64 u.f.kind, .int .i64 u.f.lo, .int .i64 u.f.hi, .int .i64 u.f.most, .int .i64 u.v.n, .string u.v.s, .slice ua u.t.length uc, .slice va u.l.length vc]] rfl (by kernel_rfl) (by kernel_rfl) (by kernel_rfl) ((cN2 W1).mono ?_)
          rintro e W2 ⟨rfl, hn⟩
          have hb := hb.trans (hn.mono hb.size)
          refine ⟨_, rfl, hn, ?_⟩
          refine plan.Rest.first 4 _ (.bool true) rfl (by kernel_rfl) (by kernel_rfl) (by kernel_rfl) (by kernel_rfl) (fun w' hb' => (exec_two rfl (by kernel_rfl) (by kernel_rfl) (eqg_seven _ _ _ _ _) (HE0.out _))) ?_
          refine plan.Rest.first 5 _ (.bool true) rfl (by kernel_rfl) (by kernel_rfl) (by kernel_rfl) (by kernel_rfl) (fun w' hb' => (by kernel_rfl)) ?_
          refine plan.Rest.first 6 _ (.pointer (some ⟨w.heap.size, 7, none⟩)) rfl (by kernel_rfl) (by kernel_rfl) (by kernel_rfl) (by kernel_rfl) (fun w' hb' => (by kernel_rfl)) ?_
          refine plan.Rest.first 7 _ (.agg #[.int .i64 s.f.id, .int .i64 s.f.kind, .int .i64 s.f.lo, .int .i64 s.f.hi, .int .i64 s.f.most]) rfl (by kernel_rfl) (by kernel_rfl) (by kernel_rfl) (by kernel_rfl) (fun w' hb' => exec_load_at (b := w.heap.size) (off := 7) rfl (by kernel_rfl) (range_f ((HZ.out _ (hb.trans (hb'.mono hb.size))).1)) Try.underlying26 rfl info_fd.out) ?_
          refine plan.Rest.first 8 _ (.pointer (some ⟨w.heap.size + 1, 7, none⟩)) rfl (by kernel_rfl) (by kernel_rfl) (by kernel_rfl) (by kernel_rfl) (fun w' hb' => (by kernel_rfl)) ?_
          refine plan.Rest.first 9 _ (.agg #[.int .i64 u.f.id, .int .i64 u.f.kind, .int .i64 u.f.lo, .int .i64 u.f.hi, .int .i64 u.f.most]) rfl (by kernel_rfl) (by kernel_rfl) (by kernel_rfl) (by kernel_rfl) (fun w' hb' => exec_load_at (b := w.heap.size + 1) (off := 7) rfl (by kernel_rfl) (range_f ((HZ.out _ (hb.trans (hb'.mono hb.size))).2)) Try.underlying26 rfl info_fd.out) ?_
          refine plan.Rest.first 10 _ (.bool true) rfl (by kernel_rfl) (by kernel_rfl) (by kernel_rfl) (by kernel_rfl) (fun w' hb' => (exec_two rfl (by kernel_rfl) (by kernel_rfl) (eqg_fd _ _ _ _ _ _) (HE1.out _))) ?_
          refine plan.Rest.first 11 _ (.bool true) rfl (by kernel_rfl) (by kernel_rfl) (by kernel_rfl) (by kernel_rfl) (fun w' hb' => (by kernel_rfl)) ?_
          refine plan.Rest.first 12 _ (.bool true) rfl (by kernel_rfl) (by kernel_rfl) (by kernel_rfl) (by kernel_rfl) (fun w' hb' => (by kernel_rfl)) ?_
          refine plan.Rest.first 13 _ (.pointer (some ⟨w.heap.size, 12, none⟩)) rfl (by kernel_rfl) (by kernel_rfl) (by kernel_rfl) (by kernel_rfl) (fun w' hb' => (by kernel_rfl)) ?_
          refine plan.Rest.first 14 _ (.agg #[.int .i64 s.v.n, .string s.v.s]) rfl (by kernel_rfl) (by kernel_rfl) (by kernel_rfl) (by kernel_rfl) (fun w' hb' => exec_load_at (b := w.heap.size) (off := 12) rfl (by kernel_rfl) (range_v ((HZ.out _ (hb.trans (hb'.mono hb.size))).1)) Try.underlying28 rfl info_va.out) ?_
          refine plan.Rest.first 15 _ (.pointer (some ⟨w.heap.size + 1, 12, none⟩)) rfl (by kernel_rfl) (by kernel_rfl) (by kernel_rfl) (by kernel_rfl) (fun w' hb' => (by kernel_rfl)) ?_
          refine plan.Rest.first 16 _ (.agg #[.int .i64 u.v.n, .string u.v.s]) rfl (by kernel_rfl) (by kernel_rfl) (by kernel_rfl) (by kernel_rfl) (fun w' hb' => exec_load_at (b := w.heap.size + 1) (off := 12) rfl (by kernel_rfl) (range_v ((HZ.out _ (hb.trans (hb'.mono hb.size))).2)) Try.underlying28 rfl info_va.out) ?_
          refine plan.Rest.first 17 _ (.bool true) rfl (by kernel_rfl) (by kernel_rfl) (by kernel_rfl) (by kernel_rfl) (fun w' hb' => (exec_two rfl (by kernel_rfl) (by kernel_rfl) (eqg_va _ _ _ _ _ _) (HE2.out _))) ?_
          refine plan.Rest.first 18 _ (.bool true) rfl (by kernel_rfl) (by kernel_rfl) (by kernel_rfl) (by kernel_rfl) (fun w' hb' => (by kernel_rfl)) ?_
          refine plan.Rest.first 19 _ (.bool true) rfl (by kernel_rfl) (by kernel_rfl) (by kernel_rfl) (by kernel_rfl) (fun w' hb' => (by kernel_rfl)) ?_
          refine plan.Rest.first 20 _ (.pointer (some ⟨w.heap.size, 14, none⟩)) rfl (by kernel_rfl) (by kernel_rfl) (by kernel_rfl) (by kernel_rfl) (fun w' hb' => (by kernel_rfl)) ?_
          refine plan.Rest.first 21 _ (.slice ta s.t.length tc) rfl (by kernel_rfl) (by kernel_rfl) (by kernel_rfl) (by kernel_rfl) (fun w' hb' => exec_cell_slice (ad := ⟨w.heap.size, 14, none⟩) rfl (by kernel_rfl) (((HZ.out _ (hb.trans (hb'.mono hb.size))).1).cell 14) Try.isAgg29) ?_
          refine plan.Rest.first 22 _ (.pointer (some ⟨w.heap.size + 1, 14, none⟩)) rfl (by kernel_rfl) (by kernel_rfl) (by kernel_rfl) (by kernel_rfl) (fun w' hb' => (by kernel_rfl)) ?_
          refine plan.Rest.first 23 _ (.slice ua u.t.length uc) rfl (by kernel_rfl) (by kernel_rfl) (by kernel_rfl) (by kernel_rfl) (fun w' hb' => exec_cell_slice (ad := ⟨w.heap.size + 1, 14, none⟩) rfl (by kernel_rfl) (((HZ.out _ (hb.trans (hb'.mono hb.size))).2).cell 14) Try.isAgg29) ?_
          refine plan.Rest.call 24 _ 98 #[.slice ta s.t.length tc, .slice ua u.t.length uc] rfl (by kernel_rfl) (by kernel_rfl) (by kernel_rfl) ((cT W2 hb).mono ?_)
          rintro e W3 ⟨rfl, hn⟩
          have hb := hb.trans (hn.mono hb.size)
          refine ⟨_, rfl, hn, ?_⟩
          refine plan.Rest.first 25 _ (.bool false) rfl (by kernel_rfl) (by kernel_rfl) (by kernel_rfl) (by kernel_rfl) (fun w' hb' => (by kernel_rfl)) ?_
          refine plan.Rest.first 26 _ (.bool false) rfl (by kernel_rfl) (by kernel_rfl) (by kernel_rfl) (by kernel_rfl) (fun w' hb' => (by kernel_rfl)) ?_
          refine plan.Rest.skip 27 _ rfl (by kernel_rfl) (by kernel_rfl) (by kernel_rfl) (by kernel_rfl) ?_
          refine plan.Rest.skip 28 _ rfl (by kernel_rfl) (by kernel_rfl) (by kernel_rfl) (by kernel_rfl) ?_
          refine plan.Rest.skip 29 _ rfl (by kernel_rfl) (by kernel_rfl) (by kernel_rfl) (by kernel_rfl) ?_
          refine plan.Rest.skip 30 _ rfl (by kernel_rfl) (by kernel_rfl) (by kernel_rfl) (by kernel_rfl) ?_
          refine plan.Rest.skip 31 _ rfl (by kernel_rfl) (by kernel_rfl) (by kernel_rfl) (by kernel_rfl) ?_
          refine plan.Rest.first 32 _ (.bool false) rfl (by kernel_rfl) (by kernel_rfl) (by kernel_rfl) (by kernel_rfl) (fun w' hb' => (by kernel_rfl)) ?_
          refine plan.Rest.value 33 _ (.bool false) rfl (by kernel_rfl) (by kernel_rfl) (by kernel_rfl) ?_
          refine plan.Rest.done (by kernel_rfl) ?_
          walk_nrm
          go_wp2
          go_ret
          exact ⟨rfl, HB0.out.trans (hb.mono HB0.out.size)⟩
      · have HE2 := hid (fun W => eq_va s.v u.v W)
        rw [decide_eq_false h2] at HE2
        obtain rfl : false = r := by rw [← hr.out]; exact (decide_eq_false (fun e => h2 (sp_eq.1 e).2.2.1)).symm
        clear h0 h1 h2 cT0 cL0
        go_enter Try.func72, Try.ntmps72
        go_wp2
        rw [HW0.out]
        have hb : Below W0.heap.size W0 W0.drew := below_drewN (Below.refl _ _) 1
        refine plan.region (by kernel_rfl) ?_
        refine plan.Rest.first 0 _ (.agg #[.int .i64 s.op, .int .i64 s.fm, .int .i64 s.fd, .int .i64 s.pl, .int .i64 s.tt, .int .i64 s.a, .int .i64 s.b, .int .i64 s.f.id, .int .i64 s.f.kind, .int .i64 s.f.lo, .int .i64 s.f.hi, .int .i64 s.f.most, .int .i64 s.v.n, .string s.v.s, .slice ta s.t.length tc, .slice la s.l.length lc]) rfl (by kernel_rfl) (by kernel_rfl) (by kernel_rfl) (by kernel_rfl) (fun w' hb' => exec_load_at (b := w.heap.size) (off := 0) rfl (by kernel_rfl) ((HZ.out _ (hb.trans (hb'.mono hb.size))).1).whole Try.underlying32 rfl info_st.out) ?_
        refine plan.Rest.first 2 _ (.agg #[.int .i64 u.op, .int .i64 u.fm, .int .i64 u.fd, .int .i64 u.pl, .int .i64 u.tt, .int .i64 u.a, .int .i64 u.b, .int .i64 u.f.id, .int .i64 u.f.kind, .int .i64 u.f.lo, .int .i64 u.f.hi, .int .i64 u.f.most, .int .i64 u.v.n, .string u.v.s, .slice ua u.t.length uc, .slice va u.l.length vc]) rfl (by kernel_rfl) (by kernel_rfl) (by kernel_rfl) (by kernel_rfl) (fun w' hb' => exec_load_at (b := w.heap.size + 1) (off := 0) rfl (by kernel_rfl) ((HZ.out _ (hb.trans (hb'.mono hb.size))).2).whole Try.underlying32 rfl info_st.out) ?_
        refine plan.Rest.call 1 _ 97 #[.agg #[.int .i64 s.op, .int .i64 s.fm, .int .i64 s.fd, .int .i64 s.pl, .int .i64 s.tt, .int .i64 s.a, .int .i64 s.b, .int .i64 s.f.id, .int .i64 s.f.kind, .int .i64 s.f.lo, .int .i64 s.f.hi, .int .i64 s.f.most, .int .i64 s.v.n, .string s.v.s, .slice ta s.t.length tc, .slice la s.l.length lc]] rfl (by kernel_rfl) (by kernel_rfl) (by kernel_rfl) ((cN1 W0.drew).mono ?_)
        rintro e W1 ⟨rfl, hn⟩
        have hb := hb.trans (hn.mono hb.size)
        refine ⟨_, rfl, hn, ?_⟩
        refine plan.Rest.call 3 _ 97 #[.agg #[.int .i64 u.op, .int .i64 u.fm, .int .i64 u.fd, .int .i64 u.pl, .int .i64 u.tt, .int .i64 u.a, .int .i64 u.b, .int .i64 u.f.id, .int .i64 u.f.kind, .int .i64 u.f.lo, .int .i64 u.f.hi, .int .i64 u.f.most, .int .i64 u.v.n, .string u.v.s, .slice ua u.t.length uc, .slice va u.l.length vc]] rfl (by kernel_rfl) (by kernel_rfl) (by kernel_rfl) ((cN2 W1).mono ?_)
        rintro e W2 ⟨rfl, hn⟩
        have hb := hb.trans (hn.mono hb.size)
        refine ⟨_, rfl, hn, ?_⟩
        refine plan.Rest.first 4 _ (.bool true) rfl (by kernel_rfl) (by kernel_rfl) (by kernel_rfl) (by kernel_rfl) (fun w' hb' => (exec_two rfl (by kernel_rfl) (by kernel_rfl) (eqg_seven _ _ _ _ _) (HE0.out _))) ?_
        refine plan.Rest.first 5 _ (.bool true) rfl (by kernel_rfl) (by kernel_rfl) (by kernel_rfl) (by kernel_rfl) (fun w' hb' => (by kernel_rfl)) ?_
        refine plan.Rest.first 6 _ (.pointer (some ⟨w.heap.size, 7, none⟩)) rfl (by kernel_rfl) (by kernel_rfl) (by kernel_rfl) (by kernel_rfl) (fun w' hb' => (by kernel_rfl)) ?_
        refine plan.Rest.first 7 _ (.agg #[.int .i64 s.f.id, .int .i64 s.f.kind, .int .i64 s.f.lo, .int .i64 s.f.hi, .int .i64 s.f.most]) rfl (by kernel_rfl) (by kernel_rfl) (by kernel_rfl) (by kernel_rfl) (fun w' hb' => exec_load_at (b := w.heap.size) (off := 7) rfl (by kernel_rfl) (range_f ((HZ.out _ (hb.trans (hb'.mono hb.size))).1)) Try.underlying26 rfl info_fd.out) ?_
        refine plan.Rest.first 8 _ (.pointer (some ⟨w.heap.size + 1, 7, none⟩)) rfl (by kernel_rfl) (by kernel_rfl) (by kernel_rfl) (by kernel_rfl) (fun w' hb' => (by kernel_rfl)) ?_
        refine plan.Rest.first 9 _ (.agg #[.int .i64 u.f.id, .int .i64 u.f.kind, .int .i64 u.f.lo, .int .i64 u.f.hi, .int .i64 u.f.most]) rfl (by kernel_rfl) (by kernel_rfl) (by kernel_rfl) (by kernel_rfl) (fun w' hb' => exec_load_at (b := w.heap.size + 1) (off := 7) rfl (by kernel_rfl) (range_f ((HZ.out _ (hb.trans (hb'.mono hb.size))).2)) Try.underlying26 rfl info_fd.out) ?_
        refine plan.Rest.first 10 _ (.bool true) rfl (by kernel_rfl) (by kernel_rfl) (by kernel_rfl) (by kernel_rfl) (fun w' hb' => (exec_two rfl (by kernel_rfl) (by kernel_rfl) (eqg_fd _ _ _ _ _ _) (HE1.out _))) ?_
        refine plan.Rest.first 11 _ (.bool true) rfl (by kernel_rfl) (by kernel_rfl) (by kernel_rfl) (by kernel_rfl) (fun w' hb' => (by kernel_rfl)) ?_
        refine plan.Rest.first 12 _ (.bool true) rfl (by kernel_rfl) (by kernel_rfl) (by kernel_rfl) (by kernel_rfl) (fun w' hb' => (by kernel_rfl)) ?_
        refine plan.Rest.first 13 _ (.pointer (some ⟨w.heap.size, 12, none⟩)) rfl (by kernel_rfl) (by kernel_rfl) (by kernel_rfl) (by kernel_rfl) (fun w' hb' => (by kernel_rfl)) ?_
        refine plan.Rest.first 14 _ (.agg #[.int .i64 s.v.n, .string s.v.s]) rfl (by kernel_rfl) (by kernel_rfl) (by kernel_rfl) (by kernel_rfl) (fun w' hb' => exec_load_at (b := w.heap.size) (off := 12) rfl (by kernel_rfl) (range_v ((HZ.out _ (hb.trans (hb'.mono hb.size))).1)) Try.underlying28 rfl info_va.out) ?_
        refine plan.Rest.first 15 _ (.pointer (some ⟨w.heap.size + 1, 12, none⟩)) rfl (by kernel_rfl) (by kernel_rfl) (by kernel_rfl) (by kernel_rfl) (fun w' hb' => (by kernel_rfl)) ?_
        refine plan.Rest.first 16 _ (.agg #[.int .i64 u.v.n, .string u.v.s]) rfl (by kernel_rfl) (by kernel_rfl) (by kernel_rfl) (by kernel_rfl) (fun w' hb' => exec_load_at (b := w.heap.size + 1) (off := 12) rfl (by kernel_rfl) (range_v ((HZ.out _ (hb.trans (hb'.mono hb.size))).2)) Try.underlying28 rfl info_va.out) ?_
        refine plan.Rest.first 17 _ (.bool false) rfl (by kernel_rfl) (by kernel_rfl) (by kernel_rfl) (by kernel_rfl) (fun w' hb' => (exec_two rfl (by kernel_rfl) (by kernel_rfl) (eqg_va _ _ _ _ _ _) (HE2.out _))) ?_
        refine plan.Rest.first 18 _ (.bool false) rfl (by kernel_rfl) (by kernel_rfl) (by kernel_rfl) (by kernel_rfl) (fun w' hb' => (by kernel_rfl)) ?_
        refine plan.Rest.first 19 _ (.bool false) rfl (by kernel_rfl) (by kernel_rfl) (by kernel_rfl) (by kernel_rfl) (fun w' hb' => (by kernel_rfl)) ?_
        refine plan.Rest.skip 20 _ rfl (by kernel_rfl) (by kernel_rfl) (by kernel_rfl) (by kernel_rfl) ?_
        refine plan.Rest.skip 21 _ rfl (by kernel_rfl) (by kernel_rfl) (by kernel_rfl) (by kernel_rfl) ?_
        refine plan.Rest.skip 22 _ rfl (by kernel_rfl) (by kernel_rfl) (by kernel_rfl) (by kernel_rfl) ?_
        refine plan.Rest.skip 23 _ rfl (by kernel_rfl) (by kernel_rfl) (by kernel_rfl) (by kernel_rfl) ?_
        refine plan.Rest.skip 24 _ rfl (by kernel_rfl) (by kernel_rfl) (by kernel_rfl) (by kernel_rfl) ?_
        refine plan.Rest.first 25 _ (.bool false) rfl (by kernel_rfl) (by kernel_rfl) (by kernel_rfl) (by kernel_rfl) (fun w' hb' => (by kernel_rfl)) ?_
        refine plan.Rest.first 26 _ (.bool false) rfl (by kernel_rfl) (by kernel_rfl) (by kernel_rfl) (by kernel_rfl) (fun w' hb' => (by kernel_rfl)) ?_
        refine plan.Rest.skip 27 _ rfl (by kernel_rfl) (by kernel_rfl) (by kernel_rfl) (by kernel_rfl) ?_
        refine plan.Rest.skip 28 _ rfl (by kernel_rfl) (by kernel_rfl) (by kernel_rfl) (by kernel_rfl) ?_
        refine plan.Rest.skip 29 _ rfl (by kernel_rfl) (by kernel_rfl) (by kernel_rfl) (by kernel_rfl) ?_
        refine plan.Rest.skip 30 _ rfl (by kernel_rfl) (by kernel_rfl) (by kernel_rfl) (by kernel_rfl) ?_
        refine plan.Rest.skip 31 _ rfl (by kernel_rfl) (by kernel_rfl) (by kernel_rfl) (by kernel_rfl) ?_
        refine plan.Rest.first 32 _ (.bool false) rfl (by kernel_rfl) (by kernel_rfl) (by kernel_rfl) (by kernel_rfl) (fun w' hb' => (by kernel_rfl)) ?_
        refine plan.Rest.value 33 _ (.bool false) rfl (by kernel_rfl) (by kernel_rfl) (by kernel_rfl) ?_
        refine plan.Rest.done (by kernel_rfl) ?_
        walk_nrm
        go_wp2
        go_ret
        exact ⟨rfl, HB0.out.trans (hb.mono HB0.out.size)⟩
    · have HE1 := hid (fun W => eq_fd s.f u.f W)
      rw [decide_eq_false h1] at HE1
      obtain rfl : false = r := by rw [← hr.out]; exact (decide_eq_false (fun e => h1 (sp_eq.1 e).2.1)).symm
      clear h0 h1 cT0 cL0
      go_enter Try.func72, Try.ntmps72
      go_wp2
      rw [HW0.out]
      have hb : Below W0.heap.size W0 W0.drew := below_drewN (Below.refl _ _) 1
      refine plan.region (by kernel_rfl) ?_
      refine plan.Rest.first 0 _ (.agg #[.int .i64 s.op, .int .i64 s.fm, .int .i64 s.fd, .int .i64 s.pl, .int .i64 s.tt, .int .i64 s.a, .int .i64 s.b, .int .i64 s.f.id, .int .i64 s.f.kind, .int .i64 s.f.lo, .int .i64 s.f.hi, .int .i64 s.f.most, .int .i64 s.v.n, .string s.v.s, .slice ta s.t.length tc, .slice la s.l.length lc]) rfl (by kernel_rfl) (by kernel_rfl) (by kernel_rfl) (by kernel_rfl) (fun w' hb' => exec_load_at (b := w.heap.size) (off := 0) rfl (by kernel_rfl) ((HZ.out _ (hb.trans (hb'.mono hb.size))).1).whole Try.underlying32 rfl info_st.out) ?_
      refine plan.Rest.first 2 _ (.agg #[.int .i64 u.op, .int .i64 u.fm, .int .i64 u.fd, .int .i64 u.pl, .int .i64 u.tt, .int .i64 u.a, .int .i64 u.b, .int .i64 u.f.id, .int .i64 u.f.kind, .int .i64 u.f.lo, .int .i64 u.f.hi, .int .i64 u.f.most, .int .i64 u.v.n, .string u.v.s, .slice ua u.t.length uc, .slice va u.l.length vc]) rfl (by kernel_rfl) (by kernel_rfl) (by kernel_rfl) (by kernel_rfl) (fun w' hb' => exec_load_at (b := w.heap.size + 1) (off := 0) rfl (by kernel_rfl) ((HZ.out _ (hb.trans (hb'.mono hb.size))).2).whole Try.underlying32 rfl info_st.out) ?_
      refine plan.Rest.call 1 _ 97 #[.agg #[.int .i64 s.op, .int .i64 s.fm, .int .i64 s.fd, .int .i64 s.pl, .int .i64 s.tt, .int .i64 s.a, .int .i64 s.b, .int .i64 s.f.id, .int .i64 s.f.kind, .int .i64 s.f.lo, .int .i64 s.f.hi, .int .i64 s.f.most, .int .i64 s.v.n, .string s.v.s, .slice ta s.t.length tc, .slice la s.l.length lc]] rfl (by kernel_rfl) (by kernel_rfl) (by kernel_rfl) ((cN1 W0.drew).mono ?_)
      rintro e W1 ⟨rfl, hn⟩
      have hb := hb.trans (hn.mono hb.size)
      refine ⟨_, rfl, hn, ?_⟩
      refine plan.Rest.call 3 _ 97 #[.agg #[.int .i64 u.op, .int .i64 u.fm, .int .i64 u.fd, .int .i64 u.pl, .int .i64 u.tt, .int .i64 u.a, .int .i64 u.b, .int .i64 u.f.id, .int .i64 u.f.kind, .int .i64 u.f.lo, .int .i64 u.f.hi, .int .i64 u.f.most, .int .i64 u.v.n, .string u.v.s, .slice ua u.t.length uc, .slice va u.l.length vc]] rfl (by kernel_rfl) (by kernel_rfl) (by kernel_rfl) ((cN2 W1).mono ?_)
      rintro e W2 ⟨rfl, hn⟩
      have hb := hb.trans (hn.mono hb.size)
      refine ⟨_, rfl, hn, ?_⟩
      refine plan.Rest.first 4 _ (.bool true) rfl (by kernel_rfl) (by kernel_rfl) (by kernel_rfl) (by kernel_rfl) (fun w' hb' => (exec_two rfl (by kernel_rfl) (by kernel_rfl) (eqg_seven _ _ _ _ _) (HE0.out _))) ?_
      refine plan.Rest.first 5 _ (.bool true) rfl (by kernel_rfl) (by kernel_rfl) (by kernel_rfl) (by kernel_rfl) (fun w' hb' => (by kernel_rfl)) ?_
      refine plan.Rest.first 6 _ (.pointer (some ⟨w.heap.size, 7, none⟩)) rfl (by kernel_rfl) (by kernel_rfl) (by kernel_rfl) (by kernel_rfl) (fun w' hb' => (by kernel_rfl)) ?_
      refine plan.Rest.first 7 _ (.agg #[.int .i64 s.f.id, .int .i64 s.f.kind, .int .i64 s.f.lo, .int .i64 s.f.hi, .int .i64 s.f.most]) rfl (by kernel_rfl) (by kernel_rfl) (by kernel_rfl) (by kernel_rfl) (fun w' hb' => exec_load_at (b := w.heap.size) (off := 7) rfl (by kernel_rfl) (range_f ((HZ.out _ (hb.trans (hb'.mono hb.size))).1)) Try.underlying26 rfl info_fd.out) ?_
      refine plan.Rest.first 8 _ (.pointer (some ⟨w.heap.size + 1, 7, none⟩)) rfl (by kernel_rfl) (by kernel_rfl) (by kernel_rfl) (by kernel_rfl) (fun w' hb' => (by kernel_rfl)) ?_
      refine plan.Rest.first 9 _ (.agg #[.int .i64 u.f.id, .int .i64 u.f.kind, .int .i64 u.f.lo, .int .i64 u.f.hi, .int .i64 u.f.most]) rfl (by kernel_rfl) (by kernel_rfl) (by kernel_rfl) (by kernel_rfl) (fun w' hb' => exec_load_at (b := w.heap.size + 1) (off := 7) rfl (by kernel_rfl) (range_f ((HZ.out _ (hb.trans (hb'.mono hb.size))).2)) Try.underlying26 rfl info_fd.out) ?_
      refine plan.Rest.first 10 _ (.bool false) rfl (by kernel_rfl) (by kernel_rfl) (by kernel_rfl) (by kernel_rfl) (fun w' hb' => (exec_two rfl (by kernel_rfl) (by kernel_rfl) (eqg_fd _ _ _ _ _ _) (HE1.out _))) ?_
      refine plan.Rest.first 11 _ (.bool false) rfl (by kernel_rfl) (by kernel_rfl) (by kernel_rfl) (by kernel_rfl) (fun w' hb' => (by kernel_rfl)) ?_
      refine plan.Rest.first 12 _ (.bool false) rfl (by kernel_rfl) (by kernel_rfl) (by kernel_rfl) (by kernel_rfl) (fun w' hb' => (by kernel_rfl)) ?_
      refine plan.Rest.skip 13 _ rfl (by kernel_rfl) (by kernel_rfl) (by kernel_rfl) (by kernel_rfl) ?_
      refine plan.Rest.skip 14 _ rfl (by kernel_rfl) (by kernel_rfl) (by kernel_rfl) (by kernel_rfl) ?_
      refine plan.Rest.skip 15 _ rfl (by kernel_rfl) (by kernel_rfl) (by kernel_rfl) (by kernel_rfl) ?_
      refine plan.Rest.skip 16 _ rfl (by kernel_rfl) (by kernel_rfl) (by kernel_rfl) (by kernel_rfl) ?_
      refine plan.Rest.skip 17 _ rfl (by kernel_rfl) (by kernel_rfl) (by kernel_rfl) (by kernel_rfl) ?_
      refine plan.Rest.first 18 _ (.bool false) rfl (by kernel_rfl) (by kernel_rfl) (by kernel_rfl) (by kernel_rfl) (fun w' hb' => (by kernel_rfl)) ?_
      refine plan.Rest.first 19 _ (.bool false) rfl (by kernel_rfl) (by kernel_rfl) (by kernel_rfl) (by kernel_rfl) (fun w' hb' => (by kernel_rfl)) ?_
      refine plan.Rest.skip 20 _ rfl (by kernel_rfl) (by kernel_rfl) (by kernel_rfl) (by kernel_rfl) ?_
      refine plan.Rest.skip 21 _ rfl (by kernel_rfl) (by kernel_rfl) (by kernel_rfl) (by kernel_rfl) ?_
      refine plan.Rest.skip 22 _ rfl (by kernel_rfl) (by kernel_rfl) (by kernel_rfl) (by kernel_rfl) ?_
      refine plan.Rest.skip 23 _ rfl (by kernel_rfl) (by kernel_rfl) (by kernel_rfl) (by kernel_rfl) ?_
      refine plan.Rest.skip 24 _ rfl (by kernel_rfl) (by kernel_rfl) (by kernel_rfl) (by kernel_rfl) ?_
      refine plan.Rest.first 25 _ (.bool false) rfl (by kernel_rfl) (by kernel_rfl) (by kernel_rfl) (by kernel_rfl) (fun w' hb' => (by kernel_rfl)) ?_
      refine plan.Rest.first 26 _ (.bool false) rfl (by kernel_rfl) (by kernel_rfl) (by kernel_rfl) (by kernel_rfl) (fun w' hb' => (by kernel_rfl)) ?_
      refine plan.Rest.skip 27 _ rfl (by kernel_rfl) (by kernel_rfl) (by kernel_rfl) (by kernel_rfl) ?_
      refine plan.Rest.skip 28 _ rfl (by kernel_rfl) (by kernel_rfl) (by kernel_rfl) (by kernel_rfl) ?_
      refine plan.Rest.skip 29 _ rfl (by kernel_rfl) (by kernel_rfl) (by kernel_rfl) (by kernel_rfl) ?_
      refine plan.Rest.skip 30 _ rfl (by kernel_rfl) (by kernel_rfl) (by kernel_rfl) (by kernel_rfl) ?_
      refine plan.Rest.skip 31 _ rfl (by kernel_rfl) (by kernel_rfl) (by kernel_rfl) (by kernel_rfl) ?_
      refine plan.Rest.first 32 _ (.bool false) rfl (by kernel_rfl) (by kernel_rfl) (by kernel_rfl) (by kernel_rfl) (fun w' hb' => (by kernel_rfl)) ?_
      refine plan.Rest.value 33 _ (.bool false) rfl (by kernel_rfl) (by kernel_rfl) (by kernel_rfl) ?_
      refine plan.Rest.done (by kernel_rfl) ?_
      walk_nrm
      go_wp2
      go_ret
      exact ⟨rfl, HB0.out.trans (hb.mono HB0.out.size)⟩
  · have HE0 := hid (fun W => eq_seven s.op s.fm s.fd s.pl s.tt s.a s.b u.op u.fm u.fd u.pl u.tt u.a u.b W)
    rw [decide_eq_false h0] at HE0
    obtain rfl : false = r := by rw [← hr.out]; exact (decide_eq_false (fun e => h0 (sp_eq.1 e).1)).symm
    clear h0 cT0 cL0
    go_enter Try.func72, Try.ntmps72
    go_wp2
    rw [HW0.out]
    have hb : Below W0.heap.size W0 W0.drew := below_drewN (Below.refl _ _) 1
    refine plan.region (by kernel_rfl) ?_
    refine plan.Rest.first 0 _ (.agg #[.int .i64 s.op, .int .i64 s.fm, .int .i64 s.fd, .int .i64 s.pl, .int .i64 s.tt, .int .i64 s.a, .int .i64 s.b, .int .i64 s.f.id, .int .i64 s.f.kind, .int .i64 s.f.lo, .int .i64 s.f.hi, .int .i64 s.f.most, .int .i64 s.v.n, .string s.v.s, .slice ta s.t.length tc, .slice la s.l.length lc]) rfl (by kernel_rfl) (by kernel_rfl) (by kernel_rfl) (by kernel_rfl) (fun w' hb' => exec_load_at (b := w.heap.size) (off := 0) rfl (by kernel_rfl) ((HZ.out _ (hb.trans (hb'.mono hb.size))).1).whole Try.underlying32 rfl info_st.out) ?_
    refine plan.Rest.first 2 _ (.agg #[.int .i64 u.op, .int .i64 u.fm, .int .i64 u.fd, .int .i64 u.pl, .int .i64 u.tt, .int .i64 u.a, .int .i64 u.b, .int .i64 u.f.id, .int .i64 u.f.kind, .int .i64 u.f.lo, .int .i64 u.f.hi, .int .i64 u.f.most, .int .i64 u.v.n, .string u.v.s, .slice ua u.t.length uc, .slice va u.l.length vc]) rfl (by kernel_rfl) (by kernel_rfl) (by kernel_rfl) (by kernel_rfl) (fun w' hb' => exec_load_at (b := w.heap.size + 1) (off := 0) rfl (by kernel_rfl) ((HZ.out _ (hb.trans (hb'.mono hb.size))).2).whole Try.underlying32 rfl info_st.out) ?_
    refine plan.Rest.call 1 _ 97 #[.agg #[.int .i64 s.op, .int .i64 s.fm, .int .i64 s.fd, .int .i64 s.pl, .int .i64 s.tt, .int .i64 s.a, .int .i64 s.b, .int .i64 s.f.id, .int .i64 s.f.kind, .int .i64 s.f.lo, .int .i64 s.f.hi, .int .i64 s.f.most, .int .i64 s.v.n, .string s.v.s, .slice ta s.t.length tc, .slice la s.l.length lc]] rfl (by kernel_rfl) (by kernel_rfl) (by kernel_rfl) ((cN1 W0.drew).mono ?_)
    rintro e W1 ⟨rfl, hn⟩
    have hb := hb.trans (hn.mono hb.size)
    refine ⟨_, rfl, hn, ?_⟩
    refine plan.Rest.call 3 _ 97 #[.agg #[.int .i64 u.op, .int .i64 u.fm, .int .i64 u.fd, .int .i64 u.pl, .int .i64 u.tt, .int .i64 u.a, .int .i64 u.b, .int .i64 u.f.id, .int .i64 u.f.kind, .int .i64 u.f.lo, .int .i64 u.f.hi, .int .i64 u.f.most, .int .i64 u.v.n, .string u.v.s, .slice ua u.t.length uc, .slice va u.l.length vc]] rfl (by kernel_rfl) (by kernel_rfl) (by kernel_rfl) ((cN2 W1).mono ?_)
    rintro e W2 ⟨rfl, hn⟩
    have hb := hb.trans (hn.mono hb.size)
    refine ⟨_, rfl, hn, ?_⟩
    refine plan.Rest.first 4 _ (.bool false) rfl (by kernel_rfl) (by kernel_rfl) (by kernel_rfl) (by kernel_rfl) (fun w' hb' => (exec_two rfl (by kernel_rfl) (by kernel_rfl) (eqg_seven _ _ _ _ _) (HE0.out _))) ?_
    refine plan.Rest.first 5 _ (.bool false) rfl (by kernel_rfl) (by kernel_rfl) (by kernel_rfl) (by kernel_rfl) (fun w' hb' => (by kernel_rfl)) ?_
    refine plan.Rest.skip 6 _ rfl (by kernel_rfl) (by kernel_rfl) (by kernel_rfl) (by kernel_rfl) ?_
    refine plan.Rest.skip 7 _ rfl (by kernel_rfl) (by kernel_rfl) (by kernel_rfl) (by kernel_rfl) ?_
    refine plan.Rest.skip 8 _ rfl (by kernel_rfl) (by kernel_rfl) (by kernel_rfl) (by kernel_rfl) ?_
    refine plan.Rest.skip 9 _ rfl (by kernel_rfl) (by kernel_rfl) (by kernel_rfl) (by kernel_rfl) ?_
    refine plan.Rest.skip 10 _ rfl (by kernel_rfl) (by kernel_rfl) (by kernel_rfl) (by kernel_rfl) ?_
    refine plan.Rest.first 11 _ (.bool false) rfl (by kernel_rfl) (by kernel_rfl) (by kernel_rfl) (by kernel_rfl) (fun w' hb' => (by kernel_rfl)) ?_
    refine plan.Rest.first 12 _ (.bool false) rfl (by kernel_rfl) (by kernel_rfl) (by kernel_rfl) (by kernel_rfl) (fun w' hb' => (by kernel_rfl)) ?_
    refine plan.Rest.skip 13 _ rfl (by kernel_rfl) (by kernel_rfl) (by kernel_rfl) (by kernel_rfl) ?_
    refine plan.Rest.skip 14 _ rfl (by kernel_rfl) (by kernel_rfl) (by kernel_rfl) (by kernel_rfl) ?_
    refine plan.Rest.skip 15 _ rfl (by kernel_rfl) (by kernel_rfl) (by kernel_rfl) (by kernel_rfl) ?_
    refine plan.Rest.skip 16 _ rfl (by kernel_rfl) (by kernel_rfl) (by kernel_rfl) (by kernel_rfl) ?_
    refine plan.Rest.skip 17 _ rfl (by kernel_rfl) (by kernel_rfl) (by kernel_rfl) (by kernel_rfl) ?_
    refine plan.Rest.first 18 _ (.bool false) rfl (by kernel_rfl) (by kernel_rfl) (by kernel_rfl) (by kernel_rfl) (fun w' hb' => (by kernel_rfl)) ?_
    refine plan.Rest.first 19 _ (.bool false) rfl (by kernel_rfl) (by kernel_rfl) (by kernel_rfl) (by kernel_rfl) (fun w' hb' => (by kernel_rfl)) ?_
    refine plan.Rest.skip 20 _ rfl (by kernel_rfl) (by kernel_rfl) (by kernel_rfl) (by kernel_rfl) ?_
    refine plan.Rest.skip 21 _ rfl (by kernel_rfl) (by kernel_rfl) (by kernel_rfl) (by kernel_rfl) ?_
    refine plan.Rest.skip 22 _ rfl (by kernel_rfl) (by kernel_rfl) (by kernel_rfl) (by kernel_rfl) ?_
    refine plan.Rest.skip 23 _ rfl (by kernel_rfl) (by kernel_rfl) (by kernel_rfl) (by kernel_rfl) ?_
    refine plan.Rest.skip 24 _ rfl (by kernel_rfl) (by kernel_rfl) (by kernel_rfl) (by kernel_rfl) ?_
    refine plan.Rest.first 25 _ (.bool false) rfl (by kernel_rfl) (by kernel_rfl) (by kernel_rfl) (by kernel_rfl) (fun w' hb' => (by kernel_rfl)) ?_
    refine plan.Rest.first 26 _ (.bool false) rfl (by kernel_rfl) (by kernel_rfl) (by kernel_rfl) (by kernel_rfl) (fun w' hb' => (by kernel_rfl)) ?_
    refine plan.Rest.skip 27 _ rfl (by kernel_rfl) (by kernel_rfl) (by kernel_rfl) (by kernel_rfl) ?_
    refine plan.Rest.skip 28 _ rfl (by kernel_rfl) (by kernel_rfl) (by kernel_rfl) (by kernel_rfl) ?_
    refine plan.Rest.skip 29 _ rfl (by kernel_rfl) (by kernel_rfl) (by kernel_rfl) (by kernel_rfl) ?_
    refine plan.Rest.skip 30 _ rfl (by kernel_rfl) (by kernel_rfl) (by kernel_rfl) (by kernel_rfl) ?_
    refine plan.Rest.skip 31 _ rfl (by kernel_rfl) (by kernel_rfl) (by kernel_rfl) (by kernel_rfl) ?_
    refine plan.Rest.first 32 _ (.bool false) rfl (by kernel_rfl) (by kernel_rfl) (by kernel_rfl) (by kernel_rfl) (fun w' hb' => (by kernel_rfl)) ?_
    refine plan.Rest.value 33 _ (.bool false) rfl (by kernel_rfl) (by kernel_rfl) (by kernel_rfl) ?_
    refine plan.Rest.done (by kernel_rfl) ?_
    walk_nrm
    go_wp2
    go_ret
    exact ⟨rfl, HB0.out.trans (hb.mono HB0.out.size)⟩

end Go.Proofs.Ytiajpjkkopdmgaa.step
