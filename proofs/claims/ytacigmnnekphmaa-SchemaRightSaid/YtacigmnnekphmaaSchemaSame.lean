/- Contracts of layer 13 (schema): Same, with slices.Equal, slices.EqualFunc and its function. No condition. -/
import Derived.Test.YtacigmnnekphmaaSchemaAt
import Derived.Laws.StructEq
namespace Go.Proofs.Ytacigmnnekphmaa.schema
open Go.RowKit
open Go.Proofs.Ytacigmnnekphmaa.field (Gives newB gives_from)
set_option linter.unusedVariables false

theorem neq_fd (p q : field.Fd) (w : World) : (binOp .neq 50 (.agg #[.int .i64 p.id, .int .i64 p.kind, .int .i64 p.lo, .int .i64 p.hi, .int .i64 p.most]) (.agg #[.int .i64 q.id, .int .i64 q.kind, .int .i64 q.lo, .int .i64 q.hi, .int .i64 q.most])).run Try.prog w = .ok (.bool (!decide (p = q))) w := by
  rw [run_neq_struct, show (10000 : Nat) = 9999 + 1 from rfl, run_equalIn_struct w 9999 50 _ _ (by kernel_rfl) Try.stoodInHeld50]
  go_simp
  obtain ⟨i, k, lo, hi, m⟩ := p
  obtain ⟨i', k', lo', hi', m'⟩ := q
  simp only [field.Fd.mk.injEq]
  by_cases h1 : i = i'
  · by_cases h2 : k = k'
    · by_cases h3 : lo = lo'
      · by_cases h4 : hi = hi'
        · by_cases h5 : m = m' <;> simp [h1, h2, h3, h4, h5]
        · simp [h1, h2, h3, h4]
      · simp [h1, h2, h3]
    · simp [h1, h2]
  · simp [h1]
theorem eq_take_succ {α : Type} {L M : List α} {k : Nat} {p q : α} (hp : L[k]? = some p) (hq : M[k]? = some q) : L.take (k + 1) = M.take (k + 1) ↔ L.take k = M.take k ∧ p = q := by
  rw [take_succ_at hp, take_succ_at hq]
  have h1 := (List.getElem?_eq_some_iff.1 hp).1
  have h2 := (List.getElem?_eq_some_iff.1 hq).1
  constructor
  · intro h
    have := List.append_inj' h rfl
    exact ⟨this.1, by simpa using this.2⟩
  · rintro ⟨h, rfl⟩; rw [h]
theorem equalF_any (a : Option Addr) (ca : Nat) (L : List field.Fd) (b : Option Addr) (cb : Nat) (M : List field.Fd) (w : World) (h : field.Fds w a L) (h' : field.Fds w b M) (hL : L.length ≤ maxLen) (hM : M.length ≤ maxLen) :
    Calls Try.prog 55 #[.slice a L.length ca, .slice b M.length cb] w (Gives (.bool (decide (L = M))) w) := by
  have hml : (L.length : Int) ≤ 9223372036854775807 := by unfold maxLen at hL; omega
  have hmm : (M.length : Int) ≤ 9223372036854775807 := by unfold maxLen at hM; omega
  have HF := hid h
  have HG := hid h'
  obtain ⟨r, hr⟩ : ∃ r : Bool, Hid (decide (L = M) = r) := ⟨_, rfl⟩
  rw [hr.out]
  unfold Gives
  clear h h' hL hM
  by_cases hlen : L.length = M.length
  · have HLEN := hid hlen
    rw [← hlen]
    clear hlen hmm
    go_enter Try.func55, Try.ntmps55
    go_wp2
    go_loopw [13] (fun n wr => ∃ k : Nat, k ≤ L.length ∧ n = .int .i64 (k : Int) ∧ Hid (L.take k = M.take k) ∧ Hid (Below w.heap.size w wr)) (fun n _ => L.length - (intOf n).toNat)
    case atStart => exact ⟨0, Nat.zero_le _, rfl, hid rfl, hid (Below.refl _ _)⟩
    case round =>
      obtain ⟨k, hk, rfl, HEQ, HB⟩ := hrel
      by_cases hlt : k < L.length
      · obtain ⟨g, off, p, rfl, hbl, hp, c0, c1, c2, c3, c4⟩ := field_at HF.out HB.out hlt
        obtain ⟨g', off', q, rfl, hbl', hq, d0, d1, d2, d3, d4⟩ := field_at HG.out HB.out (k := k) (by rw [← HLEN.out]; exact hlt)
        have i1 : (k : Int) < L.length := by omega
        have HS := hid (eq_take_succ hp hq)
        have hne := fun W => neq_fd p q W
        have HNE := hid (fun (hpq : ¬ p = q) => show ¬ L = M from fun e => by rw [e] at hp; exact hpq (Option.some.inj (hp.symm.trans hq)))
        clear hp hq
        by_cases hpq : p = q
        · rw [decide_eq_true hpq] at hne
          have HPQ := hid hpq
          clear hpq
          go_wp2
          go_quiet (fail)
          go_wp2
          exact ⟨⟨k + 1, by omega, by go_num, hid (HS.out.2 ⟨HEQ.out, HPQ.out⟩), hid (below_drewN HB.out _)⟩, by simp [intOf]; omega⟩
        · rw [decide_eq_false hpq] at hne
          obtain rfl : false = r := by rw [← hr.out]; exact (decide_eq_false (HNE.out hpq)).symm
          clear hpq
          go_wp2
          go_quiet (fail)
          go_wp2
          go_ret
          exact ⟨rfl, below_drewN HB.out _⟩
      · obtain rfl : k = L.length := by omega
        obtain rfl : true = r := by
          rw [← hr.out]
          have := HEQ.out
          rw [List.take_of_length_le (Nat.le_refl _), List.take_of_length_le (by rw [HLEN.out]; exact Nat.le_refl _)] at this
          exact (decide_eq_true this).symm
        go_wp2
        go_ret
        exact ⟨rfl, HB.out⟩
  · obtain rfl : false = r := by rw [← hr.out]; exact (decide_eq_false (fun e => hlen (by rw [e]))).symm
    have hd : ((L.length : Int) == (M.length : Int)) = false := by rw [beq_eq_false_iff_ne]; omega
    clear hlen
    go_enter Try.func55, Try.ntmps55
    go_wp2
    go_ret
    exact ⟨rfl, Below.refl _ _⟩
/-- the world in which two forms have been boxed -/
def WM2 (i : Int) (a : Option Addr) (L : List field.Fd) (c : Nat) (j : Int) (b : Option Addr) (M : List field.Fd) (d : Nat) (w : World) : World := (w.alloc (.cells #[.int .i64 i, .slice a L.length c] 29)).alloc (.cells #[.int .i64 j, .slice b M.length d] 29)
theorem WM2.all (i : Int) (a : Option Addr) (L : List field.Fd) (c : Nat) (j : Int) (b : Option Addr) (M : List field.Fd) (d : Nat) (w w' : World) (hb : Below (WM2 i a L c j b M d w).heap.size (WM2 i a L c j b M d w) w') :
    w'.cell? ⟨w.heap.size, 0, none⟩ = some (.int .i64 i) ∧ w'.cell? ⟨w.heap.size, 1, none⟩ = some (.slice a L.length c) ∧ w'.cell? ⟨w.heap.size + 1, 0, none⟩ = some (.int .i64 j) ∧ w'.cell? ⟨w.heap.size + 1, 1, none⟩ = some (.slice b M.length d) ∧ Below w.heap.size w w' := by
  obtain ⟨h1, h2, h3⟩ := boxM i a L c w w' (below_out hb)
  obtain ⟨h4, h5, _⟩ := boxM j b M d (w.alloc (.cells #[.int .i64 i, .slice a L.length c] 29)) w' hb
  exact ⟨h1, h2, by simpa using h4, by simpa using h5, h3⟩
theorem sameForm_any (i : Int) (a : Option Addr) (c : Nat) (L : List field.Fd) (j : Int) (b : Option Addr) (d : Nat) (M : List field.Fd) (w : World) (h : field.Fds w a L) (h' : field.Fds w b M) (hL : L.length ≤ maxLen) (hM : M.length ≤ maxLen) :
    Calls Try.prog 36 #[.agg #[.int .i64 i, .slice a L.length c], .agg #[.int .i64 j, .slice b M.length d]] w (Gives (.bool (decide ((i, L) = (j, M)))) w) := by
  have HX := hid (WM2.all i a L c j b M d w)
  have hw := (WM2.all i a L c j b M d w _ (Below.refl _ _)).2.2.2.2
  have cE := equalF_any a c L b d M (WM2 i a L c j b M d w) (h.below hw) (h'.below hw) hL hM
  have HW := hid hw
  clear h h' hL hM hw
  unfold Gives
  by_cases hij : i = j
  · subst hij
    rw [show decide ((i, L) = (i, M)) = decide (L = M) by simp]
    generalize decide (L = M) = r at *
    unfold WM2 at HX cE HW
    go_enter Try.func36, Try.ntmps36
    go_wp2_with (go_at_call 55; ((with_reducible refine cE.mono ?_); rintro e w2 ⟨rfl, hb2⟩; obtain ⟨z0, z1, z2, z3, hbo⟩ := HX.out _ hb2))
    go_ret
    exact ⟨rfl, hbo⟩
  · have hd : (i == j) = false := by rw [beq_eq_false_iff_ne]; exact hij
    rw [show decide ((i, L) = (j, M)) = false from decide_eq_false (fun e => hij (Prod.mk.inj e).1)]
    clear hij cE
    unfold WM2 at HX HW
    go_enter Try.func36, Try.ntmps36
    go_wp2
    go_ret
    exact ⟨rfl, HW.out⟩
theorem forms_take (F : List Fm) (k : Nat) : (forms F).take k = forms (F.take k) := by unfold forms; rw [List.map_take]
theorem equalFunc_any (a : Option Addr) (ca : Nat) (L : List Fm) (b : Option Addr) (cb : Nat) (M : List Fm) (w : World) (h : FmL w a L) (h' : FmL w b M) (hL : L.length ≤ maxLen) (hM : M.length ≤ maxLen) :
    Calls Try.prog 35 #[.slice a L.length ca, .slice b M.length cb, .func (.func 36) #[] #[]] w (Gives (.bool (decide (forms L = forms M))) w) := by
  have hml : (L.length : Int) ≤ 9223372036854775807 := by unfold maxLen at hL; omega
  have hmm : (M.length : Int) ≤ 9223372036854775807 := by unfold maxLen at hM; omega
  have HF := hid h
  have HG := hid h'
  obtain ⟨r, hr⟩ : ∃ r : Bool, Hid (decide (forms L = forms M) = r) := ⟨_, rfl⟩
  rw [hr.out]
  unfold Gives
  clear h h' hL hM
  by_cases hlen : L.length = M.length
  · have HLEN := hid hlen
    rw [← hlen]
    clear hlen hmm
    go_enter Try.func35, Try.ntmps35
    go_wp2
    go_loopw [17] (fun n wr => ∃ k : Nat, k ≤ L.length ∧ n = .int .i64 (k : Int) ∧ Hid ((forms L).take k = (forms M).take k) ∧ Hid (Below w.heap.size w wr)) (fun n _ => L.length - (intOf n).toNat)
    case atStart => exact ⟨0, Nat.zero_le _, rfl, hid rfl, hid (Below.refl _ _)⟩
    case round =>
      obtain ⟨k, hk, rfl, HEQ, HB⟩ := hrel
      by_cases hlt : k < L.length
      · obtain ⟨g, off, p, rfl, hbl, hp, c0, c1, hfp, hlp⟩ := form_at HF.out HB.out hlt
        obtain ⟨g', off', q, rfl, hbl', hq, d0, d1, hfq, hlq⟩ := form_at HG.out HB.out (k := k) (by rw [← HLEN.out]; exact hlt)
        have i1 : (k : Int) < L.length := by omega
        have HS := hid (eq_take_succ (forms_at hp) (forms_at hq))
        have HNE := hid (fun (hpq : ¬ p.p = q.p) => show ¬ forms L = forms M from fun e => by have h1 := forms_at hp; rw [e] at h1; exact hpq (Option.some.inj (h1.symm.trans (forms_at hq))))
        obtain ⟨i, x, xc, P⟩ := p
        obtain ⟨j, y, yc, R⟩ := q
        simp only [Fm.p] at HS HNE c0 c1 d0 d1 hfp hfq hlp hlq
        have hb2 := (newB wr (.cells #[.int .i64 i, .slice x P.length xc] 29)).trans ((newB ((wr.alloc (.cells #[.int .i64 i, .slice x P.length xc] 29))) (.cells #[.int .i64 j, .slice y R.length yc] 29)).mono (by simp))
        have cS := sameForm_any i x xc P j y yc R (WM2 i x P xc j y R yc wr) (hfp.below hb2) (hfq.below hb2) hlp hlq
        have HX := hid (WM2.all i x P xc j y R yc wr)
        unfold WM2 at cS HX
        clear hp hq hfp hfq hlp hlq hb2
        by_cases hpq : (i, P) = (j, R)
        · rw [decide_eq_true hpq] at cS
          have HPQ := hid hpq
          clear hpq
          go_wp2_with (go_at_call 36; ((with_reducible refine cS.mono ?_); rintro e w2 ⟨rfl, hb2⟩; obtain ⟨z0, z1, z2, z3, hbo⟩ := HX.out _ hb2))
          exact ⟨⟨k + 1, by omega, by go_num, hid (HS.out.2 ⟨HEQ.out, HPQ.out⟩), hid (HB.out.trans (hbo.mono HB.out.size))⟩, by simp [intOf]; omega⟩
        · rw [decide_eq_false hpq] at cS
          obtain rfl : false = r := by rw [← hr.out]; exact (decide_eq_false (HNE.out hpq)).symm
          clear hpq
          go_wp2_with (go_at_call 36; ((with_reducible refine cS.mono ?_); rintro e w2 ⟨rfl, hb2⟩; obtain ⟨z0, z1, z2, z3, hbo⟩ := HX.out _ hb2))
          go_ret
          exact ⟨rfl, HB.out.trans (hbo.mono HB.out.size)⟩
      · obtain rfl : k = L.length := by omega
        obtain rfl : true = r := by
          rw [← hr.out]
          have := HEQ.out
          rw [List.take_of_length_le (by rw [forms_length]; exact Nat.le_refl _), List.take_of_length_le (by rw [forms_length, HLEN.out]; exact Nat.le_refl _)] at this
          exact (decide_eq_true this).symm
        go_wp2
        go_ret
        exact ⟨rfl, HB.out⟩
  · obtain rfl : false = r := by rw [← hr.out]; exact (decide_eq_false (fun e => hlen (by rw [← forms_length, e, forms_length]))).symm
    have hd : ((L.length : Int) == (M.length : Int)) = false := by rw [beq_eq_false_iff_ne]; omega
    clear hlen
    go_enter Try.func35, Try.ntmps35
    go_wp2
    go_ret
    exact ⟨rfl, Below.refl _ _⟩
/-- the world in which two schemas have been boxed -/
def WS2 (i : Int) (a : Option Addr) (L : List Fm) (c : Nat) (j : Int) (b : Option Addr) (M : List Fm) (d : Nat) (w : World) : World := (w.alloc (.cells #[.int .i64 i, .slice a L.length c] 24)).alloc (.cells #[.int .i64 j, .slice b M.length d] 24)
theorem WS2.all (i : Int) (a : Option Addr) (L : List Fm) (c : Nat) (j : Int) (b : Option Addr) (M : List Fm) (d : Nat) (w w' : World) (hb : Below (WS2 i a L c j b M d w).heap.size (WS2 i a L c j b M d w) w') :
    w'.cell? ⟨w.heap.size, 0, none⟩ = some (.int .i64 i) ∧ w'.cell? ⟨w.heap.size, 1, none⟩ = some (.slice a L.length c) ∧ w'.cell? ⟨w.heap.size + 1, 0, none⟩ = some (.int .i64 j) ∧ w'.cell? ⟨w.heap.size + 1, 1, none⟩ = some (.slice b M.length d) ∧ Below w.heap.size w w' := by
  obtain ⟨h1, h2, h3⟩ := boxS i a L c w w' (below_out hb)
  obtain ⟨h4, h5, _⟩ := boxS j b M d (w.alloc (.cells #[.int .i64 i, .slice a L.length c] 24)) w' hb
  exact ⟨h1, h2, by simpa using h4, by simpa using h5, h3⟩
theorem same_any (i : Int) (a : Option Addr) (c : Nat) (L : List Fm) (j : Int) (b : Option Addr) (d : Nat) (M : List Fm) (w : World) (h : FmL w a L) (h' : FmL w b M) (hL : L.length ≤ maxLen) (hM : M.length ≤ maxLen) :
    Calls Try.prog 19 #[.agg #[.int .i64 i, .slice a L.length c], .agg #[.int .i64 j, .slice b M.length d]] w (Gives (.bool (decide (i = j ∧ forms L = forms M))) w) := by
  have HX := hid (WS2.all i a L c j b M d w)
  have hw := (WS2.all i a L c j b M d w _ (Below.refl _ _)).2.2.2.2
  have cE := equalFunc_any a c L b d M (WS2 i a L c j b M d w) (h.below hw) (h'.below hw) hL hM
  have HW := hid hw
  clear h h' hL hM hw
  unfold Gives
  by_cases hij : i = j
  · subst hij
    rw [show decide (i = i ∧ forms L = forms M) = decide (forms L = forms M) by simp]
    generalize decide (forms L = forms M) = r at *
    unfold WS2 at HX cE HW
    go_enter Try.func19, Try.ntmps19
    go_wp2_with (go_at_call 35; ((with_reducible refine cE.mono ?_); rintro e w2 ⟨rfl, hb2⟩; obtain ⟨z0, z1, z2, z3, hbo⟩ := HX.out _ hb2))
    go_ret
    exact ⟨rfl, hbo⟩
  · have hd : (i == j) = false := by rw [beq_eq_false_iff_ne]; exact hij
    rw [show decide (i = j ∧ forms L = forms M) = false from decide_eq_false (fun e => hij e.1)]
    clear hij cE
    unfold WS2 at HX HW
    go_enter Try.func19, Try.ntmps19
    go_wp2
    go_ret
    exact ⟨rfl, HW.out⟩
end Go.Proofs.Ytacigmnnekphmaa.schema
