/- Contracts of the reference of layer 13 (schema): SameForm, Same. No condition. -/
import Derived.Test.YtacigmnnekphmaaSchemaSame
import Derived.Test.YtacigmnnekphmaaSchemaForm
import Derived.Deep.RegionHeld3
namespace Go.Proofs.Ytacigmnnekphmaa.schema
open Go.RowKit
open Go.Proofs.Ytacigmnnekphmaa.field (Gives newB gives_from)
set_option linter.unusedVariables false

theorem refSameForm_any (i : Int) (a : Option Addr) (c : Nat) (L : List field.Fd) (j : Int) (b : Option Addr) (d : Nat) (M : List field.Fd) (w : World) (h : field.Fds w a L) (h' : field.Fds w b M) (hL : L.length ≤ maxLen) (hM : M.length ≤ maxLen) :
    Calls Try.prog 10 #[.agg #[.int .i64 i, .slice a L.length c], .agg #[.int .i64 j, .slice b M.length d]] w (Gives (.bool (decide ((i, L) = (j, M)))) w) := by
  have hml : (L.length : Int) ≤ 9223372036854775807 := by unfold maxLen at hL; omega
  have hmm : (M.length : Int) ≤ 9223372036854775807 := by unfold maxLen at hM; omega
  have HX := hid (WM2.all i a L c j b M d w)
  have hw := (WM2.all i a L c j b M d w _ (Below.refl _ _)).2.2.2.2
  have HF := hid (h.below hw)
  have HG := hid (h'.below hw)
  have HW := hid hw
  obtain ⟨r, hr⟩ : ∃ r : Bool, Hid (decide ((i, L) = (j, M)) = r) := ⟨_, rfl⟩
  rw [hr.out]
  unfold Gives
  clear h h' hL hM hw
  unfold WM2 at HX HF HG HW
  by_cases hij : i = j
  · subst hij
    by_cases hlen : L.length = M.length
    · have HLEN := hid hlen
      rw [← hlen] at HX HF HG HW ⊢
      clear hlen hmm
      go_enter Try.func10, Try.ntmps10
      go_wp2
      generalize ((w.alloc (.cells #[.int .i64 i, .slice a L.length c] 29))).alloc (.cells #[.int .i64 i, .slice b L.length d] 29) = W0 at *
      go_loopw [5] (fun n wr => ∃ k : Nat, k ≤ L.length ∧ n = .int .i64 (k : Int) ∧ Hid (L.take k = M.take k) ∧ Hid (Below W0.heap.size W0 wr)) (fun n _ => L.length - (intOf n).toNat)
      case atStart => exact ⟨0, Nat.zero_le _, rfl, hid rfl, hid (Below.refl _ _)⟩
      case round =>
        obtain ⟨k, hk, rfl, HEQ, HB⟩ := hrel
        obtain ⟨z0, z1, z2, z3, hbo⟩ := HX.out _ HB.out
        by_cases hlt : k < L.length
        · obtain ⟨g, off, p, rfl, hbl, hp, c0, c1, c2, c3, c4⟩ := field_at HF.out HB.out hlt
          obtain ⟨g', off', q, rfl, hbl', hq, d0, d1, d2, d3, d4⟩ := field_at HG.out HB.out (k := k) (by rw [← HLEN.out]; exact hlt)
          have i1 : (k : Int) < L.length := by omega
          have HS := hid (eq_take_succ hp hq)
          have hne := fun W => neq_fd p q W
          have HNE := hid (fun (hpq : ¬ p = q) => show ¬ L = M from fun e => by rw [e] at hp; exact hpq (Option.some.inj (hp.symm.trans hq)))
          clear hp hq
          by_cases hpq : p = q
          · rw [decide_eq_true hpq] at hne
            have HPQ := hid hpq
            clear hpq
            go_wp2
            go_quiet (fail)
            go_wp2
            exact ⟨⟨k + 1, by omega, by go_num, hid (HS.out.2 ⟨HEQ.out, HPQ.out⟩), hid (below_drewN HB.out _)⟩, by simp [intOf]; omega⟩
          · rw [decide_eq_false hpq] at hne
            obtain rfl : false = r := by rw [← hr.out]; exact (decide_eq_false (fun e => HNE.out hpq (Prod.mk.inj e).2)).symm
            clear hpq
            go_wp2
            go_quiet (fail)
            go_wp2
            go_ret
            exact ⟨rfl, below_drewN hbo _⟩
        · obtain rfl : k = L.length := by omega
          obtain rfl : true = r := by
            rw [← hr.out]
            have := HEQ.out
            rw [List.take_of_length_le (Nat.le_refl _), List.take_of_length_le (by rw [HLEN.out]; exact Nat.le_refl _)] at this
            exact (decide_eq_true (by rw [this])).symm
          go_wp2
          go_ret
          exact ⟨rfl, hbo⟩
    · obtain rfl : false = r := by rw [← hr.out]; exact (decide_eq_false (fun e => hlen (by rw [(Prod.mk.inj e).2]))).symm
      have hd : ((L.length : Int) == (M.length : Int)) = false := by rw [beq_eq_false_iff_ne]; omega
      clear hlen
      go_enter Try.func10, Try.ntmps10
      go_wp2
      go_ret
      exact ⟨rfl, HW.out⟩
  · obtain rfl : false = r := by rw [← hr.out]; exact (decide_eq_false (fun e => hij (Prod.mk.inj e).1)).symm
    have hd : (i == j) = false := by rw [beq_eq_false_iff_ne]; exact hij
    clear hij
    go_enter Try.func10, Try.ntmps10
    go_wp2
    go_ret
    exact ⟨rfl, HW.out⟩
theorem refSame_any (i : Int) (a : Option Addr) (c : Nat) (L : List Fm) (j : Int) (b : Option Addr) (d : Nat) (M : List Fm) (w : World) (h : FmL w a L) (h' : FmL w b M) (hL : L.length ≤ maxLen) (hM : M.length ≤ maxLen) :
    Calls Try.prog 20 #[.agg #[.int .i64 i, .slice a L.length c], .agg #[.int .i64 j, .slice b M.length d]] w (Gives (.bool (decide (i = j ∧ forms L = forms M))) w) := by
  have hml : (L.length : Int) ≤ 9223372036854775807 := by unfold maxLen at hL; omega
  have hmm : (M.length : Int) ≤ 9223372036854775807 := by unfold maxLen at hM; omega
  have HX := hid (WS2.all i a L c j b M d w)
  have hw := (WS2.all i a L c j b M d w _ (Below.refl _ _)).2.2.2.2
  have HF := hid (h.below hw)
  have HG := hid (h'.below hw)
  have HW := hid hw
  obtain ⟨r, hr⟩ : ∃ r : Bool, Hid (decide (i = j ∧ forms L = forms M) = r) := ⟨_, rfl⟩
  rw [hr.out]
  unfold Gives
  clear h h' hL hM hw
  unfold WS2 at HX HF HG HW
  by_cases hij : i = j
  · subst hij
    by_cases hlen : L.length = M.length
    · have HLEN := hid hlen
      rw [← hlen] at HX HF HG HW ⊢
      clear hlen hmm
      go_enter Try.func20, Try.ntmps20
      go_wp2
      generalize ((w.alloc (.cells #[.int .i64 i, .slice a L.length c] 24))).alloc (.cells #[.int .i64 i, .slice b L.length d] 24) = W0 at *
      go_loopw [5] (fun n wr => ∃ k : Nat, k ≤ L.length ∧ n = .int .i64 (k : Int) ∧ Hid ((forms L).take k = (forms M).take k) ∧ Hid (Below W0.heap.size W0 wr)) (fun n _ => L.length - (intOf n).toNat)
      case atStart => exact ⟨0, Nat.zero_le _, rfl, hid rfl, hid (Below.refl _ _)⟩
      case round =>
        obtain ⟨k, hk, rfl, HEQ, HB⟩ := hrel
        by_cases hlt : k < L.length
        · obtain ⟨g, off, p, rfl, hbl, hp, c0, c1, hfp, hlp⟩ := form_at HF.out (below_drew HB.out) hlt
          obtain ⟨g', off', q, rfl, hbl', hq, d0, d1, hfq, hlq⟩ := form_at HG.out (below_drew HB.out) (k := k) (by rw [← HLEN.out]; exact hlt)
          obtain ⟨z0, z1, z2, z3, hbo⟩ := HX.out _ (below_drew HB.out)
          obtain ⟨y0, y1, y2, y3, _⟩ := HX.out _ HB.out
          have i1 : (k : Int) < L.length := by omega
          have HS := hid (eq_take_succ (forms_at hp) (forms_at hq))
          have HNE := hid (fun (hpq : ¬ p.p = q.p) => show ¬ forms L = forms M from fun e => by have h1 := forms_at hp; rw [e] at h1; exact hpq (Option.some.inj (h1.symm.trans (forms_at hq))))
          obtain ⟨i', x, xc, P⟩ := p
          obtain ⟨j', y, yc, R⟩ := q
          simp only [Fm.p] at HS HNE c0 c1 d0 d1 hfp hfq hlp hlq
          have cS := refSameForm_any i' x xc P j' y yc R wr.drew hfp hfq hlp hlq
          have HD := hid (fun w' (hb : Below wr.drew.heap.size wr.drew w') => (⟨(hb.cell (p := ⟨g, off + k * 2, none⟩) hbl).trans c0, (hb.cell (p := ⟨g, off + k * 2 + 1, none⟩) hbl).trans c1, (hb.cell (p := ⟨g', off' + k * 2, none⟩) hbl').trans d0, (hb.cell (p := ⟨g', off' + k * 2 + 1, none⟩) hbl').trans d1⟩ : w'.cell? ⟨g, off + k * 2, none⟩ = some (.int .i64 i') ∧ w'.cell? ⟨g, off + k * 2 + 1, none⟩ = some (.slice x P.length xc) ∧ w'.cell? ⟨g', off' + k * 2, none⟩ = some (.int .i64 j') ∧ w'.cell? ⟨g', off' + k * 2 + 1, none⟩ = some (.slice y R.length yc)))
          clear hp hq hfp hfq hlp hlq
          by_cases hpq : (i', P) = (j', R)
          · rw [decide_eq_true hpq] at cS
            have HPQ := hid hpq
            clear hpq
            go_wp2
            go_region_held3 (fun w' => w'.cell? ⟨w.heap.size, 1, none⟩ = some (.slice (some ⟨g, off, none⟩) L.length c) ∧ w'.cell? ⟨w.heap.size + 1, 1, none⟩ = some (.slice (some ⟨g', off', none⟩) L.length d) ∧ w'.cell? ⟨g, off + k * 2, none⟩ = some (.int .i64 i') ∧ w'.cell? ⟨g, off + k * 2 + 1, none⟩ = some (.slice x P.length xc) ∧ w'.cell? ⟨g', off' + k * 2, none⟩ = some (.int .i64 j') ∧ w'.cell? ⟨g', off' + k * 2 + 1, none⟩ = some (.slice y R.length yc)) (first | assumption | go_keep) (first
              | (go_at_call 10; (with_reducible refine cS.mono ?_); rintro e w3 ⟨rfl, hb3⟩; obtain ⟨e0, e1, e2, e3⟩ := HD.out w3 hb3; have hbw := (below_drew HB.out).trans (hb3.mono (below_drew HB.out).size); obtain ⟨y0, y1, y2, y3, hbo2⟩ := HX.out w3 hbw))
            go_wp2
            exact ⟨⟨k + 1, by omega, by go_num, hid (HS.out.2 ⟨HEQ.out, HPQ.out⟩), hid hbw⟩, by simp [intOf]; omega⟩
          · rw [decide_eq_false hpq] at cS
            obtain rfl : false = r := by rw [← hr.out]; exact (decide_eq_false (fun e => HNE.out hpq e.2)).symm
            clear hpq
            go_wp2
            go_region_held3 (fun w' => w'.cell? ⟨w.heap.size, 1, none⟩ = some (.slice (some ⟨g, off, none⟩) L.length c) ∧ w'.cell? ⟨w.heap.size + 1, 1, none⟩ = some (.slice (some ⟨g', off', none⟩) L.length d) ∧ w'.cell? ⟨g, off + k * 2, none⟩ = some (.int .i64 i') ∧ w'.cell? ⟨g, off + k * 2 + 1, none⟩ = some (.slice x P.length xc) ∧ w'.cell? ⟨g', off' + k * 2, none⟩ = some (.int .i64 j') ∧ w'.cell? ⟨g', off' + k * 2 + 1, none⟩ = some (.slice y R.length yc)) (first | assumption | go_keep) (first
              | (go_at_call 10; (with_reducible refine cS.mono ?_); rintro e w3 ⟨rfl, hb3⟩; obtain ⟨e0, e1, e2, e3⟩ := HD.out w3 hb3; have hbw := (below_drew HB.out).trans (hb3.mono (below_drew HB.out).size); obtain ⟨y0, y1, y2, y3, hbo2⟩ := HX.out w3 hbw))
            go_wp2
            go_ret
            exact ⟨rfl, hbo2⟩
        · obtain rfl : k = L.length := by omega
          obtain ⟨z0, z1, z2, z3, hbo⟩ := HX.out _ HB.out
          obtain rfl : true = r := by
            rw [← hr.out]
            have := HEQ.out
            rw [List.take_of_length_le (by rw [forms_length]; exact Nat.le_refl _), List.take_of_length_le (by rw [forms_length, HLEN.out]; exact Nat.le_refl _)] at this
            exact (decide_eq_true (by first | exact ⟨rfl, this⟩ | exact ⟨trivial, this⟩)).symm
          go_wp2
          go_ret
          exact ⟨rfl, hbo⟩
    · obtain rfl : false = r := by rw [← hr.out]; exact (decide_eq_false (fun e => hlen (by rw [← forms_length, e.2, forms_length]))).symm
      have hd : ((L.length : Int) == (M.length : Int)) = false := by rw [beq_eq_false_iff_ne]; omega
      clear hlen
      go_enter Try.func20, Try.ntmps20
      go_wp2
      go_ret
      exact ⟨rfl, HW.out⟩
  · obtain rfl : false = r := by rw [← hr.out]; exact (decide_eq_false (fun e => hij e.1)).symm
    have hd : (i == j) = false := by rw [beq_eq_false_iff_ne]; exact hij
    clear hij
    go_enter Try.func20, Try.ntmps20
    go_wp2
    go_ret
    exact ⟨rfl, HW.out⟩
end Go.Proofs.Ytacigmnnekphmaa.schema
