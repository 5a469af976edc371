/- Contracts and lemmas that the claims of this seat share: RecordSame, FieldSmall, FieldRefSmall, PlanMore, FieldHas, SchemaFirst, SchemaRefIx, SchemaExecF, SchemaRefFine. Each says its own conditions. -/
import Derived.Test.YtegeeobfamjjpaaCmE
import Derived.Laws.StructEq
import Derived.Test.YtegeeobfamjjpaaCmC
import Derived.IntWalk
import Derived.Handy
import Derived.Test.YtegeeobfamjjpaaCmD
import Derived.Conc.WalkWords
/- Contracts of layer 14 (record) and of its reference: Same, with slices.Equal. No condition. -/
namespace Go.Proofs.Ytegeeobfamjjpaa.record
open Go.RowKit
open Go.Proofs.Ytegeeobfamjjpaa.field (Va Gives newB gives_from)
open Go.Proofs.Ytegeeobfamjjpaa.schema (take_succ_at below_out)
set_option linter.unusedVariables false

theorem neq_va (p q : Va) (w : World) : (binOp .neq 48 (.agg #[.int .i64 p.n, .string p.s]) (.agg #[.int .i64 q.n, .string q.s])).run Try.prog w = .ok (.bool (!decide (p = q))) w := by
  rw [run_neq_struct, show (10000 : Nat) = 9999 + 1 from rfl, run_equalIn_struct w 9999 48 _ _ (by kernel_rfl) Try.stoodInHeld48]
  go_simp
  obtain ⟨n, s⟩ := p
  obtain ⟨m, t⟩ := q
  rw [show decide ((⟨n, s⟩ : Va) = ⟨m, t⟩) = decide (n = m ∧ s.toList = t.toList) from decide_eq_decide.2 va_eq]
  by_cases h1 : n = m
  · by_cases h2 : s.toList = t.toList <;> simp [h1, h2]
  · simp [h1]
theorem eqgn_va (x y : Operand) (p q : Va) (w : World) : (eqGuard .neq 48 x y (.agg #[.int .i64 p.n, .string p.s]) (.agg #[.int .i64 q.n, .string q.s])).run Try.prog w = .ok () w :=
  run_eqGuard_agg w .neq 48 x y _ _ Try.eqGuardType48
theorem eq_take_succ {α : Type} {L M : List α} {k : Nat} {p q : α} (hp : L[k]? = some p) (hq : M[k]? = some q) : L.take (k + 1) = M.take (k + 1) ↔ L.take k = M.take k ∧ p = q := by
  rw [take_succ_at hp, take_succ_at hq]
  have h1 := (List.getElem?_eq_some_iff.1 hp).1
  have h2 := (List.getElem?_eq_some_iff.1 hq).1
  constructor
  · intro h
    have := List.append_inj' h rfl
    exact ⟨this.1, by simpa using this.2⟩
  · rintro ⟨h, rfl⟩; rw [h]
theorem equalV_any (a : Option Addr) (ca : Nat) (L : List Va) (b : Option Addr) (cb : Nat) (M : List Va) (w : World) (h : field.Vas w a L) (h' : field.Vas w b M) (hL : L.length ≤ maxLen) (hM : M.length ≤ maxLen) :
    Calls Try.prog 28 #[.slice a L.length ca, .slice b M.length cb] w (Gives (.bool (decide (L = M))) w) := by
  have hml : (L.length : Int) ≤ 9223372036854775807 := by unfold maxLen at hL; omega
  have hmm : (M.length : Int) ≤ 9223372036854775807 := by unfold maxLen at hM; omega
  have HF := hid h
  have HG := hid h'
  obtain ⟨r, hr⟩ : ∃ r : Bool, Hid (decide (L = M) = r) := ⟨_, rfl⟩
  rw [hr.out]
  unfold Gives
  clear h h' hL hM
  by_cases hlen : L.length = M.length
  · have HLEN := hid hlen
    rw [← hlen]
    clear hlen hmm
    go_enter Try.func28, Try.ntmps28
    go_wp2
    go_loopw [13] (fun n wr => ∃ k : Nat, k ≤ L.length ∧ n = .int .i64 (k : Int) ∧ Hid (L.take k = M.take k) ∧ Hid (Below w.heap.size w wr)) (fun n _ => L.length - (intOf n).toNat)
    case atStart => exact ⟨0, Nat.zero_le _, rfl, hid rfl, hid (Below.refl _ _)⟩
    case round =>
      obtain ⟨k, hk, rfl, HEQ, HB⟩ := hrel
      by_cases hlt : k < L.length
      · obtain ⟨g, off, p, rfl, hbl, hp, c0, c1⟩ := val_at HF.out HB.out hlt
        obtain ⟨g', off', q, rfl, hbl', hq, d0, d1⟩ := val_at HG.out HB.out (k := k) (by rw [← HLEN.out]; exact hlt)
        have i1 : (k : Int) < L.length := by omega
        have HS := hid (eq_take_succ hp hq)
        have hne := fun W => neq_va p q W
        have hng := fun x y W => eqgn_va x y p q W
        have HNE := hid (fun (hpq : ¬ p = q) => show ¬ L = M from fun e => by rw [e] at hp; exact hpq (Option.some.inj (hp.symm.trans hq)))
        clear hp hq
        by_cases hpq : p = q
        · rw [decide_eq_true hpq] at hne
          have HPQ := hid hpq
          clear hpq
          go_wp2
          go_quiet (fail)
          go_wp2
          exact ⟨⟨k + 1, by omega, by go_num, hid (HS.out.2 ⟨HEQ.out, HPQ.out⟩), hid (below_drewN HB.out _)⟩, by simp [intOf]; omega⟩
        · rw [decide_eq_false hpq] at hne
          obtain rfl : false = r := by rw [← hr.out]; exact (decide_eq_false (HNE.out hpq)).symm
          clear hpq
          go_wp2
          go_quiet (fail)
          go_wp2
          go_ret
          exact ⟨rfl, below_drewN HB.out _⟩
      · obtain rfl : k = L.length := by omega
        obtain rfl : true = r := by
          rw [← hr.out]
          have := HEQ.out
          rw [List.take_of_length_le (Nat.le_refl _), List.take_of_length_le (by rw [HLEN.out]; exact Nat.le_refl _)] at this
          exact (decide_eq_true this).symm
        go_wp2
        go_ret
        exact ⟨rfl, HB.out⟩
  · obtain rfl : false = r := by rw [← hr.out]; exact (decide_eq_false (fun e => hlen (by rw [e]))).symm
    have hd : ((L.length : Int) == (M.length : Int)) = false := by rw [beq_eq_false_iff_ne]; omega
    clear hlen
    go_enter Try.func28, Try.ntmps28
    go_wp2
    go_ret
    exact ⟨rfl, Below.refl _ _⟩
/-- the world in which two records have been boxed -/
def WR2 (i : Int) (a : Option Addr) (L : List Va) (c : Nat) (j : Int) (b : Option Addr) (M : List Va) (d : Nat) (w : World) : World := (w.alloc (.cells #[.int .i64 i, .slice a L.length c] 27)).alloc (.cells #[.int .i64 j, .slice b M.length d] 27)
theorem WR2.all (i : Int) (a : Option Addr) (L : List Va) (c : Nat) (j : Int) (b : Option Addr) (M : List Va) (d : Nat) (w w' : World) (hb : Below (WR2 i a L c j b M d w).heap.size (WR2 i a L c j b M d w) w') :
    w'.cell? ⟨w.heap.size, 0, none⟩ = some (.int .i64 i) ∧ w'.cell? ⟨w.heap.size, 1, none⟩ = some (.slice a L.length c) ∧ w'.cell? ⟨w.heap.size + 1, 0, none⟩ = some (.int .i64 j) ∧ w'.cell? ⟨w.heap.size + 1, 1, none⟩ = some (.slice b M.length d) ∧ Below w.heap.size w w' := by
  obtain ⟨h1, h2, h3⟩ := boxR i a L c w w' (below_out hb)
  obtain ⟨h4, h5, _⟩ := boxR j b M d (w.alloc (.cells #[.int .i64 i, .slice a L.length c] 27)) w' hb
  exact ⟨h1, h2, by simpa using h4, by simpa using h5, h3⟩
theorem same_any (i : Int) (a : Option Addr) (c : Nat) (L : List Va) (j : Int) (b : Option Addr) (d : Nat) (M : List Va) (w : World) (h : field.Vas w a L) (h' : field.Vas w b M) (hL : L.length ≤ maxLen) (hM : M.length ≤ maxLen) :
    Calls Try.prog 14 #[.agg #[.int .i64 i, .slice a L.length c], .agg #[.int .i64 j, .slice b M.length d]] w (Gives (.bool (decide (i = j ∧ L = M))) w) := by
  have HX := hid (WR2.all i a L c j b M d w)
  have hw := (WR2.all i a L c j b M d w _ (Below.refl _ _)).2.2.2.2
  have cE := equalV_any a c L b d M (WR2 i a L c j b M d w) (h.below hw) (h'.below hw) hL hM
  have HW := hid hw
  clear h h' hL hM hw
  unfold Gives
  by_cases hij : i = j
  · subst hij
    rw [show decide (i = i ∧ L = M) = decide (L = M) by simp]
    generalize decide (L = M) = r at *
    unfold WR2 at HX cE HW
    go_enter Try.func14, Try.ntmps14
    go_wp2_with (go_at_call 28; ((with_reducible refine cE.mono ?_); rintro e w2 ⟨rfl, hb2⟩; obtain ⟨z0, z1, z2, z3, hbo⟩ := HX.out _ hb2))
    go_ret
    exact ⟨rfl, hbo⟩
  · have hd : (i == j) = false := by rw [beq_eq_false_iff_ne]; exact hij
    rw [show decide (i = j ∧ L = M) = false from decide_eq_false (fun e => hij e.1)]
    clear hij cE
    unfold WR2 at HX HW
    go_enter Try.func14, Try.ntmps14
    go_wp2
    go_ret
    exact ⟨rfl, HW.out⟩
theorem refSame_any (i : Int) (a : Option Addr) (c : Nat) (L : List Va) (j : Int) (b : Option Addr) (d : Nat) (M : List Va) (w : World) (h : field.Vas w a L) (h' : field.Vas w b M) (hL : L.length ≤ maxLen) (hM : M.length ≤ maxLen) :
    Calls Try.prog 12 #[.agg #[.int .i64 i, .slice a L.length c], .agg #[.int .i64 j, .slice b M.length d]] w (Gives (.bool (decide (i = j ∧ L = M))) w) := by
  have hml : (L.length : Int) ≤ 9223372036854775807 := by unfold maxLen at hL; omega
  have hmm : (M.length : Int) ≤ 9223372036854775807 := by unfold maxLen at hM; omega
  have HX := hid (WR2.all i a L c j b M d w)
  have hw := (WR2.all i a L c j b M d w _ (Below.refl _ _)).2.2.2.2
  have HF := hid (h.below hw)
  have HG := hid (h'.below hw)
  have HW := hid hw
  obtain ⟨r, hr⟩ : ∃ r : Bool, Hid (decide (i = j ∧ L = M) = r) := ⟨_, rfl⟩
  rw [hr.out]
  unfold Gives
  clear h h' hL hM hw
  by_cases hij : i = j
  · subst hij
    replace hr : Hid (decide (L = M) = r) := hid (by rw [← hr.out]; simp)
    by_cases hlen : L.length = M.length
    · have HLEN := hid hlen
      have hd1 : ((L.length : Int) == (M.length : Int)) = true := by rw [beq_iff_eq, hlen]
      unfold WR2 at HX HF HG HW
      rw [← hlen] at HX ⊢
      clear hlen hmm hd1
      go_enter Try.func12, Try.ntmps12
      go_wp2
      obtain ⟨w1, hw1⟩ : ∃ x, Hid ((w.alloc (.cells #[.int .i64 i, .slice a L.length c] 27)).alloc (.cells #[.int .i64 i, .slice b L.length d] 27) = x) := ⟨_, hid rfl⟩
      rw [← HLEN.out] at HF HG HW
      rw [hw1.out] at HX HF HG HW ⊢
      go_loopw [5] (fun n wr => ∃ k : Nat, k ≤ L.length ∧ n = .int .i64 (k : Int) ∧ Hid (L.take k = M.take k) ∧ Hid (Below w1.heap.size w1 wr)) (fun n _ => L.length - (intOf n).toNat)
      case atStart => exact ⟨0, Nat.zero_le _, rfl, hid rfl, hid (Below.refl _ _)⟩
      case round =>
        obtain ⟨k, hk, rfl, HEQ, HB⟩ := hrel
        obtain ⟨z0, z1, z2, z3, hbo⟩ := HX.out _ HB.out
        by_cases hlt : k < L.length
        · obtain ⟨g, off, p, rfl, hbl, hp, c0, c1⟩ := val_at HF.out HB.out hlt
          obtain ⟨g', off', q, rfl, hbl', hq, d0, d1⟩ := val_at HG.out HB.out (k := k) (by rw [← HLEN.out]; exact hlt)
          have i1 : (k : Int) < L.length := by omega
          have HS := hid (eq_take_succ hp hq)
          have hne := fun W => neq_va p q W
          have hng := fun x y W => eqgn_va x y p q W
          have HNE := hid (fun (hpq : ¬ p = q) => show ¬ L = M from fun e => by rw [e] at hp; exact hpq (Option.some.inj (hp.symm.trans hq)))
          clear hp hq
          by_cases hpq : p = q
          · rw [decide_eq_true hpq] at hne
            have HPQ := hid hpq
            clear hpq
            go_wp2
            go_quiet (fail)
            go_wp2
            exact ⟨⟨k + 1, by omega, by go_num, hid (HS.out.2 ⟨HEQ.out, HPQ.out⟩), hid (below_drewN HB.out _)⟩, by simp [intOf]; omega⟩
          · rw [decide_eq_false hpq] at hne
            obtain rfl : false = r := by rw [← hr.out]; exact (decide_eq_false (HNE.out hpq)).symm
            clear hpq
            go_wp2
            go_quiet (fail)
            go_wp2
            go_ret
            exact ⟨rfl, below_drewN hbo _⟩
        · obtain rfl : k = L.length := by omega
          obtain rfl : true = r := by
            rw [← hr.out]
            have := HEQ.out
            rw [List.take_of_length_le (Nat.le_refl _), List.take_of_length_le (by rw [HLEN.out]; exact Nat.le_refl _)] at this
            exact (decide_eq_true this).symm
          go_wp2
          go_ret
          exact ⟨rfl, hbo⟩
    · obtain rfl : false = r := by rw [← hr.out]; exact (decide_eq_false (fun e => hlen (by rw [e]))).symm
      have hd : ((L.length : Int) == (M.length : Int)) = false := by rw [beq_eq_false_iff_ne]; omega
      clear hlen
      unfold WR2 at HX HW
      go_enter Try.func12, Try.ntmps12
      go_wp2
      go_ret
      exact ⟨rfl, HW.out⟩
  · have hd : (i == j) = false := by rw [beq_eq_false_iff_ne]; exact hij
    obtain rfl : false = r := by rw [← hr.out]; exact (decide_eq_false (fun e => hij e.1)).symm
    clear hij
    unfold WR2 at HX HW
    go_enter Try.func12, Try.ntmps12
    go_wp2
    go_ret
    exact ⟨rfl, HW.out⟩
end Go.Proofs.Ytegeeobfamjjpaa.record
/- Contracts of layer 12 (field): greatest, longest, top, Least, Size. No condition but a right field. -/
namespace Go.Proofs.Ytegeeobfamjjpaa.field
open Go.RowKit
set_option linter.unusedVariables false
theorem longest_any (f : Fd) (w : World) : Calls Try.prog 43 #[.agg #[.int .i64 f.id, .int .i64 f.kind, .int .i64 f.lo, .int .i64 f.hi, .int .i64 f.most]] w (Gives (.int .i64 f.long) w) := by
  obtain ⟨i, k, lo, hi, m⟩ := f
  simp only
  unfold Gives
  by_cases hk : k = 4
  · subst hk
    rw [show Fd.long ⟨i, 4, lo, hi, m⟩ = m from rfl]
    go_enter Try.func43, Try.ntmps43
    go_wp2
    go_ret
    exact ⟨rfl, newB _ _⟩
  · rw [show Fd.long ⟨i, k, lo, hi, m⟩ = 0 from if_neg hk]
    have e4 : (k == 4) = false := by rw [beq_eq_false_iff_ne]; exact hk
    clear hk
    go_enter Try.func43, Try.ntmps43
    go_wp2
    go_ret
    exact ⟨rfl, newB _ _⟩
end Go.Proofs.Ytegeeobfamjjpaa.field
/- Contracts of the reference's Right, Has, Least, wide, Size of layer 12 (field). No condition. -/
namespace Go.Proofs.Ytegeeobfamjjpaa.field
open Go.RowKit
set_option linter.unusedVariables false
/-- the world in which a field and a value have been boxed -/
def WV (f : Fd) (v : Va) (w : World) : World := (w.alloc (.cells #[.int .i64 f.id, .int .i64 f.kind, .int .i64 f.lo, .int .i64 f.hi, .int .i64 f.most] 46)).alloc (.cells #[.int .i64 v.n, .string v.s] 48)
theorem WV.all (f : Fd) (v : Va) (w w' : World) (hb : Below (WV f v w).heap.size (WV f v w) w') : (w'.cell? ⟨w.heap.size, 0, none⟩ = some (.int .i64 f.id) ∧ w'.cell? ⟨w.heap.size, 1, none⟩ = some (.int .i64 f.kind) ∧ w'.cell? ⟨w.heap.size, 2, none⟩ = some (.int .i64 f.lo) ∧ w'.cell? ⟨w.heap.size, 3, none⟩ = some (.int .i64 f.hi) ∧ w'.cell? ⟨w.heap.size, 4, none⟩ = some (.int .i64 f.most)) ∧ (w'.cell? ⟨w.heap.size + 1, 0, none⟩ = some (.int .i64 v.n) ∧ w'.cell? ⟨w.heap.size + 1, 1, none⟩ = some (.string v.s)) ∧ Below w.heap.size w w' := by
  have h1 : Below (w.alloc (.cells #[.int .i64 f.id, .int .i64 f.kind, .int .i64 f.lo, .int .i64 f.hi, .int .i64 f.most] 46)).heap.size (w.alloc (.cells #[.int .i64 f.id, .int .i64 f.kind, .int .i64 f.lo, .int .i64 f.hi, .int .i64 f.most] 46)) w' := (newB _ _).trans (hb.mono (by unfold WV; simp))
  refine ⟨five f w w' h1, ?_, belowF f w w' h1⟩
  have h2 := two v (w.alloc (.cells #[.int .i64 f.id, .int .i64 f.kind, .int .i64 f.lo, .int .i64 f.hi, .int .i64 f.most] 46)) w' hb
  simpa using h2
theorem refHas_any (f : Fd) (v : Va) (w : World) : Calls Try.prog 26 #[.agg #[.int .i64 f.id, .int .i64 f.kind, .int .i64 f.lo, .int .i64 f.hi, .int .i64 f.most], .agg #[.int .i64 v.n, .string v.s]] w (Gives (.bool (decide (f.Has v))) w) := by
  have HW := hid (WV.all f v w)
  obtain ⟨V, hV⟩ : ∃ V, Hid (decide (f.Has v) = V) := ⟨_, rfl⟩
  rw [hV.out]
  unfold Gives
  by_cases h : f.Right
  · have cs := span_from f h (w0 := WV f v w) (Below.refl _ _)
    have HQ : Hid (f.Has v ↔ (v.n ≥ f.lo ∧ v.n ≤ f.great ∧ (v.s.size : Int) ≤ f.long)) := hid ⟨fun k => ⟨k.2.1.1, k.2.1.2, k.2.2⟩, fun k => ⟨h, ⟨k.1, k.2.1⟩, k.2.2⟩⟩
    unfold WV at cs HW
    clear h
    generalize f.great = G at *
    generalize f.long = L at *
    generalize hN : (v.s.size : Int) = N at *
    by_cases a1 : v.n ≥ f.lo
    · by_cases a2 : v.n ≤ G
      · by_cases a3 : N ≤ L
        · have HY : Hid (true = V) := hid (by rw [← hV.out]; symm; exact decide_eq_true (HQ.out.2 ⟨a1, a2, a3⟩))
          clear HQ hV
          go_enter Try.func26, Try.ntmps26
          go_wp2_with (go_at_call 35; (with_reducible refine cs.mono ?_); rintro e w1 ⟨rfl, hb1⟩; obtain ⟨hf1, hv1, hbw1⟩ := HW.out _ hb1; clear cs)
          go_ret
          exact ⟨ret_bool HY.out, hbw1⟩
        · have HY : Hid (false = V) := hid (by rw [← hV.out]; symm; exact decide_eq_false (fun k => a3 (HQ.out.1 k).2.2))
          have d3 : decide (N ≤ L) = false := decide_eq_false a3
          clear HQ hV a3
          go_enter Try.func26, Try.ntmps26
          go_wp2_with (go_at_call 35; (with_reducible refine cs.mono ?_); rintro e w1 ⟨rfl, hb1⟩; obtain ⟨hf1, hv1, hbw1⟩ := HW.out _ hb1; clear cs)
          go_ret
          exact ⟨ret_bool HY.out, hbw1⟩
      · have HY : Hid (false = V) := hid (by rw [← hV.out]; symm; exact decide_eq_false (fun k => a2 (HQ.out.1 k).2.1))
        have d3 : decide (v.n ≤ G) = false := decide_eq_false a2
        clear HQ hV a2
        go_enter Try.func26, Try.ntmps26
        go_wp2_with (go_at_call 35; (with_reducible refine cs.mono ?_); rintro e w1 ⟨rfl, hb1⟩; obtain ⟨hf1, hv1, hbw1⟩ := HW.out _ hb1; clear cs)
        go_ret
        exact ⟨ret_bool HY.out, hbw1⟩
    · have HY : Hid (false = V) := hid (by rw [← hV.out]; symm; exact decide_eq_false (fun k => a1 (HQ.out.1 k).1))
      have d3 : decide (v.n ≥ f.lo) = false := decide_eq_false a1
      clear HQ hV a1
      go_enter Try.func26, Try.ntmps26
      go_wp2_with (go_at_call 35; (with_reducible refine cs.mono ?_); rintro e w1 ⟨rfl, hb1⟩; obtain ⟨hf1, hv1, hbw1⟩ := HW.out _ hb1; clear cs)
      go_ret
      exact ⟨ret_bool HY.out, hbw1⟩
  · have cs := span_from_no f h (w0 := WV f v w) (Below.refl _ _)
    have HY : Hid (false = V) := hid (by rw [← hV.out]; symm; exact decide_eq_false (fun k => h k.1))
    unfold WV at cs HW
    clear h hV
    go_enter Try.func26, Try.ntmps26
    go_wp2_with (go_at_call 35; (with_reducible refine cs.mono ?_); rintro e w1 ⟨⟨a, b, c, rfl⟩, hb1⟩; obtain ⟨hf1, hv1, hbw1⟩ := HW.out _ hb1; clear cs)
    go_ret
    exact ⟨ret_bool HY.out, hbw1⟩
theorem refLeast_any (f : Fd) (w : World) : Calls Try.prog 22 #[.agg #[.int .i64 f.id, .int .i64 f.kind, .int .i64 f.lo, .int .i64 f.hi, .int .i64 f.most]] w (Gives (.agg #[.int .i64 f.least, .string ⟨#[]⟩]) w) := by
  have HW := hid (W2.all f w)
  unfold Fd.least Gives
  by_cases h : f.Right
  · rw [if_pos h]
    have cs := span_from f h (w0 := W2 f w) (Below.refl _ _)
    unfold W2 at HW cs
    clear h
    generalize f.great = G at *
    generalize f.long = L at *
    generalize hlo : f.lo = lo at *
    have HI := hid (val_info lo ⟨#[]⟩)
    have HO := hid (val_one lo ⟨#[]⟩)
    go_enter Try.func22, Try.ntmps22
    go_wp2_with (first
      | (go_at_call 35; (with_reducible refine cs.mono ?_); rintro e w1 ⟨rfl, hb1⟩; obtain ⟨hk1, hres, hbw⟩ := HW.out _ hb1; have hth := val_there hres lo ⟨#[]⟩)
      | (with_reducible refine wpList_store_named rfl 48 (.tmp 2) (.tmp 18) rfl (w.heap.size + 1) 0 #[.int .i64 lo, .string ⟨#[]⟩] rfl rfl hth HI.out HO.out ?_))
    intro w2 hw2
    obtain ⟨hB, hb⟩ := val_stored hres hw2 (by omega) hbw
    go_wp2
    refine bodyPost_ret (results_cell (b := w.heap.size + 1) (o := 0) rfl rfl hB.whole Try.underlying48 rfl (val_info2 _ _)) rfl ?_
    exact ⟨rfl, hb⟩
  · rw [if_neg h]
    have cs := span_from_no f h (w0 := W2 f w) (Below.refl _ _)
    unfold W2 at HW cs
    clear h
    have HI := hid (val_info 0 ⟨#[]⟩)
    have HO := hid (val_one 0 ⟨#[]⟩)
    go_enter Try.func22, Try.ntmps22
    go_wp2_with (first
      | (go_at_call 35; (with_reducible refine cs.mono ?_); rintro e w1 ⟨⟨a, b, c, rfl⟩, hb1⟩; obtain ⟨hk1, hres, hbw⟩ := HW.out _ hb1; have hth := val_there hres 0 ⟨#[]⟩)
      | (with_reducible refine wpList_store_named rfl 48 (.tmp 2) (.tmp 16) rfl (w.heap.size + 1) 0 #[.int .i64 0, .string ⟨#[]⟩] rfl rfl hth HI.out HO.out ?_))
    intro w2 hw2
    obtain ⟨hB, hb⟩ := val_stored hres hw2 (by omega) hbw
    go_wp2
    refine bodyPost_ret (results_cell (b := w.heap.size + 1) (o := 0) rfl rfl hB.whole Try.underlying48 rfl (val_info2 _ _)) rfl ?_
    exact ⟨rfl, hb⟩
end Go.Proofs.Ytegeeobfamjjpaa.field
/- A region walked by a schedule that the prover names: an operation whose guard does not hold is passed by; comparisons of ints. No condition. -/
namespace Go.Proofs.Ytegeeobfamjjpaa.plan
open Go Go.RowKit

section
variable {P : Program} {md : Region.Mode} {Q : Exit → Act → World → Prop} {l : List Oper}
theorem Rest.skip {f : Nat} {listed : Array Bool} {a : Act} {w : World} (i : Nat) (o : Oper) (hi : l[i]? = some o) (hs : Region.noSelect l.toArray = true) (hf : Region.free md l.toArray listed i = true)
    (hr : (Region.ready md l.toArray listed).contains i = true) (hw : Region.wanted o (yielded l.toArray a.tmps) = false)
    (h : Rest P md l Q f (listed.setIfInBounds i true) (a.put o.dst undef) w) : Rest P md l Q (f + 1) listed a w :=
  wpAnyH_take (by simpa using hi) hs hf hr (fun c a' w' h => h) (.inr ⟨hw, rfl⟩) (Below.refl _ _) h
end
theorem eqg (t : TypeId) (x y : Operand) (k : IntKind) (n m : Int) (w : World) (P : Program) : (eqGuard .eql t x y (.int k n) (.int k m)).run P w = .ok () w := by simp [go_sem]
end Go.Proofs.Ytegeeobfamjjpaa.plan
/- Contract of Has of layer 12 (field). No condition. -/
namespace Go.Proofs.Ytegeeobfamjjpaa.field
open Go.RowKit
set_option linter.unusedVariables false

theorem exec_cell_int {P : Program} {o : Oper} {a : Act} {w : World} {ty : TypeId} {x : Operand} {ad : Addr} {k : IntKind} {n : Int} (ho : o.op = .load ty x) (hx : a.eval x = .pointer (some ad)) (hc : w.cell? ad = some (.int k n)) (hu : ∀ w', (isAgg ty).run P w' = .ok false w') :
    (execOp a.eval o).run P w = .ok (.value (.int k n)) w := by
  unfold execOp
  rw [ho]
  simp only [hx]
  go_simp
theorem exec_cell_str {P : Program} {o : Oper} {a : Act} {w : World} {ty : TypeId} {x : Operand} {ad : Addr} {s : ByteArray} (ho : o.op = .load ty x) (hx : a.eval x = .pointer (some ad)) (hc : w.cell? ad = some (.string s)) (hu : ∀ w', (isAgg ty).run P w' = .ok false w') :
    (execOp a.eval o).run P w = .ok (.value (.string s)) w := by
  unfold execOp
  rw [ho]
  simp only [hx]
  go_simp
theorem info_field : Hid ((Try.prog.info? 46).map (·.size) = some 5) := by show _ = _; kernel_rfl
theorem within_at (n lo hi : Int) (w : World) (b : Bool) (h : Hid (decide (lo ≤ n ∧ n ≤ hi) = b)) : Calls Try.prog 41 #[.int .i64 n, .int .i64 lo, .int .i64 hi] w (Gives (.bool b) w) := by
  by_cases hb : lo ≤ n ∧ n ≤ hi
  · obtain rfl : b = true := by rw [← h.out]; exact decide_eq_true hb
    exact (within_yes n lo hi w hb.1 hb.2).mono fun _ _ ⟨he, hw⟩ => ⟨he, hw ▸ Below.refl _ _⟩
  · obtain rfl : b = false := by rw [← h.out]; exact decide_eq_false hb
    exact (within_no n lo hi w (by omega)).mono fun _ _ ⟨he, hw⟩ => ⟨he, hw ▸ Below.refl _ _⟩
set_option maxRecDepth 20000 in
theorem has_any (f : Fd) (v : Va) (w : World) : Calls Try.prog 25 #[.agg #[.int .i64 f.id, .int .i64 f.kind, .int .i64 f.lo, .int .i64 f.hi, .int .i64 f.most], .agg #[.int .i64 v.n, .string v.s]] w (Gives (.bool (decide (f.Has v))) w) := by
  have HLF := info_field
  have HB := hid (fun w' hb => (WV.all f v w w' hb).2.2)
  obtain ⟨w0, hw0⟩ : ∃ x, Hid ((w.alloc (.cells #[.int .i64 f.id, .int .i64 f.kind, .int .i64 f.lo, .int .i64 f.hi, .int .i64 f.most] 46)).alloc (.cells #[.int .i64 v.n, .string v.s] 48) = x) := ⟨_, rfl⟩
  have HB2 : Hid (∀ w', Below w0.heap.size w0 w' → Below w.heap.size w w') := hid (by rw [← hw0.out]; exact HB.out)
  have HBF : Hid (Block w0.drew w.heap.size 46 [.int .i64 f.id, .int .i64 f.kind, .int .i64 f.lo, .int .i64 f.hi, .int .i64 f.most]) := hid (by rw [← hw0.out]; exact ((Block.new w 46 [.int .i64 f.id, .int .i64 f.kind, .int .i64 f.lo, .int .i64 f.hi, .int .i64 f.most]).alloc _).drewN 1)
  have HBV : Hid (Block w0.drew (w.heap.size + 1) 48 [.int .i64 v.n, .string v.s]) := hid (by
    have h := Block.new (w.alloc (.cells #[.int .i64 f.id, .int .i64 f.kind, .int .i64 f.lo, .int .i64 f.hi, .int .i64 f.most] 46)) 48 [.int .i64 v.n, .string v.s]
    rw [World.size_alloc] at h
    rw [← hw0.out]
    exact h.drewN 1)
  obtain ⟨r, hr⟩ : ∃ r, Hid (decide (f.Has v) = r) := ⟨_, rfl⟩
  rw [hr.out]
  unfold Gives
  go_enter Try.func25, Try.ntmps25
  go_wp2
  rw [hw0.out]
  clear HB hw0
  have hb : Below w0.heap.size w0 w0.drew := below_drewN (Below.refl _ _) 1
  have hblk := HBF.out
  have hval := HBV.out
  refine plan.region (by kernel_rfl) ?_
  by_cases h : f.Right
  · by_cases hi : f.lo ≤ v.n ∧ v.n ≤ f.great
    · have hin : Hid (decide (f.lo ≤ v.n ∧ v.n ≤ f.great) = true) := decide_eq_true hi
      refine plan.Rest.first 0 _ (.agg #[.int .i64 f.id, .int .i64 f.kind, .int .i64 f.lo, .int .i64 f.hi, .int .i64 f.most]) rfl (by kernel_rfl) (by kernel_rfl) (by kernel_rfl) (by kernel_rfl) (fun w' hb' => plan.exec_load rfl (by kernel_rfl) (hblk.later hb').whole Try.underlying46 rfl HLF.out) ?_
      refine plan.Rest.call 1 _ 40 #[.agg #[.int .i64 f.id, .int .i64 f.kind, .int .i64 f.lo, .int .i64 f.hi, .int .i64 f.most]] rfl (by kernel_rfl) (by kernel_rfl) (by kernel_rfl) ((right_yes f h w0.drew).mono ?_)
      rintro e W1 ⟨rfl, hn⟩
      have hb := hb.trans (hn.mono hb.size)
      have hblk := hblk.later hn
      have hval := hval.later hn
      refine ⟨_, rfl, hn, ?_⟩
      refine plan.Rest.first 2 _ (.bool true) rfl (by kernel_rfl) (by kernel_rfl) (by kernel_rfl) (by kernel_rfl) (fun w' hb' => (by kernel_rfl)) ?_
      refine plan.Rest.first 3 _ (.pointer (some ⟨w.heap.size + 1, 0, none⟩)) rfl (by kernel_rfl) (by kernel_rfl) (by kernel_rfl) (by kernel_rfl) (fun w' hb' => (by kernel_rfl)) ?_
      refine plan.Rest.first 4 _ (.int .i64 v.n) rfl (by kernel_rfl) (by kernel_rfl) (by kernel_rfl) (by kernel_rfl) (fun w' hb' => exec_cell_int (ad := ⟨w.heap.size + 1, 0, none⟩) rfl (by kernel_rfl) ((hval.later hb').cell 0) Try.isAgg3) ?_
      refine plan.Rest.first 5 _ (.pointer (some ⟨w.heap.size, 2, none⟩)) rfl (by kernel_rfl) (by kernel_rfl) (by kernel_rfl) (by kernel_rfl) (fun w' hb' => (by kernel_rfl)) ?_
      refine plan.Rest.first 6 _ (.int .i64 f.lo) rfl (by kernel_rfl) (by kernel_rfl) (by kernel_rfl) (by kernel_rfl) (fun w' hb' => exec_cell_int (ad := ⟨w.heap.size, 2, none⟩) rfl (by kernel_rfl) ((hblk.later hb').cell 2) Try.isAgg3) ?_
      refine plan.Rest.first 7 _ (.agg #[.int .i64 f.id, .int .i64 f.kind, .int .i64 f.lo, .int .i64 f.hi, .int .i64 f.most]) rfl (by kernel_rfl) (by kernel_rfl) (by kernel_rfl) (by kernel_rfl) (fun w' hb' => plan.exec_load rfl (by kernel_rfl) (hblk.later hb').whole Try.underlying46 rfl HLF.out) ?_
      refine plan.Rest.call 8 _ 42 #[.agg #[.int .i64 f.id, .int .i64 f.kind, .int .i64 f.lo, .int .i64 f.hi, .int .i64 f.most]] rfl (by kernel_rfl) (by kernel_rfl) (by kernel_rfl) ((greatest_any f h W1).mono ?_)
      rintro e W2 ⟨rfl, hn⟩
      have hb := hb.trans (hn.mono hb.size)
      have hblk := hblk.later hn
      have hval := hval.later hn
      refine ⟨_, rfl, hn, ?_⟩
      refine plan.Rest.call 9 _ 41 #[.int .i64 v.n, .int .i64 f.lo, .int .i64 f.great] rfl (by kernel_rfl) (by kernel_rfl) (by kernel_rfl) ((within_at v.n f.lo f.great W2 true hin).mono ?_)
      rintro e W3 ⟨rfl, hn⟩
      have hb := hb.trans (hn.mono hb.size)
      have hblk := hblk.later hn
      have hval := hval.later hn
      refine ⟨_, rfl, hn, ?_⟩
      refine plan.Rest.first 10 _ (.bool true) rfl (by kernel_rfl) (by kernel_rfl) (by kernel_rfl) (by kernel_rfl) (fun w' hb' => (by kernel_rfl)) ?_
      refine plan.Rest.first 11 _ (.bool true) rfl (by kernel_rfl) (by kernel_rfl) (by kernel_rfl) (by kernel_rfl) (fun w' hb' => (by kernel_rfl)) ?_
      refine plan.Rest.first 12 _ (.pointer (some ⟨w.heap.size + 1, 1, none⟩)) rfl (by kernel_rfl) (by kernel_rfl) (by kernel_rfl) (by kernel_rfl) (fun w' hb' => (by kernel_rfl)) ?_
      refine plan.Rest.first 13 _ (.string v.s) rfl (by kernel_rfl) (by kernel_rfl) (by kernel_rfl) (by kernel_rfl) (fun w' hb' => exec_cell_str (ad := ⟨w.heap.size + 1, 1, none⟩) rfl (by kernel_rfl) ((hval.later hb').cell 1) Try.isAgg9) ?_
      refine plan.Rest.first 14 _ (.int .i64 (v.s.size : Int)) rfl (by kernel_rfl) (by kernel_rfl) (by kernel_rfl) (by kernel_rfl) (fun w' hb' => (by kernel_rfl)) ?_
      refine plan.Rest.first 15 _ (.agg #[.int .i64 f.id, .int .i64 f.kind, .int .i64 f.lo, .int .i64 f.hi, .int .i64 f.most]) rfl (by kernel_rfl) (by kernel_rfl) (by kernel_rfl) (by kernel_rfl) (fun w' hb' => plan.exec_load rfl (by kernel_rfl) (hblk.later hb').whole Try.underlying46 rfl HLF.out) ?_
      refine plan.Rest.call 16 _ 43 #[.agg #[.int .i64 f.id, .int .i64 f.kind, .int .i64 f.lo, .int .i64 f.hi, .int .i64 f.most]] rfl (by kernel_rfl) (by kernel_rfl) (by kernel_rfl) ((longest_any f W3).mono ?_)
      rintro e W4 ⟨rfl, hn⟩
      have hb := hb.trans (hn.mono hb.size)
      have hblk := hblk.later hn
      have hval := hval.later hn
      refine ⟨_, rfl, hn, ?_⟩
      refine plan.Rest.first 17 _ (.bool (decide ((v.s.size : Int) ≤ f.long))) rfl (by kernel_rfl) (by kernel_rfl) (by kernel_rfl) (by kernel_rfl) (fun w' hb' => (by kernel_rfl)) ?_
      refine plan.Rest.first 18 _ (.bool (decide ((v.s.size : Int) ≤ f.long))) rfl (by kernel_rfl) (by kernel_rfl) (by kernel_rfl) (by kernel_rfl) (fun w' hb' => (by kernel_rfl)) ?_
      refine plan.Rest.value 19 _ (.bool (decide ((v.s.size : Int) ≤ f.long))) rfl (by kernel_rfl) (by kernel_rfl) (by kernel_rfl) ?_
      refine plan.Rest.done (by kernel_rfl) ?_
      go_wp2
      exact bodyPost_ret (v := .bool (decide ((v.s.size : Int) ≤ f.long))) (by kernel_rfl) (by kernel_rfl) ⟨ret_bool (by rw [← hr.out]; exact decide_eq_decide.2 ⟨fun k => ⟨h, hi, k⟩, fun k => k.2.2⟩), HB2.out _ hb⟩
    · have hin : Hid (decide (f.lo ≤ v.n ∧ v.n ≤ f.great) = false) := decide_eq_false hi
      refine plan.Rest.first 0 _ (.agg #[.int .i64 f.id, .int .i64 f.kind, .int .i64 f.lo, .int .i64 f.hi, .int .i64 f.most]) rfl (by kernel_rfl) (by kernel_rfl) (by kernel_rfl) (by kernel_rfl) (fun w' hb' => plan.exec_load rfl (by kernel_rfl) (hblk.later hb').whole Try.underlying46 rfl HLF.out) ?_
      refine plan.Rest.call 1 _ 40 #[.agg #[.int .i64 f.id, .int .i64 f.kind, .int .i64 f.lo, .int .i64 f.hi, .int .i64 f.most]] rfl (by kernel_rfl) (by kernel_rfl) (by kernel_rfl) ((right_yes f h w0.drew).mono ?_)
      rintro e W1 ⟨rfl, hn⟩
      have hb := hb.trans (hn.mono hb.size)
      have hblk := hblk.later hn
      have hval := hval.later hn
      refine ⟨_, rfl, hn, ?_⟩
      refine plan.Rest.first 2 _ (.bool true) rfl (by kernel_rfl) (by kernel_rfl) (by kernel_rfl) (by kernel_rfl) (fun w' hb' => (by kernel_rfl)) ?_
      refine plan.Rest.first 3 _ (.pointer (some ⟨w.heap.size + 1, 0, none⟩)) rfl (by kernel_rfl) (by kernel_rfl) (by kernel_rfl) (by kernel_rfl) (fun w' hb' => (by kernel_rfl)) ?_
      refine plan.Rest.first 4 _ (.int .i64 v.n) rfl (by kernel_rfl) (by kernel_rfl) (by kernel_rfl) (by kernel_rfl) (fun w' hb' => exec_cell_int (ad := ⟨w.heap.size + 1, 0, none⟩) rfl (by kernel_rfl) ((hval.later hb').cell 0) Try.isAgg3) ?_
      refine plan.Rest.first 5 _ (.pointer (some ⟨w.heap.size, 2, none⟩)) rfl (by kernel_rfl) (by kernel_rfl) (by kernel_rfl) (by kernel_rfl) (fun w' hb' => (by kernel_rfl)) ?_
      refine plan.Rest.first 6 _ (.int .i64 f.lo) rfl (by kernel_rfl) (by kernel_rfl) (by kernel_rfl) (by kernel_rfl) (fun w' hb' => exec_cell_int (ad := ⟨w.heap.size, 2, none⟩) rfl (by kernel_rfl) ((hblk.later hb').cell 2) Try.isAgg3) ?_
      refine plan.Rest.first 7 _ (.agg #[.int .i64 f.id, .int .i64 f.kind, .int .i64 f.lo, .int .i64 f.hi, .int .i64 f.most]) rfl (by kernel_rfl) (by kernel_rfl) (by kernel_rfl) (by kernel_rfl) (fun w' hb' => plan.exec_load rfl (by kernel_rfl) (hblk.later hb').whole Try.underlying46 rfl HLF.out) ?_
      refine plan.Rest.call 8 _ 42 #[.agg #[.int .i64 f.id, .int .i64 f.kind, .int .i64 f.lo, .int .i64 f.hi, .int .i64 f.most]] rfl (by kernel_rfl) (by kernel_rfl) (by kernel_rfl) ((greatest_any f h W1).mono ?_)
      rintro e W2 ⟨rfl, hn⟩
      have hb := hb.trans (hn.mono hb.size)
      have hblk := hblk.later hn
      have hval := hval.later hn
      refine ⟨_, rfl, hn, ?_⟩
      refine plan.Rest.call 9 _ 41 #[.int .i64 v.n, .int .i64 f.lo, .int .i64 f.great] rfl (by kernel_rfl) (by kernel_rfl) (by kernel_rfl) ((within_at v.n f.lo f.great W2 false hin).mono ?_)
      rintro e W3 ⟨rfl, hn⟩
      have hb := hb.trans (hn.mono hb.size)
      have hblk := hblk.later hn
      have hval := hval.later hn
      refine ⟨_, rfl, hn, ?_⟩
      refine plan.Rest.first 10 _ (.bool false) rfl (by kernel_rfl) (by kernel_rfl) (by kernel_rfl) (by kernel_rfl) (fun w' hb' => (by kernel_rfl)) ?_
      refine plan.Rest.first 11 _ (.bool false) rfl (by kernel_rfl) (by kernel_rfl) (by kernel_rfl) (by kernel_rfl) (fun w' hb' => (by kernel_rfl)) ?_
      refine plan.Rest.skip 12 _ rfl (by kernel_rfl) (by kernel_rfl) (by kernel_rfl) (by kernel_rfl) ?_
      refine plan.Rest.skip 13 _ rfl (by kernel_rfl) (by kernel_rfl) (by kernel_rfl) (by kernel_rfl) ?_
      refine plan.Rest.skip 14 _ rfl (by kernel_rfl) (by kernel_rfl) (by kernel_rfl) (by kernel_rfl) ?_
      refine plan.Rest.skip 15 _ rfl (by kernel_rfl) (by kernel_rfl) (by kernel_rfl) (by kernel_rfl) ?_
      refine plan.Rest.skip 16 _ rfl (by kernel_rfl) (by kernel_rfl) (by kernel_rfl) (by kernel_rfl) ?_
      refine plan.Rest.skip 17 _ rfl (by kernel_rfl) (by kernel_rfl) (by kernel_rfl) (by kernel_rfl) ?_
      refine plan.Rest.first 18 _ (.bool false) rfl (by kernel_rfl) (by kernel_rfl) (by kernel_rfl) (by kernel_rfl) (fun w' hb' => (by kernel_rfl)) ?_
      refine plan.Rest.value 19 _ (.bool false) rfl (by kernel_rfl) (by kernel_rfl) (by kernel_rfl) ?_
      refine plan.Rest.done (by kernel_rfl) ?_
      go_wp2
      exact bodyPost_ret (v := .bool false) (by kernel_rfl) (by kernel_rfl) ⟨ret_bool (by rw [← hr.out]; exact (decide_eq_false (fun k => hi k.2.1)).symm), HB2.out _ hb⟩
  · refine plan.Rest.first 0 _ (.agg #[.int .i64 f.id, .int .i64 f.kind, .int .i64 f.lo, .int .i64 f.hi, .int .i64 f.most]) rfl (by kernel_rfl) (by kernel_rfl) (by kernel_rfl) (by kernel_rfl) (fun w' hb' => plan.exec_load rfl (by kernel_rfl) (hblk.later hb').whole Try.underlying46 rfl HLF.out) ?_
    refine plan.Rest.call 1 _ 40 #[.agg #[.int .i64 f.id, .int .i64 f.kind, .int .i64 f.lo, .int .i64 f.hi, .int .i64 f.most]] rfl (by kernel_rfl) (by kernel_rfl) (by kernel_rfl) ((right_no f h w0.drew).mono ?_)
    rintro e W1 ⟨rfl, hn⟩
    have hb := hb.trans (hn.mono hb.size)
    have hblk := hblk.later hn
    have hval := hval.later hn
    refine ⟨_, rfl, hn, ?_⟩
    refine plan.Rest.first 2 _ (.bool false) rfl (by kernel_rfl) (by kernel_rfl) (by kernel_rfl) (by kernel_rfl) (fun w' hb' => (by kernel_rfl)) ?_
    refine plan.Rest.skip 3 _ rfl (by kernel_rfl) (by kernel_rfl) (by kernel_rfl) (by kernel_rfl) ?_
    refine plan.Rest.skip 4 _ rfl (by kernel_rfl) (by kernel_rfl) (by kernel_rfl) (by kernel_rfl) ?_
    refine plan.Rest.skip 5 _ rfl (by kernel_rfl) (by kernel_rfl) (by kernel_rfl) (by kernel_rfl) ?_
    refine plan.Rest.skip 6 _ rfl (by kernel_rfl) (by kernel_rfl) (by kernel_rfl) (by kernel_rfl) ?_
    refine plan.Rest.skip 7 _ rfl (by kernel_rfl) (by kernel_rfl) (by kernel_rfl) (by kernel_rfl) ?_
    refine plan.Rest.skip 8 _ rfl (by kernel_rfl) (by kernel_rfl) (by kernel_rfl) (by kernel_rfl) ?_
    refine plan.Rest.skip 9 _ rfl (by kernel_rfl) (by kernel_rfl) (by kernel_rfl) (by kernel_rfl) ?_
    refine plan.Rest.first 10 _ (.bool false) rfl (by kernel_rfl) (by kernel_rfl) (by kernel_rfl) (by kernel_rfl) (fun w' hb' => (by kernel_rfl)) ?_
    refine plan.Rest.first 11 _ (.bool false) rfl (by kernel_rfl) (by kernel_rfl) (by kernel_rfl) (by kernel_rfl) (fun w' hb' => (by kernel_rfl)) ?_
    refine plan.Rest.skip 12 _ rfl (by kernel_rfl) (by kernel_rfl) (by kernel_rfl) (by kernel_rfl) ?_
    refine plan.Rest.skip 13 _ rfl (by kernel_rfl) (by kernel_rfl) (by kernel_rfl) (by kernel_rfl) ?_
    refine plan.Rest.skip 14 _ rfl (by kernel_rfl) (by kernel_rfl) (by kernel_rfl) (by kernel_rfl) ?_
    refine plan.Rest.skip 15 _ rfl (by kernel_rfl) (by kernel_rfl) (by kernel_rfl) (by kernel_rfl) ?_
    refine plan.Rest.skip 16 _ rfl (by kernel_rfl) (by kernel_rfl) (by kernel_rfl) (by kernel_rfl) ?_
    refine plan.Rest.skip 17 _ rfl (by kernel_rfl) (by kernel_rfl) (by kernel_rfl) (by kernel_rfl) ?_
    refine plan.Rest.first 18 _ (.bool false) rfl (by kernel_rfl) (by kernel_rfl) (by kernel_rfl) (by kernel_rfl) (fun w' hb' => (by kernel_rfl)) ?_
    refine plan.Rest.value 19 _ (.bool false) rfl (by kernel_rfl) (by kernel_rfl) (by kernel_rfl) ?_
    refine plan.Rest.done (by kernel_rfl) ?_
    go_wp2
    exact bodyPost_ret (v := .bool false) (by kernel_rfl) (by kernel_rfl) ⟨ret_bool (by rw [← hr.out]; exact (decide_eq_false (fun k => h k.1)).symm), HB2.out _ hb⟩
end Go.Proofs.Ytegeeobfamjjpaa.field
/- The first place of a number in a list of numbers. No condition. -/
namespace Go.Proofs.Ytegeeobfamjjpaa.schema
open Go.RowKit
open Go.Proofs.Ytegeeobfamjjpaa.field (Gives newB gives_from)
set_option linter.unusedVariables false
theorem below_drew {B : Nat} {a w : World} (h : Below B a w) : Below B a w.drew := below_drewN h 1

/-- the place of the first x, or -1 -/
def firstAt (l : List Int) (x : Int) : Int := if x ∈ l then (l.idxOf x : Int) else -1
theorem idxOf_hit : ∀ (l : List Int) (k : Nat) (x : Int), x ∉ l.take k → l[k]? = some x → l.idxOf x = k := by
  intro l
  induction l with
  | nil => intro k x _ h; simp at h
  | cons y l ih =>
    intro k x hn h
    cases k with
    | zero => simp at h; subst h; simp
    | succ k =>
      simp only [List.take_succ_cons, List.mem_cons, not_or] at hn
      have hb : (y == x) = false := beq_eq_false_iff_ne.2 (Ne.symm hn.1)
      rw [List.idxOf_cons, hb, ih k x hn.2 (by simpa using h)]
      rfl
theorem first_hit {l : List Int} {k : Nat} {x : Int} (hn : x ∉ l.take k) (h : l[k]? = some x) : firstAt l x = k := by
  unfold firstAt
  rw [if_pos (List.mem_of_getElem? h), idxOf_hit l k x hn h]
theorem first_none {l : List Int} {x : Int} (hn : x ∉ l) : firstAt l x = -1 := if_neg hn
theorem not_take_succ {l : List Int} {k : Nat} {x y : Int} (hn : x ∉ l.take k) (h : l[k]? = some y) (hy : y ≠ x) : x ∉ l.take (k + 1) := by
  rw [take_succ_at h]; simp [hn]; omega
theorem ids_at {L : List field.Fd} {k : Nat} {p : field.Fd} (h : L[k]? = some p) : (ids L)[k]? = some p.id := by simp [ids, h]
theorem ids_length (L : List field.Fd) : (ids L).length = L.length := List.length_map _
end Go.Proofs.Ytegeeobfamjjpaa.schema
/- Contracts of the reference of layer 13 (schema): At, Long. No condition. -/
namespace Go.Proofs.Ytegeeobfamjjpaa.schema
open Go.RowKit
open Go.Proofs.Ytegeeobfamjjpaa.field (Gives newB gives_from refSize_any)
set_option linter.unusedVariables false

theorem refAt_any (i : Int) (a : Option Addr) (cap : Nat) (L : List field.Fd) (x : Int) (w : World) (h : field.Fds w a L) (hL : L.length ≤ maxLen) :
    Calls Try.prog 21 #[.agg #[.int .i64 i, .slice a L.length cap], .int .i64 x] w (Gives (.int .i64 (firstAt (ids L) x)) w) := by
  have hml : (L.length : Int) ≤ 9223372036854775807 := by unfold maxLen at hL; omega
  have HX := hid (boxM i a L cap w)
  have HF := hid (h.below (newB w (.cells #[.int .i64 i, .slice a L.length cap] 24)))
  obtain ⟨r, hr⟩ : ∃ r : Int, Hid (firstAt (ids L) x = r) := ⟨_, rfl⟩
  rw [hr.out]
  unfold Gives
  clear h hL
  go_enter Try.func21, Try.ntmps21
  go_wp2
  go_loopw [5] (fun n wr => ∃ k : Nat, k ≤ L.length ∧ n = .int .i64 (k : Int) ∧ Hid (x ∉ (ids L).take k) ∧ Hid (Below (w.alloc (.cells #[.int .i64 i, .slice a L.length cap] 24)).heap.size (w.alloc (.cells #[.int .i64 i, .slice a L.length cap] 24)) wr)) (fun n _ => L.length - (intOf n).toNat)
  case atStart => exact ⟨0, Nat.zero_le _, rfl, hid (by simp), hid (Below.refl _ _)⟩
  case round =>
    obtain ⟨k, hk, rfl, HNO, HB⟩ := hrel
    obtain ⟨z0, z1, hbo⟩ := HX.out _ HB.out
    by_cases hlt : k < L.length
    · obtain ⟨b, off, p, rfl, hbl, hp, c0, c1, c2, c3, c4⟩ := field_at HF.out HB.out hlt
      have i1 : (k : Int) < L.length := by omega
      have HHIT := hid (fun e => first_hit HNO.out ((ids_at hp).trans (congrArg some e)))
      have HNX := hid (fun e => not_take_succ HNO.out (ids_at hp) e)
      clear hp
      by_cases hx : p.id = x
      · have hd : (p.id == x) = true := beq_iff_eq.2 hx
        obtain rfl : (k : Int) = r := by rw [← hr.out]; exact (HHIT.out hx).symm
        clear hx
        go_wp2
        go_ret
        exact ⟨rfl, hbo⟩
      · have hd : (p.id == x) = false := beq_eq_false_iff_ne.2 hx
        have HXX := hid hx
        clear hx
        go_wp2
        exact ⟨⟨k + 1, by omega, by go_num, hid (HNX.out HXX.out), HB⟩, by simp [intOf]; omega⟩
    · obtain rfl : k = L.length := by omega
      obtain rfl : -1 = r := by rw [← hr.out]; have := HNO.out; rw [List.take_of_length_le (by rw [ids_length]; exact Nat.le_refl _)] at this; exact (first_none this).symm
      go_wp2
      go_ret
      exact ⟨rfl, hbo⟩
theorem refLong_any (i : Int) (a : Option Addr) (cap : Nat) (L : List field.Fd) (w : World) (h : field.Fds w a L) (hL : L.length ≤ 40) :
    Calls Try.prog 19 #[.agg #[.int .i64 i, .slice a L.length cap]] w (Gives (.int .i64 (size L : Int)) w) := by
  have HX := hid (boxM i a L cap w)
  have HF := hid (h.below (newB w (.cells #[.int .i64 i, .slice a L.length cap] 24)))
  obtain ⟨S, hS⟩ : ∃ S : Nat, Hid (size L = S) := ⟨_, rfl⟩
  rw [hS.out]
  unfold Gives
  clear h
  go_enter Try.func19, Try.ntmps19
  go_wp2
  go_loopw [3, 4] (fun s n wr => ∃ k : Nat, k ≤ L.length ∧ s = .int .i64 (size (L.take k) : Int) ∧ n = .int .i64 (k : Int) ∧ Hid (Below (w.alloc (.cells #[.int .i64 i, .slice a L.length cap] 24)).heap.size (w.alloc (.cells #[.int .i64 i, .slice a L.length cap] 24)) wr)) (fun _ n _ => L.length - (intOf n).toNat)
  case atStart => exact ⟨0, Nat.zero_le _, rfl, rfl, hid (Below.refl _ _)⟩
  case round =>
    obtain ⟨k, hk, rfl, rfl, HB⟩ := hrel
    obtain ⟨z0, z1, hbo⟩ := HX.out _ HB.out
    by_cases hlt : k < L.length
    · obtain ⟨b, off, p, rfl, hbl, hp, c0, c1, c2, c3, c4⟩ := field_at HF.out HB.out hlt
      have i1 : (k : Int) < L.length := by omega
      have HSZ := hid (size_succ hp)
      have hst := size_take L k
      have cs := fun w' => refSize_any p w'
      have hps := fd_size_le p
      clear hp
      generalize size (L.take k) = s at *
      go_wp2_with (go_at_call 34; ((with_reducible refine (cs _).mono ?_); rintro e w2 ⟨rfl, hb2⟩))
      exact ⟨⟨k + 1, by omega, by rw [HSZ.out]; go_num, by go_num, hid (HB.out.trans (hb2.mono HB.out.size))⟩, by simp [intOf]; omega⟩
    · obtain rfl : k = L.length := by omega
      go_wp2
      go_ret
      exact ⟨ret_int (by rw [← hS.out, List.take_of_length_le (Nat.le_refl _)]), hbo⟩
end Go.Proofs.Ytegeeobfamjjpaa.schema
/- Single operations of the references of layer 13, run by themselves. No condition. -/
namespace Go.Proofs.Ytegeeobfamjjpaa.schema
open Go.RowKit
set_option linter.unusedVariables false
section
variable {o : Oper} {a : Act} {w : World}
theorem exec_two {op : BinOp} {t t' : TypeId} {x y : Operand} {vx vy u : Value} (ho : o.op = .binOp op t x y t') (hx : a.eval x = vx) (hy : a.eval y = vy)
    (hg : (eqGuard op t x y vx vy).run Try.prog w = .ok () w) (hr : (binOp op t vx vy).run Try.prog w = .ok u w) : (execOp a.eval o).run Try.prog w = .ok (.value u) w := by
  unfold execOp
  simp [ho, hx, hy, Sem.run_bind, hg, hr]
theorem exec_neq_int {x y : Operand} {t' : TypeId} {n m : Int} {r : Bool} (ho : o.op = .binOp .neq 3 x y t') (hx : a.eval x = .int .i64 n) (hy : a.eval y = .int .i64 m) (h : Hid ((n != m) = r)) : (execOp a.eval o).run Try.prog w = .ok (.value (.bool r)) w :=
  exec_two ho hx hy (by simp [go_sem]) (by rw [← h.out]; simp [go_sem])
theorem exec_gtr_int {x y : Operand} {t' : TypeId} {n m : Int} {r : Bool} (ho : o.op = .binOp .gtr 3 x y t') (hx : a.eval x = .int .i64 n) (hy : a.eval y = .int .i64 m) (h : Hid (decide (n > m) = r)) : (execOp a.eval o).run Try.prog w = .ok (.value (.bool r)) w :=
  exec_two ho hx hy (by simp [go_sem]) (by rw [← h.out]; simp [go_sem])
theorem exec_geq_int {x y : Operand} {t' : TypeId} {n m : Int} {r : Bool} (ho : o.op = .binOp .geq 3 x y t') (hx : a.eval x = .int .i64 n) (hy : a.eval y = .int .i64 m) (h : Hid (decide (n ≥ m) = r)) : (execOp a.eval o).run Try.prog w = .ok (.value (.bool r)) w :=
  exec_two ho hx hy (by simp [go_sem]) (by rw [← h.out]; simp [go_sem])
theorem exec_pred {x y : Operand} {t' : TypeId} {k : Nat} (ho : o.op = .binOp .sub 3 x y t') (hx : a.eval x = .int .i64 ((k + 1 : Nat) : Int)) (hy : a.eval y = .int .i64 1) (h : k < 1000000) : (execOp a.eval o).run Try.prog w = .ok (.value (.int .i64 (k : Int))) w :=
  exec_two ho hx hy (by simp [go_sem]) (by
    have : IntKind.i64.wrap (((k + 1 : Nat) : Int) - 1) = (k : Int) := by rw [show ((k + 1 : Nat) : Int) - 1 = (k : Int) by omega]; exact IntWalk.i64_in _ (by omega)
    simp only [go_sem]
    rw [this]
    simp [go_sem])
theorem exec_indexF {x y : Operand} {b off len cap i : Nat} (ho : o.op = .indexAddr 22 x y) (hx : a.eval x = .slice (some ⟨b, off, none⟩) len cap) (hy : a.eval y = .int .i64 (i : Int)) (hi : i < len) :
    (execOp a.eval o).run Try.prog w = .ok (.value (.pointer (some ⟨b, off + i * 5, none⟩))) w := by
  unfold execOp
  rw [ho]
  simp only [hx, hy]
  go_simp
theorem exec_cell_int {ty : TypeId} {x : Operand} {ad : Addr} {k : IntKind} {n : Int} (ho : o.op = .load ty x) (hx : a.eval x = .pointer (some ad)) (hc : w.cell? ad = some (.int k n)) (hu : ∀ w', (isAgg ty).run Try.prog w' = .ok false w') :
    (execOp a.eval o).run Try.prog w = .ok (.value (.int k n)) w := by
  unfold execOp
  rw [ho]
  simp only [hx]
  go_simp
theorem exec_cell_slice {ty : TypeId} {x : Operand} {ad : Addr} {q : Option Addr} {n c : Nat} (ho : o.op = .load ty x) (hx : a.eval x = .pointer (some ad)) (hc : w.cell? ad = some (.slice q n c)) (hu : ∀ w', (isAgg ty).run Try.prog w' = .ok false w') :
    (execOp a.eval o).run Try.prog w = .ok (.value (.slice q n c)) w := by
  unfold execOp
  rw [ho]
  simp only [hx]
  go_simp
theorem exec_load_at {ty : TypeId} {x : Operand} {b off : Nat} {cs : List Value} {d : TypeDesc} (ho : o.op = .load ty x) (hx : a.eval x = .pointer (some ⟨b, off, none⟩)) (hc : w.rangeAt b off cs)
    (hu : Try.prog.underlying ty = some d) (hd : d.isRow = true) (hi : (Try.prog.info? ty).map (·.size) = some cs.length) : (execOp a.eval o).run Try.prog w = .ok (.value (.agg cs.toArray)) w := by
  unfold execOp
  simp [ho, hx, run_loadAt_mid w b off ty cs d hc hu hd hi]
end
theorem info_fd : Hid ((Try.prog.info? 46).map (·.size) = some 5) := by show _ = _; kernel_rfl
theorem info_fm : Hid ((Try.prog.info? 24).map (·.size) = some 2) := by show _ = _; kernel_rfl
theorem range_later {w w' : World} {b o : Nat} {cs : List Value} (h : w.rangeAt b o cs) (hb : Below w.heap.size w w') (hlt : b < w.heap.size) : w'.rangeAt b o cs := fun j v hj => (hb.cell (p := ⟨b, o + j, none⟩) hlt).trans (h j v hj)
theorem range5 {w : World} {b o : Nat} {v0 v1 v2 v3 v4 : Value} (h0 : w.cell? ⟨b, o, none⟩ = some v0) (h1 : w.cell? ⟨b, o + 1, none⟩ = some v1) (h2 : w.cell? ⟨b, o + 2, none⟩ = some v2) (h3 : w.cell? ⟨b, o + 3, none⟩ = some v3) (h4 : w.cell? ⟨b, o + 4, none⟩ = some v4) : w.rangeAt b o [v0, v1, v2, v3, v4]
  | 0, v, hj => by cases hj; exact h0
  | 1, v, hj => by cases hj; exact h1
  | 2, v, hj => by cases hj; exact h2
  | 3, v, hj => by cases hj; exact h3
  | 4, v, hj => by cases hj; exact h4
  | n + 5, v, hj => by simp at hj
theorem range2 {w : World} {b o : Nat} {v0 v1 : Value} (h0 : w.cell? ⟨b, o, none⟩ = some v0) (h1 : w.cell? ⟨b, o + 1, none⟩ = some v1) : w.rangeAt b o [v0, v1]
  | 0, v, hj => by cases hj; exact h0
  | 1, v, hj => by cases hj; exact h1
  | n + 2, v, hj => by simp at hj
theorem idxOf_lt_of_take : ∀ (l : List Int) (k : Nat) (x : Int), x ∈ l.take k → l.idxOf x < k
  | l, 0, x, h => by simp at h
  | [], k + 1, x, h => by simp at h
  | y :: l, k + 1, x, h => by
    by_cases hy : y = x
    · subst hy; simp
    · have hb : (y == x) = false := beq_eq_false_iff_ne.2 hy
      rw [List.take_succ_cons, List.mem_cons] at h
      have := idxOf_lt_of_take l k x (h.resolve_left (Ne.symm hy))
      rw [List.idxOf_cons, hb]
      show l.idxOf x + 1 < k + 1
      omega
/-- the first place of what stands at k is k where it does not stand ahead -/
theorem at_iff {l : List Int} {k : Nat} {x : Int} (h : l[k]? = some x) : firstAt l x = k ↔ x ∉ l.take k := by
  constructor
  · intro he hm
    have := idxOf_lt_of_take l k x hm
    unfold firstAt at he
    rw [if_pos (List.mem_of_getElem? h)] at he
    omega
  · intro hn; exact first_hit hn h
theorem ids_take (L : List field.Fd) (k : Nat) : ids (L.take k) = (ids L).take k := by unfold ids; rw [List.map_take]
end Go.Proofs.Ytegeeobfamjjpaa.schema
/- Contracts of the reference of layer 13 (schema): Fine, Right. No condition. -/
namespace Go.Proofs.Ytegeeobfamjjpaa.schema
open Go.RowKit
open Go.Proofs.Ytegeeobfamjjpaa.field (Gives newB gives_from refRight_any)
set_option linter.unusedVariables false

set_option maxRecDepth 20000 in
set_option maxHeartbeats 1600000 in
theorem refFine_any (i : Int) (a : Option Addr) (cap : Nat) (L : List field.Fd) (w : World) (h : field.Fds w a L) (hL : L.length ≤ maxLen) :
    Calls Try.prog 8 #[.agg #[.int .i64 i, .slice a L.length cap]] w (Gives (.bool (decide (Fine (i, L)))) w) := by
  have hml : (L.length : Int) ≤ 9223372036854775807 := by unfold maxLen at hL; omega
  have HX := hid (boxM i a L cap w)
  have hw := newB w (.cells #[.int .i64 i, .slice a L.length cap] 24)
  have HF := hid (h.below hw)
  have HW := hid hw
  have HB0 := hid (Block.new w 24 [.int .i64 i, .slice a L.length cap])
  obtain ⟨r, hr⟩ : ∃ r : Bool, Hid (decide (Fine (i, L)) = r) := ⟨_, rfl⟩
  rw [hr.out]
  unfold Gives
  clear h hw
  by_cases h1 : i < 0
  · obtain rfl : false = r := by rw [← hr.out]; exact (decide_eq_false (fun e => by have := e.1.1; simp at this; omega)).symm
    have hd1 : decide (i < 0) = true := decide_eq_true h1
    clear h1
    go_enter Try.func8, Try.ntmps8
    go_wp2
    go_ret
    exact ⟨rfl, HW.out⟩
  have hd1 : decide (i < 0) = false := decide_eq_false h1
  by_cases h2 : i > 200
  · obtain rfl : false = r := by rw [← hr.out]; exact (decide_eq_false (fun e => by have := e.1.2; simp at this; omega)).symm
    have hd2 : decide (i > 200) = true := decide_eq_true h2
    clear h1 h2
    go_enter Try.func8, Try.ntmps8
    go_wp2
    go_ret
    exact ⟨rfl, HW.out⟩
  have hd2 : decide (i > 200) = false := decide_eq_false h2
  by_cases h3 : L.length < 1
  · obtain rfl : false = r := by rw [← hr.out]; exact (decide_eq_false (fun e => by have := e.2.1.1; simp only at this; omega)).symm
    have hd3 : decide ((L.length : Int) < 1) = true := decide_eq_true (by omega)
    clear h1 h2 h3
    go_enter Try.func8, Try.ntmps8
    go_wp2
    go_ret
    exact ⟨rfl, HW.out⟩
  have hd3 : decide ((L.length : Int) < 1) = false := decide_eq_false (by omega)
  by_cases h4 : L.length > 8
  · obtain rfl : false = r := by rw [← hr.out]; exact (decide_eq_false (fun e => by have := e.2.1.2; simp only at this; omega)).symm
    have hd4 : decide ((L.length : Int) > 8) = true := decide_eq_true (by omega)
    clear h1 h2 h3 h4
    go_enter Try.func8, Try.ntmps8
    go_wp2
    go_ret
    exact ⟨rfl, HW.out⟩
  have hd4 : decide ((L.length : Int) > 8) = false := decide_eq_false (by omega)
  have HFI : Hid (Fine (i, L) ↔ FineF L ∧ size L ≤ 64) := hid ⟨fun e => ⟨e.2.2.1, e.2.2.2⟩, fun e => ⟨by simp; omega, by simp; omega, e.1, e.2⟩⟩
  have h8 : L.length ≤ 8 := by omega
  clear h1 h2 h3 h4
  go_enter Try.func8, Try.ntmps8
  go_wp2
  clear hd1 hd2 hd3 hd4
  generalize (w.alloc (.cells #[.int .i64 i, .slice a L.length cap] 24)) = W0 at *
  go_loopw [3] (fun n wr => ∃ k : Nat, k ≤ L.length ∧ n = .int .i64 (k : Int) ∧ Hid (FineF (L.take k)) ∧ Hid (Below W0.heap.size W0 wr)) (fun n _ => L.length - (intOf n).toNat)
  case atStart => exact ⟨0, Nat.zero_le _, rfl, hid FineF.nil, hid (Below.refl _ _)⟩
  case round =>
    obtain ⟨k, hk, rfl, HOK, HB⟩ := hrel
    obtain ⟨z0, z1, hbo⟩ := HX.out _ HB.out
    by_cases hlt : k < L.length
    · obtain ⟨b, off, p, rfl, hbl, hp, c0, c1, c2, c3, c4⟩ := field_at HF.out HB.out hlt
      have i1 : (k : Int) < L.length := by omega
      have HNO := hid (fineF_no hp)
      have HSUC := hid (fineF_succ hp)
      have HAT := hid (at_iff (ids_at hp))
      have hR := range5 c0 c1 c2 c3 c4
      have HZ := hid (fun w' (hb' : Below wr.heap.size wr w') => (⟨by obtain ⟨_, y1, _⟩ := HX.out w' (HB.out.trans (hb'.mono HB.out.size)); exact y1, (HB0.out.later (HB.out.trans (hb'.mono HB.out.size))).whole, range_later hR hb' hbl⟩ : w'.cell? ⟨w.heap.size, 1, none⟩ = some (.slice (some ⟨b, off, none⟩) L.length cap) ∧ w'.rangeAt w.heap.size 0 [.int .i64 i, .slice (some ⟨b, off, none⟩) L.length cap] ∧ w'.rangeAt b (off + k * 5) [.int .i64 p.id, .int .i64 p.kind, .int .i64 p.lo, .int .i64 p.hi, .int .i64 p.most]))
      have ca := fun w' (hb' : Below wr.heap.size wr w') => refAt_any i (some ⟨b, off, none⟩) cap L p.id w' (HF.out.below (HB.out.trans (hb'.mono HB.out.size))) hL
      have cr := fun w' => refRight_any p w'
      clear hp hR
      generalize firstAt (ids L) p.id = J at *
      by_cases hri : p.Right
      · rw [decide_eq_true hri] at cr
        by_cases hj : J = (k : Int)
        · have HNQ : Hid ((J != (k : Int)) = false) := hid (by rw [hj]; simp)
          have HOK2 : Hid (FineF (L.take (k + 1))) := hid (HSUC.out.2 ⟨HOK.out, hri, by rw [ids_take]; exact HAT.out.1 hj⟩)
          clear hri hj c0 c1 c2 c3 c4
          go_wp2
          have hb : Below wr.heap.size wr wr.drew := below_drew (Below.refl _ _)
          · refine plan.region (by kernel_rfl) ?_
            refine plan.Rest.first 0 _ (.pointer (some ⟨w.heap.size, 1, none⟩)) rfl (by kernel_rfl) (by kernel_rfl) (by kernel_rfl) (by kernel_rfl) (fun w' hb' => (by kernel_rfl)) ?_
            refine plan.Rest.first 1 _ (.slice (some ⟨b, off, none⟩) L.length cap) rfl (by kernel_rfl) (by kernel_rfl) (by kernel_rfl) (by kernel_rfl) (fun w' hb' => exec_cell_slice (ad := ⟨w.heap.size, 1, none⟩) rfl (by kernel_rfl) (HZ.out _ (hb.trans (hb'.mono hb.size))).1 Try.isAgg22) ?_
            refine plan.Rest.first 2 _ (.int .i64 (k : Int)) rfl (by kernel_rfl) (by kernel_rfl) (by kernel_rfl) (by kernel_rfl) (fun w' hb' => (by kernel_rfl)) ?_
            refine plan.Rest.first 3 _ (.pointer (some ⟨b, off + k * 5, none⟩)) rfl (by kernel_rfl) (by kernel_rfl) (by kernel_rfl) (by kernel_rfl) (fun w' hb' => (exec_indexF (b := b) (off := off) (len := L.length) (cap := cap) (i := k) rfl (by kernel_rfl) (by kernel_rfl) hlt)) ?_
            refine plan.Rest.first 4 _ (.agg #[.int .i64 p.id, .int .i64 p.kind, .int .i64 p.lo, .int .i64 p.hi, .int .i64 p.most]) rfl (by kernel_rfl) (by kernel_rfl) (by kernel_rfl) (by kernel_rfl) (fun w' hb' => exec_load_at (b := b) (off := off + k * 5) rfl (by kernel_rfl) (HZ.out _ (hb.trans (hb'.mono hb.size))).2.2 Try.underlying46 rfl info_fd.out) ?_
            refine plan.Rest.call 5 _ 20 #[.agg #[.int .i64 p.id, .int .i64 p.kind, .int .i64 p.lo, .int .i64 p.hi, .int .i64 p.most]] rfl (by kernel_rfl) (by kernel_rfl) (by kernel_rfl) ((cr wr.drew).mono ?_)
            rintro e W1 ⟨rfl, hn⟩
            have hb := hb.trans (hn.mono hb.size)
            refine ⟨_, rfl, hn, ?_⟩
            refine plan.Rest.first 6 _ (.bool false) rfl (by kernel_rfl) (by kernel_rfl) (by kernel_rfl) (by kernel_rfl) (fun w' hb' => (by kernel_rfl)) ?_
            refine plan.Rest.first 7 _ (.bool false) rfl (by kernel_rfl) (by kernel_rfl) (by kernel_rfl) (by kernel_rfl) (fun w' hb' => (by kernel_rfl)) ?_
            refine plan.Rest.first 8 _ (.agg #[.int .i64 i, .slice (some ⟨b, off, none⟩) L.length cap]) rfl (by kernel_rfl) (by kernel_rfl) (by kernel_rfl) (by kernel_rfl) (fun w' hb' => exec_load_at (b := w.heap.size) (off := 0) rfl (by kernel_rfl) (HZ.out _ (hb.trans (hb'.mono hb.size))).2.1 Try.underlying24 rfl info_fm.out) ?_
            refine plan.Rest.first 9 _ (.pointer (some ⟨w.heap.size, 1, none⟩)) rfl (by kernel_rfl) (by kernel_rfl) (by kernel_rfl) (by kernel_rfl) (fun w' hb' => (by kernel_rfl)) ?_
            refine plan.Rest.first 10 _ (.slice (some ⟨b, off, none⟩) L.length cap) rfl (by kernel_rfl) (by kernel_rfl) (by kernel_rfl) (by kernel_rfl) (fun w' hb' => exec_cell_slice (ad := ⟨w.heap.size, 1, none⟩) rfl (by kernel_rfl) (HZ.out _ (hb.trans (hb'.mono hb.size))).1 Try.isAgg22) ?_
            refine plan.Rest.first 11 _ (.int .i64 (k : Int)) rfl (by kernel_rfl) (by kernel_rfl) (by kernel_rfl) (by kernel_rfl) (fun w' hb' => (by kernel_rfl)) ?_
            refine plan.Rest.first 12 _ (.pointer (some ⟨b, off + k * 5, none⟩)) rfl (by kernel_rfl) (by kernel_rfl) (by kernel_rfl) (by kernel_rfl) (fun w' hb' => (exec_indexF (b := b) (off := off) (len := L.length) (cap := cap) (i := k) rfl (by kernel_rfl) (by kernel_rfl) hlt)) ?_
            refine plan.Rest.first 13 _ (.pointer (some ⟨b, off + k * 5, none⟩)) rfl (by kernel_rfl) (by kernel_rfl) (by kernel_rfl) (by kernel_rfl) (fun w' hb' => (by kernel_rfl)) ?_
            refine plan.Rest.first 14 _ (.int .i64 p.id) rfl (by kernel_rfl) (by kernel_rfl) (by kernel_rfl) (by kernel_rfl) (fun w' hb' => exec_cell_int (ad := ⟨b, off + k * 5, none⟩) rfl (by kernel_rfl) ((HZ.out _ (hb.trans (hb'.mono hb.size))).2.2 0 _ rfl) Try.isAgg3) ?_
            refine plan.Rest.first 16 _ (.int .i64 (k : Int)) rfl (by kernel_rfl) (by kernel_rfl) (by kernel_rfl) (by kernel_rfl) (fun w' hb' => (by kernel_rfl)) ?_
            refine plan.Rest.call 15 _ 21 #[.agg #[.int .i64 i, .slice (some ⟨b, off, none⟩) L.length cap], .int .i64 p.id] rfl (by kernel_rfl) (by kernel_rfl) (by kernel_rfl) ((ca W1 hb).mono ?_)
            rintro e W2 ⟨rfl, hn⟩
            have hb := hb.trans (hn.mono hb.size)
            refine ⟨_, rfl, hn, ?_⟩
            refine plan.Rest.first 17 _ (.bool false) rfl (by kernel_rfl) (by kernel_rfl) (by kernel_rfl) (by kernel_rfl) (fun w' hb' => (exec_neq_int (n := J) (m := (k : Int)) rfl (by kernel_rfl) (by kernel_rfl) HNQ)) ?_
            refine plan.Rest.first 18 _ (.bool false) rfl (by kernel_rfl) (by kernel_rfl) (by kernel_rfl) (by kernel_rfl) (fun w' hb' => (by kernel_rfl)) ?_
            refine plan.Rest.done (by kernel_rfl) ?_
            walk_nrm
            go_wp2
            exact ⟨⟨k + 1, by omega, by go_num, HOK2, hid (HB.out.trans (hb.mono HB.out.size))⟩, by simp [intOf]; omega⟩
        · have HNQ : Hid ((J != (k : Int)) = true) := hid (by simp [hj])
          obtain rfl : false = r := by rw [← hr.out]; exact (decide_eq_false (fun e => HNO.out (fun e2 => hj (HAT.out.2 (by rw [← ids_take]; exact e2.2))) (HFI.out.1 e).1)).symm
          clear hri hj c0 c1 c2 c3 c4
          go_wp2
          have hb : Below wr.heap.size wr wr.drew := below_drew (Below.refl _ _)
          · refine plan.region (by kernel_rfl) ?_
            refine plan.Rest.first 0 _ (.pointer (some ⟨w.heap.size, 1, none⟩)) rfl (by kernel_rfl) (by kernel_rfl) (by kernel_rfl) (by kernel_rfl) (fun w' hb' => (by kernel_rfl)) ?_
            refine plan.Rest.first 1 _ (.slice (some ⟨b, off, none⟩) L.length cap) rfl (by kernel_rfl) (by kernel_rfl) (by kernel_rfl) (by kernel_rfl) (fun w' hb' => exec_cell_slice (ad := ⟨w.heap.size, 1, none⟩) rfl (by kernel_rfl) (HZ.out _ (hb.trans (hb'.mono hb.size))).1 Try.isAgg22) ?_
            refine plan.Rest.first 2 _ (.int .i64 (k : Int)) rfl (by kernel_rfl) (by kernel_rfl) (by kernel_rfl) (by kernel_rfl) (fun w' hb' => (by kernel_rfl)) ?_
            refine plan.Rest.first 3 _ (.pointer (some ⟨b, off + k * 5, none⟩)) rfl (by kernel_rfl) (by kernel_rfl) (by kernel_rfl) (by kernel_rfl) (fun w' hb' => (exec_indexF (b := b) (off := off) (len := L.length) (cap := cap) (i := k) rfl (by kernel_rfl) (by kernel_rfl) hlt)) ?_
            refine plan.Rest.first 4 _ (.agg #[.int .i64 p.id, .int .i64 p.kind, .int .i64 p.lo, .int .i64 p.hi, .int .i64 p.most]) rfl (by kernel_rfl) (by kernel_rfl) (by kernel_rfl) (by kernel_rfl) (fun w' hb' => exec_load_at (b := b) (off := off + k * 5) rfl (by kernel_rfl) (HZ.out _ (hb.trans (hb'.mono hb.size))).2.2 Try.underlying46 rfl info_fd.out) ?_
            refine plan.Rest.call 5 _ 20 #[.agg #[.int .i64 p.id, .int .i64 p.kind, .int .i64 p.lo, .int .i64 p.hi, .int .i64 p.most]] rfl (by kernel_rfl) (by kernel_rfl) (by kernel_rfl) ((cr wr.drew).mono ?_)
            rintro e W1 ⟨rfl, hn⟩
            have hb := hb.trans (hn.mono hb.size)
            refine ⟨_, rfl, hn, ?_⟩
            refine plan.Rest.first 6 _ (.bool false) rfl (by kernel_rfl) (by kernel_rfl) (by kernel_rfl) (by kernel_rfl) (fun w' hb' => (by kernel_rfl)) ?_
            refine plan.Rest.first 7 _ (.bool false) rfl (by kernel_rfl) (by kernel_rfl) (by kernel_rfl) (by kernel_rfl) (fun w' hb' => (by kernel_rfl)) ?_
            refine plan.Rest.first 8 _ (.agg #[.int .i64 i, .slice (some ⟨b, off, none⟩) L.length cap]) rfl (by kernel_rfl) (by kernel_rfl) (by kernel_rfl) (by kernel_rfl) (fun w' hb' => exec_load_at (b := w.heap.size) (off := 0) rfl (by kernel_rfl) (HZ.out _ (hb.trans (hb'.mono hb.size))).2.1 Try.underlying24 rfl info_fm.out) ?_
            refine plan.Rest.first 9 _ (.pointer (some ⟨w.heap.size, 1, none⟩)) rfl (by kernel_rfl) (by kernel_rfl) (by kernel_rfl) (by kernel_rfl) (fun w' hb' => (by kernel_rfl)) ?_
            refine plan.Rest.first 10 _ (.slice (some ⟨b, off, none⟩) L.length cap) rfl (by kernel_rfl) (by kernel_rfl) (by kernel_rfl) (by kernel_rfl) (fun w' hb' => exec_cell_slice (ad := ⟨w.heap.size, 1, none⟩) rfl (by kernel_rfl) (HZ.out _ (hb.trans (hb'.mono hb.size))).1 Try.isAgg22) ?_
            refine plan.Rest.first 11 _ (.int .i64 (k : Int)) rfl (by kernel_rfl) (by kernel_rfl) (by kernel_rfl) (by kernel_rfl) (fun w' hb' => (by kernel_rfl)) ?_
            refine plan.Rest.first 12 _ (.pointer (some ⟨b, off + k * 5, none⟩)) rfl (by kernel_rfl) (by kernel_rfl) (by kernel_rfl) (by kernel_rfl) (fun w' hb' => (exec_indexF (b := b) (off := off) (len := L.length) (cap := cap) (i := k) rfl (by kernel_rfl) (by kernel_rfl) hlt)) ?_
            refine plan.Rest.first 13 _ (.pointer (some ⟨b, off + k * 5, none⟩)) rfl (by kernel_rfl) (by kernel_rfl) (by kernel_rfl) (by kernel_rfl) (fun w' hb' => (by kernel_rfl)) ?_
            refine plan.Rest.first 14 _ (.int .i64 p.id) rfl (by kernel_rfl) (by kernel_rfl) (by kernel_rfl) (by kernel_rfl) (fun w' hb' => exec_cell_int (ad := ⟨b, off + k * 5, none⟩) rfl (by kernel_rfl) ((HZ.out _ (hb.trans (hb'.mono hb.size))).2.2 0 _ rfl) Try.isAgg3) ?_
            refine plan.Rest.first 16 _ (.int .i64 (k : Int)) rfl (by kernel_rfl) (by kernel_rfl) (by kernel_rfl) (by kernel_rfl) (fun w' hb' => (by kernel_rfl)) ?_
            refine plan.Rest.call 15 _ 21 #[.agg #[.int .i64 i, .slice (some ⟨b, off, none⟩) L.length cap], .int .i64 p.id] rfl (by kernel_rfl) (by kernel_rfl) (by kernel_rfl) ((ca W1 hb).mono ?_)
            rintro e W2 ⟨rfl, hn⟩
            have hb := hb.trans (hn.mono hb.size)
            refine ⟨_, rfl, hn, ?_⟩
            refine plan.Rest.first 17 _ (.bool true) rfl (by kernel_rfl) (by kernel_rfl) (by kernel_rfl) (by kernel_rfl) (fun w' hb' => (exec_neq_int (n := J) (m := (k : Int)) rfl (by kernel_rfl) (by kernel_rfl) HNQ)) ?_
            refine plan.Rest.first 18 _ (.bool true) rfl (by kernel_rfl) (by kernel_rfl) (by kernel_rfl) (by kernel_rfl) (fun w' hb' => (by kernel_rfl)) ?_
            refine plan.Rest.done (by kernel_rfl) ?_
            walk_nrm
            go_wp2
            go_ret
            exact ⟨rfl, hbo.trans (hb.mono hbo.size)⟩
      · rw [decide_eq_false hri] at cr
        obtain rfl : false = r := by rw [← hr.out]; exact (decide_eq_false (fun e => HNO.out (fun e2 => hri e2.1) (HFI.out.1 e).1)).symm
        clear hri c0 c1 c2 c3 c4
        go_wp2
        have hb : Below wr.heap.size wr wr.drew := below_drew (Below.refl _ _)
        · refine plan.region (by kernel_rfl) ?_
          refine plan.Rest.first 0 _ (.pointer (some ⟨w.heap.size, 1, none⟩)) rfl (by kernel_rfl) (by kernel_rfl) (by kernel_rfl) (by kernel_rfl) (fun w' hb' => (by kernel_rfl)) ?_
          refine plan.Rest.first 1 _ (.slice (some ⟨b, off, none⟩) L.length cap) rfl (by kernel_rfl) (by kernel_rfl) (by kernel_rfl) (by kernel_rfl) (fun w' hb' => exec_cell_slice (ad := ⟨w.heap.size, 1, none⟩) rfl (by kernel_rfl) (HZ.out _ (hb.trans (hb'.mono hb.size))).1 Try.isAgg22) ?_
          refine plan.Rest.first 2 _ (.int .i64 (k : Int)) rfl (by kernel_rfl) (by kernel_rfl) (by kernel_rfl) (by kernel_rfl) (fun w' hb' => (by kernel_rfl)) ?_
          refine plan.Rest.first 3 _ (.pointer (some ⟨b, off + k * 5, none⟩)) rfl (by kernel_rfl) (by kernel_rfl) (by kernel_rfl) (by kernel_rfl) (fun w' hb' => (exec_indexF (b := b) (off := off) (len := L.length) (cap := cap) (i := k) rfl (by kernel_rfl) (by kernel_rfl) hlt)) ?_
          refine plan.Rest.first 4 _ (.agg #[.int .i64 p.id, .int .i64 p.kind, .int .i64 p.lo, .int .i64 p.hi, .int .i64 p.most]) rfl (by kernel_rfl) (by kernel_rfl) (by kernel_rfl) (by kernel_rfl) (fun w' hb' => exec_load_at (b := b) (off := off + k * 5) rfl (by kernel_rfl) (HZ.out _ (hb.trans (hb'.mono hb.size))).2.2 Try.underlying46 rfl info_fd.out) ?_
          refine plan.Rest.call 5 _ 20 #[.agg #[.int .i64 p.id, .int .i64 p.kind, .int .i64 p.lo, .int .i64 p.hi, .int .i64 p.most]] rfl (by kernel_rfl) (by kernel_rfl) (by kernel_rfl) ((cr wr.drew).mono ?_)
          rintro e W1 ⟨rfl, hn⟩
          have hb := hb.trans (hn.mono hb.size)
          refine ⟨_, rfl, hn, ?_⟩
          refine plan.Rest.first 6 _ (.bool true) rfl (by kernel_rfl) (by kernel_rfl) (by kernel_rfl) (by kernel_rfl) (fun w' hb' => (by kernel_rfl)) ?_
          refine plan.Rest.first 7 _ (.bool true) rfl (by kernel_rfl) (by kernel_rfl) (by kernel_rfl) (by kernel_rfl) (fun w' hb' => (by kernel_rfl)) ?_
          refine plan.Rest.skip 8 _ rfl (by kernel_rfl) (by kernel_rfl) (by kernel_rfl) (by kernel_rfl) ?_
          refine plan.Rest.skip 9 _ rfl (by kernel_rfl) (by kernel_rfl) (by kernel_rfl) (by kernel_rfl) ?_
          refine plan.Rest.skip 10 _ rfl (by kernel_rfl) (by kernel_rfl) (by kernel_rfl) (by kernel_rfl) ?_
          refine plan.Rest.skip 11 _ rfl (by kernel_rfl) (by kernel_rfl) (by kernel_rfl) (by kernel_rfl) ?_
          refine plan.Rest.skip 12 _ rfl (by kernel_rfl) (by kernel_rfl) (by kernel_rfl) (by kernel_rfl) ?_
          refine plan.Rest.skip 13 _ rfl (by kernel_rfl) (by kernel_rfl) (by kernel_rfl) (by kernel_rfl) ?_
          refine plan.Rest.skip 14 _ rfl (by kernel_rfl) (by kernel_rfl) (by kernel_rfl) (by kernel_rfl) ?_
          refine plan.Rest.skip 15 _ rfl (by kernel_rfl) (by kernel_rfl) (by kernel_rfl) (by kernel_rfl) ?_
          refine plan.Rest.skip 16 _ rfl (by kernel_rfl) (by kernel_rfl) (by kernel_rfl) (by kernel_rfl) ?_
          refine plan.Rest.skip 17 _ rfl (by kernel_rfl) (by kernel_rfl) (by kernel_rfl) (by kernel_rfl) ?_
          refine plan.Rest.first 18 _ (.bool true) rfl (by kernel_rfl) (by kernel_rfl) (by kernel_rfl) (by kernel_rfl) (fun w' hb' => (by kernel_rfl)) ?_
          refine plan.Rest.done (by kernel_rfl) ?_
          walk_nrm
          go_wp2
          go_ret
          exact ⟨rfl, hbo.trans (hb.mono hbo.size)⟩
    · obtain rfl : k = L.length := by omega
      have HOK2 : Hid (FineF L) := hid (by have := HOK.out; rw [List.take_of_length_le (Nat.le_refl _)] at this; exact this)
      have cl := refLong_any i a cap L wr (HF.out.below HB.out) (by omega)
      obtain rfl : decide ((size L : Int) ≤ 64) = r := by rw [← hr.out]; exact decide_eq_decide.2 ⟨fun e => HFI.out.2 ⟨HOK2.out, by omega⟩, fun e => by have := (HFI.out.1 e).2; omega⟩
      go_wp2_with (go_at_call 19; ((with_reducible refine cl.mono ?_); rintro e w2 ⟨rfl, hb2⟩))
      go_ret
      exact ⟨rfl, hbo.trans (hb2.mono hbo.size)⟩
end Go.Proofs.Ytegeeobfamjjpaa.schema
