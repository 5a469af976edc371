/- Contracts and lemmas that the claims of this seat share: RecordHas, FieldLeast, FieldRow, RecordFirst, FieldNumber, Cut, FieldText. Each says its own conditions. -/
import Derived.Test.YtegeeobfamjjpaaCmF
import Derived.Test.YtegeeobfamjjpaaCmC
import Derived.Test.YtegeeobfamjjpaaCmD
import Derived.Test.YtegeeobfamjjpaaCmE
import Derived.Test.YtegeeobfamjjpaaCmA
import Derived.Maps.AppendAt
import Derived.Laws.Cover3
/- Contracts of layer 14 (record) and of its reference: Has, with slices.EqualFunc over field.Has, and belongs. No condition. -/
namespace Go.Proofs.Ytegeeobfamjjpaa.record
open Go.RowKit
open Go.Proofs.Ytegeeobfamjjpaa.field (Va Gives newB gives_from WV has_any refHas_any)
open Go.Proofs.Ytegeeobfamjjpaa.schema (below_out field_at Fine boxM fine_any refFine_any)
set_option linter.unusedVariables false

theorem hasL_whole {L : List field.Fd} {V : List Va} {k : Nat} {f : field.Fd} {v : Va} (hf : L[k]? = some f) (hv : V[k]? = some v) (h : ¬ f.Has v) : ¬ HasL L V := fun h' => h (h'.at hf hv)
theorem hasL_all {L : List field.Fd} {V : List Va} (hl : L.length = V.length) (h : HasL (L.take L.length) (V.take L.length)) : HasL L V := by
  rwa [List.take_of_length_le (Nat.le_refl _), List.take_of_length_le (by omega)] at h
theorem equalFuncHas_any (a : Option Addr) (ca : Nat) (L : List field.Fd) (b : Option Addr) (cb : Nat) (V : List Va) (w : World) (h : field.Fds w a L) (h' : field.Vas w b V) (hL : L.length ≤ maxLen) (hV : V.length ≤ maxLen) :
    Calls Try.prog 39 #[.slice a L.length ca, .slice b V.length cb, .func (.func 25) #[] #[]] w (Gives (.bool (decide (HasL L V))) w) := by
  have hml : (L.length : Int) ≤ 9223372036854775807 := by unfold maxLen at hL; omega
  have hmm : (V.length : Int) ≤ 9223372036854775807 := by unfold maxLen at hV; omega
  have HF := hid h
  have HG := hid h'
  obtain ⟨r, hr⟩ : ∃ r : Bool, Hid (decide (HasL L V) = r) := ⟨_, rfl⟩
  rw [hr.out]
  unfold Gives
  clear h h' hL hV
  by_cases hlen : L.length = V.length
  · have HLEN := hid hlen
    rw [← hlen]
    clear hlen hmm
    go_enter Try.func39, Try.ntmps39
    go_wp2
    go_loopw [17] (fun n wr => ∃ k : Nat, k ≤ L.length ∧ n = .int .i64 (k : Int) ∧ Hid (HasL (L.take k) (V.take k)) ∧ Hid (Below w.heap.size w wr)) (fun n _ => L.length - (intOf n).toNat)
    case atStart => exact ⟨0, Nat.zero_le _, rfl, hid (by simp [HasL]), hid (Below.refl _ _)⟩
    case round =>
      obtain ⟨k, hk, rfl, HEQ, HB⟩ := hrel
      by_cases hlt : k < L.length
      · obtain ⟨g, off, p, rfl, hbl, hp, c0, c1, c2, c3, c4⟩ := field_at HF.out HB.out hlt
        obtain ⟨g', off', q, rfl, hbl', hq, d0, d1⟩ := val_at HG.out HB.out (k := k) (by rw [← HLEN.out]; exact hlt)
        have i1 : (k : Int) < L.length := by omega
        have HS := hid (hasL_take hp hq)
        have HNE := hid (fun hpq => hasL_whole hp hq hpq)
        have cS := has_any p q (WV p q wr)
        have HX := hid (WV.all p q wr)
        unfold WV at cS HX
        clear hp hq
        by_cases hpq : p.Has q
        · rw [decide_eq_true hpq] at cS
          have HPQ := hid hpq
          clear hpq
          go_wp2_with (go_at_call 25; ((with_reducible refine cS.mono ?_); rintro e w2 ⟨rfl, hb2⟩; obtain ⟨z0, z1, hbo⟩ := HX.out _ hb2))
          exact ⟨⟨k + 1, by omega, by go_num, hid (HS.out.2 ⟨HEQ.out, HPQ.out⟩), hid (HB.out.trans (hbo.mono HB.out.size))⟩, by simp [intOf]; omega⟩
        · rw [decide_eq_false hpq] at cS
          obtain rfl : false = r := by rw [← hr.out]; exact (decide_eq_false (HNE.out hpq)).symm
          clear hpq
          go_wp2_with (go_at_call 25; ((with_reducible refine cS.mono ?_); rintro e w2 ⟨rfl, hb2⟩; obtain ⟨z0, z1, hbo⟩ := HX.out _ hb2))
          go_ret
          exact ⟨rfl, HB.out.trans (hbo.mono HB.out.size)⟩
      · obtain rfl : k = L.length := by omega
        obtain rfl : true = r := by rw [← hr.out]; exact (decide_eq_true (hasL_all HLEN.out HEQ.out)).symm
        go_wp2
        go_ret
        exact ⟨rfl, HB.out⟩
  · obtain rfl : false = r := by rw [← hr.out]; exact (decide_eq_false (fun e => hlen e.length)).symm
    have hd : ((L.length : Int) == (V.length : Int)) = false := by rw [beq_eq_false_iff_ne]; omega
    clear hlen
    go_enter Try.func39, Try.ntmps39
    go_wp2
    go_ret
    exact ⟨rfl, Below.refl _ _⟩
/-- the world in which a form and a record have been boxed -/
def WF (i : Int) (a : Option Addr) (L : List field.Fd) (c : Nat) (j : Int) (b : Option Addr) (V : List Va) (d : Nat) (w : World) : World := (w.alloc (.cells #[.int .i64 i, .slice a L.length c] 24)).alloc (.cells #[.int .i64 j, .slice b V.length d] 27)
theorem WF.all (i : Int) (a : Option Addr) (L : List field.Fd) (c : Nat) (j : Int) (b : Option Addr) (V : List Va) (d : Nat) (w w' : World) (hb : Below (WF i a L c j b V d w).heap.size (WF i a L c j b V d w) w') :
    w'.cell? ⟨w.heap.size, 0, none⟩ = some (.int .i64 i) ∧ w'.cell? ⟨w.heap.size, 1, none⟩ = some (.slice a L.length c) ∧ w'.cell? ⟨w.heap.size + 1, 0, none⟩ = some (.int .i64 j) ∧ w'.cell? ⟨w.heap.size + 1, 1, none⟩ = some (.slice b V.length d) ∧ Below w.heap.size w w' := by
  obtain ⟨h1, h2, h3⟩ := boxM i a L c w w' (below_out hb)
  obtain ⟨h4, h5, _⟩ := boxR j b V d (w.alloc (.cells #[.int .i64 i, .slice a L.length c] 24)) w' hb
  exact ⟨h1, h2, by simpa using h4, by simpa using h5, h3⟩
theorem belongsHas_any (i : Int) (a : Option Addr) (c : Nat) (L : List field.Fd) (j : Int) (b : Option Addr) (d : Nat) (V : List Va) (w : World) (h : field.Fds w a L) (h' : field.Vas w b V) (hL : L.length ≤ maxLen) (hV : V.length ≤ maxLen) :
    Calls Try.prog 24 #[.agg #[.int .i64 i, .slice a L.length c], .agg #[.int .i64 j, .slice b V.length d], .func (.func 25) #[] #[]] w (Gives (.bool (decide (j = i ∧ HasL L V))) w) := by
  have HX := hid (WF.all i a L c j b V d w)
  have hw := (WF.all i a L c j b V d w _ (Below.refl _ _)).2.2.2.2
  have cE := equalFuncHas_any a c L b d V (WF i a L c j b V d w) (h.below hw) (h'.below hw) hL hV
  have HW := hid hw
  clear h h' hL hV hw
  unfold Gives
  by_cases hij : j = i
  · subst hij
    rw [show decide (j = j ∧ HasL L V) = decide (HasL L V) by simp]
    generalize decide (HasL L V) = r at *
    unfold WF at HX cE HW
    go_enter Try.func24, Try.ntmps24
    go_wp2_with (go_at_call 39; ((with_reducible refine cE.mono ?_); rintro e w2 ⟨rfl, hb2⟩; obtain ⟨z0, z1, z2, z3, hbo⟩ := HX.out _ hb2))
    go_ret
    exact ⟨rfl, hbo⟩
  · have hd : (j == i) = false := by rw [beq_eq_false_iff_ne]; exact hij
    rw [show decide (j = i ∧ HasL L V) = false from decide_eq_false (fun e => hij e.1)]
    clear hij cE
    unfold WF at HX HW
    go_enter Try.func24, Try.ntmps24
    go_wp2
    go_ret
    exact ⟨rfl, HW.out⟩
theorem has_any' (i : Int) (a : Option Addr) (c : Nat) (L : List field.Fd) (j : Int) (b : Option Addr) (d : Nat) (V : List Va) (w : World) (h : field.Fds w a L) (h' : field.Vas w b V) (hL : L.length ≤ maxLen) (hV : V.length ≤ maxLen) :
    Calls Try.prog 10 #[.agg #[.int .i64 i, .slice a L.length c], .agg #[.int .i64 j, .slice b V.length d]] w (Gives (.bool (decide (Has i L j V))) w) := by
  have HX := hid (WF.all i a L c j b V d w)
  have hw := (WF.all i a L c j b V d w _ (Below.refl _ _)).2.2.2.2
  have cF := fine_any i a c L (WF i a L c j b V d w) (h.below hw) hL
  have cB := fun w' (hb : Below (WF i a L c j b V d w).heap.size (WF i a L c j b V d w) w') => belongsHas_any i a c L j b d V w' ((h.below hw).below hb) ((h'.below hw).below hb) hL hV
  have HW := hid hw
  clear h h' hL hV hw
  unfold Gives at cF cB ⊢
  by_cases hf : Fine (i, L)
  · rw [decide_eq_true hf] at cF
    rw [show decide (Has i L j V) = decide (j = i ∧ HasL L V) from decide_eq_decide.2 ⟨fun k => k.2, fun k => ⟨hf, k⟩⟩]
    generalize decide (j = i ∧ HasL L V) = r at *
    clear hf
    unfold WF at HX cF cB HW
    go_enter Try.func10, Try.ntmps10
    go_wp2_with (first
      | (go_at_call 23; ((with_reducible refine cF.mono ?_); rintro e w2 ⟨rfl, hb2⟩; obtain ⟨z0, z1, z2, z3, hbo⟩ := HX.out _ hb2))
      | (go_at_call 24; ((with_reducible refine (cB _ hb2).mono ?_); rintro e w3 ⟨rfl, hb3⟩)))
    go_ret
    exact ⟨rfl, hbo.trans (hb3.mono hbo.size)⟩
  · rw [decide_eq_false hf] at cF
    rw [show decide (Has i L j V) = false from decide_eq_false (fun e => hf e.1)]
    clear hf cB
    unfold WF at HX cF HW
    go_enter Try.func10, Try.ntmps10
    go_wp2_with (go_at_call 23; ((with_reducible refine cF.mono ?_); rintro e w2 ⟨rfl, hb2⟩; obtain ⟨z0, z1, z2, z3, hbo⟩ := HX.out _ hb2))
    go_ret
    exact ⟨rfl, hbo⟩
theorem refHas_any' (i : Int) (a : Option Addr) (c : Nat) (L : List field.Fd) (j : Int) (b : Option Addr) (d : Nat) (V : List Va) (w : World) (h : field.Fds w a L) (h' : field.Vas w b V) (hL : L.length ≤ maxLen) (hV : V.length ≤ maxLen) :
    Calls Try.prog 11 #[.agg #[.int .i64 i, .slice a L.length c], .agg #[.int .i64 j, .slice b V.length d]] w (Gives (.bool (decide (Has i L j V))) w) := by
  have hml : (L.length : Int) ≤ 9223372036854775807 := by unfold maxLen at hL; omega
  have hmm : (V.length : Int) ≤ 9223372036854775807 := by unfold maxLen at hV; omega
  have HX := hid (WF.all i a L c j b V d w)
  have hw := (WF.all i a L c j b V d w _ (Below.refl _ _)).2.2.2.2
  have cF := refFine_any i a c L (WF i a L c j b V d w) (h.below hw) hL
  have HF := hid (h.below hw)
  have HG := hid (h'.below hw)
  have HW := hid hw
  obtain ⟨r, hr⟩ : ∃ r : Bool, Hid (decide (Has i L j V) = r) := ⟨_, rfl⟩
  rw [hr.out]
  clear h h' hL hV hw
  unfold Gives at cF ⊢
  by_cases hf : Fine (i, L)
  · rw [decide_eq_true hf] at cF
    by_cases hij : j = i
    · subst hij
      replace hr : Hid (decide (HasL L V) = r) := hid (by rw [← hr.out]; exact decide_eq_decide.2 ⟨fun k => ⟨hf, rfl, k⟩, fun k => k.2.2⟩)
      clear hf
      by_cases hlen : L.length = V.length
      · have HLEN := hid hlen
        unfold WF at HX HF HG HW cF
        rw [← hlen] at HX HF HG HW cF ⊢
        clear hlen hmm
        go_enter Try.func11, Try.ntmps11
        go_wp2_with (go_at_call 8; ((with_reducible refine cF.mono ?_); rintro e w1 ⟨rfl, hb1⟩; obtain ⟨z0, z1, z2, z3, hbo⟩ := HX.out _ hb1))
        have HB1 := hid hb1
        clear cF hb1 z0 z1 z2 z3 hbo
        go_loopw [5] (fun n wr => ∃ k : Nat, k ≤ L.length ∧ n = .int .i64 (k : Int) ∧ Hid (HasL (L.take k) (V.take k)) ∧ Hid (Below w1.heap.size w1 wr)) (fun n _ => L.length - (intOf n).toNat)
        case atStart => exact ⟨0, Nat.zero_le _, rfl, hid (by simp [HasL]), hid (Below.refl _ _)⟩
        case round =>
          obtain ⟨k, hk, rfl, HEQ, HB⟩ := hrel
          have HBR := hid (HB1.out.trans (HB.out.mono HB1.out.size))
          obtain ⟨z0, z1, z2, z3, hbo⟩ := HX.out _ HBR.out
          have HBO := hid hbo
          by_cases hlt : k < L.length
          · obtain ⟨g, off, p, rfl, hbl, hp, c0, c1, c2, c3, c4⟩ := field_at HF.out HBR.out hlt
            obtain ⟨g', off', q, rfl, hbl', hq, d0, d1⟩ := val_at HG.out HBR.out (k := k) (by rw [← HLEN.out]; exact hlt)
            have i1 : (k : Int) < L.length := by omega
            have HS := hid (hasL_take hp hq)
            have HNE := hid (fun hpq => hasL_whole hp hq hpq)
            have cS := fun W => refHas_any p q W
            clear hp hq hbo
            by_cases hpq : p.Has q
            · simp only [decide_eq_true hpq] at cS
              have HPQ := hid hpq
              clear hpq
              go_wp2
              refine tail.region 10 (by kernel_rfl) (by kernel_rfl) ?_
              simp only [List.take_succ_cons, List.take_zero, List.drop_succ_cons, List.drop_zero]
              repeat (go_big_quiet_step (fail))
              refine wpQuiet_nil ?_
              rintro _ ⟨nq, rfl⟩
              go_wp2_with (go_at_call 26; ((with_reducible refine (cS _).mono ?_); rintro e w2 ⟨rfl, hb2⟩))
              exact ⟨⟨k + 1, by omega, by go_num, hid (HS.out.2 ⟨HEQ.out, HPQ.out⟩), hid ((below_drewN HB.out nq).trans (hb2.mono (by simpa using HB.out.size)))⟩, by simp [intOf]; omega⟩
            · simp only [decide_eq_false hpq] at cS
              obtain rfl : false = r := by rw [← hr.out]; exact (decide_eq_false (HNE.out hpq)).symm
              clear hpq
              go_wp2
              refine tail.region 10 (by kernel_rfl) (by kernel_rfl) ?_
              simp only [List.take_succ_cons, List.take_zero, List.drop_succ_cons, List.drop_zero]
              repeat (go_big_quiet_step (fail))
              refine wpQuiet_nil ?_
              rintro _ ⟨nq, rfl⟩
              go_wp2_with (go_at_call 26; ((with_reducible refine (cS _).mono ?_); rintro e w2 ⟨rfl, hb2⟩))
              go_ret
              exact ⟨rfl, (below_drewN HBO.out nq).trans (hb2.mono (by simpa using HBO.out.size))⟩
          · obtain rfl : k = L.length := by omega
            obtain rfl : true = r := by rw [← hr.out]; exact (decide_eq_true (hasL_all HLEN.out HEQ.out)).symm
            go_wp2
            go_ret
            exact ⟨rfl, hbo⟩
      · obtain rfl : false = r := by rw [← hr.out]; exact (decide_eq_false (fun e => hlen e.length)).symm
        have hd : ((V.length : Int) == (L.length : Int)) = false := by rw [beq_eq_false_iff_ne]; omega
        clear hlen
        unfold WF at HX HW cF
        go_enter Try.func11, Try.ntmps11
        go_wp2_with (go_at_call 8; ((with_reducible refine cF.mono ?_); rintro e w1 ⟨rfl, hb1⟩; obtain ⟨z0, z1, z2, z3, hbo⟩ := HX.out _ hb1))
        go_ret
        exact ⟨rfl, hbo⟩
    · have hd : (j == i) = false := by rw [beq_eq_false_iff_ne]; exact hij
      obtain rfl : false = r := by rw [← hr.out]; exact (decide_eq_false (fun e => hij e.2.1)).symm
      clear hij hf
      unfold WF at HX HW cF
      go_enter Try.func11, Try.ntmps11
      go_wp2_with (go_at_call 8; ((with_reducible refine cF.mono ?_); rintro e w1 ⟨rfl, hb1⟩; obtain ⟨z0, z1, z2, z3, hbo⟩ := HX.out _ hb1))
      go_ret
      exact ⟨rfl, hbo⟩
  · rw [decide_eq_false hf] at cF
    obtain rfl : false = r := by rw [← hr.out]; exact (decide_eq_false (fun e => hf e.1)).symm
    clear hf
    unfold WF at HX HW cF
    go_enter Try.func11, Try.ntmps11
    go_wp2_with (go_at_call 8; ((with_reducible refine cF.mono ?_); rintro e w1 ⟨rfl, hb1⟩; obtain ⟨z0, z1, z2, z3, hbo⟩ := HX.out _ hb1))
    go_ret
    exact ⟨rfl, hbo⟩
end Go.Proofs.Ytegeeobfamjjpaa.record
/- Contracts of layer 12 (field): Least, Size, Wider. No condition. -/
namespace Go.Proofs.Ytegeeobfamjjpaa.field
open Go.RowKit
set_option linter.unusedVariables false
theorem least_any (f : Fd) (w : World) : Calls Try.prog 27 #[.agg #[.int .i64 f.id, .int .i64 f.kind, .int .i64 f.lo, .int .i64 f.hi, .int .i64 f.most]] w (Gives (.agg #[.int .i64 f.least, .string ⟨#[]⟩]) w) := by
  have HW := hid (W2.all f w)
  have hl : f.least = if f.kind = 1 ∧ f.Right then f.lo else 0 := by
    unfold Fd.least
    by_cases hr : f.Right
    · rw [if_pos hr]
      by_cases hk : f.kind = 1
      · rw [if_pos ⟨hk, hr⟩]
      · rw [if_neg (fun h => hk h.1)]; unfold Fd.Right at hr; omega
    · rw [if_neg hr, if_neg (fun h => hr h.2)]
  rw [hl]
  by_cases hk : f.kind = 1
  · have cr := gives_from (right_any f (W2 f w)) (w0 := W2 f w) (Below.refl _ _)
    unfold W2 at HW cr
    by_cases hr : f.Right
    · rw [if_pos ⟨hk, hr⟩]
      rw [decide_eq_true hr] at cr
      obtain ⟨i, k, lo, hi, m⟩ := f
      simp only at hk hl HW cr ⊢
      clear hl hr
      subst hk
      have HI := hid (val_info lo ⟨#[]⟩)
      have HO := hid (val_one lo ⟨#[]⟩)
      unfold Gives
      go_enter Try.func27, Try.ntmps27
      go_wp2_with (first
        | (go_at_call 40; (with_reducible refine cr.mono ?_); rintro e w1 ⟨rfl, hb1⟩; obtain ⟨hk1, hres, hbw⟩ := HW.out _ hb1; have hth := val_there hres lo ⟨#[]⟩)
        | (with_reducible refine wpList_store_named rfl 48 (.tmp 2) (.tmp 14) rfl (w.heap.size + 1) 0 #[.int .i64 lo, .string ⟨#[]⟩] rfl rfl hth HI.out HO.out ?_))
      intro w2 hw2
      obtain ⟨hB, hb⟩ := val_stored hres hw2 (by omega) hbw
      go_wp2
      refine bodyPost_ret (results_cell (b := w.heap.size + 1) (o := 0) rfl rfl hB.whole Try.underlying48 rfl (val_info2 _ _)) rfl ?_
      exact ⟨rfl, hb⟩
    · rw [if_neg (fun h => hr h.2)]
      rw [decide_eq_false hr] at cr
      obtain ⟨i, k, lo, hi, m⟩ := f
      simp only at hk hl HW cr ⊢
      clear hl hr
      subst hk
      have HI := hid (val_info 0 ⟨#[]⟩)
      have HO := hid (val_one 0 ⟨#[]⟩)
      unfold Gives
      go_enter Try.func27, Try.ntmps27
      go_wp2_with (first
        | (go_at_call 40; (with_reducible refine cr.mono ?_); rintro e w1 ⟨rfl, hb1⟩; obtain ⟨hk1, hres, hbw⟩ := HW.out _ hb1; have hth := val_there hres 0 ⟨#[]⟩)
        | (with_reducible refine wpList_store_named rfl 48 (.tmp 2) (.tmp 11) rfl (w.heap.size + 1) 0 #[.int .i64 0, .string ⟨#[]⟩] rfl rfl hth HI.out HO.out ?_))
      intro w2 hw2
      obtain ⟨hB, hb⟩ := val_stored hres hw2 (by omega) hbw
      go_wp2
      refine bodyPost_ret (results_cell (b := w.heap.size + 1) (o := 0) rfl rfl hB.whole Try.underlying48 rfl (val_info2 _ _)) rfl ?_
      exact ⟨rfl, hb⟩
  · rw [if_neg (fun h => hk h.1)]
    have HB := hid (newB (w.alloc (.cells #[.int .i64 f.id, .int .i64 f.kind, .int .i64 f.lo, .int .i64 f.hi, .int .i64 f.most] 46)) (.cells #[.int .i64 0, .string ⟨#[]⟩] 48))
    have HW1 := hid (HW.out _ (Below.refl _ _))
    unfold W2 at HW1
    obtain ⟨i, k, lo, hi, m⟩ := f
    simp only at hk hl HW1 ⊢
    have hne : (k != 1) = true := by rw [bne_iff_ne]; exact hk
    clear hl hk HW
    unfold Gives
    go_enter Try.func27, Try.ntmps27
    go_wp2
    go_returns
    exact ⟨rfl, HW1.out.2.2⟩
end Go.Proofs.Ytegeeobfamjjpaa.field
/- Rows of fields that a call has made: appended to, cloned. No condition but rows of at most 2^47 bytes. -/
namespace Go.Proofs.Ytegeeobfamjjpaa.schema
open Go.RowKit
set_option linter.unusedVariables false

/-- the cells of fields -/
def fdC (p : field.Fd) : List Value := [.int .i64 p.id, .int .i64 p.kind, .int .i64 p.lo, .int .i64 p.hi, .int .i64 p.most]
def fdV : List field.Fd → List Value
  | [] => []
  | p :: L => fdC p ++ fdV L
theorem fdV_append : ∀ a b, fdV (a ++ b) = fdV a ++ fdV b
  | [], _ => rfl
  | p :: a, b => by rw [List.cons_append, fdV, fdV, fdV_append a b, List.append_assoc]
theorem fdV_length : ∀ L, (fdV L).length = L.length * 5
  | [] => rfl
  | p :: L => by rw [fdV]; simp only [fdC, List.length_append, List.length_cons, List.length_nil, fdV_length L]; omega
theorem fdV_one : ∀ L, ∀ u ∈ fdV L, u.oneCell' = true
  | [], u, h => by simp [fdV] at h
  | p :: L, u, h => by
    rw [fdV, List.mem_append] at h
    rcases h with h | h
    · simp [fdC] at h; rcases h with rfl | rfl | rfl | rfl | rfl <;> rfl
    · exact fdV_one L u h
theorem fdV_get : ∀ (L : List field.Fd) (j : Nat) (u : Value), (fdV L)[j]? = some u → ∃ i p c, L[i]? = some p ∧ j = i * 5 + c ∧ c < 5 ∧ (fdC p)[c]? = some u
  | [], j, u, h => by simp [fdV] at h
  | p :: L, j, u, h => by
    rw [fdV] at h
    by_cases hj : j < 5
    · rw [List.getElem?_append_left (by simp [fdC]; omega)] at h
      exact ⟨0, p, j, rfl, by omega, hj, h⟩
    · rw [List.getElem?_append_right (by simp [fdC]; omega)] at h
      obtain ⟨i, q, c, h1, h2, h3, h4⟩ := fdV_get L _ u h
      simp only [fdC, List.length_cons, List.length_nil] at h2
      exact ⟨i + 1, q, c, by simpa using h1, by omega, h3, h4⟩
theorem fdV_at : ∀ (L : List field.Fd) (i : Nat) (p : field.Fd) (c : Nat), L[i]? = some p → c < 5 → (fdV L)[i * 5 + c]? = (fdC p)[c]?
  | [], i, p, c, h, _ => by simp at h
  | q :: L, 0, p, c, h, hc => by
    simp at h; subst h
    rw [fdV, List.getElem?_append_left (by simp [fdC]; omega)]
    simp
  | q :: L, i + 1, p, c, h, hc => by
    rw [fdV, List.getElem?_append_right (by simp [fdC]; omega)]
    rw [← fdV_at L i p c (by simpa using h) hc]
    congr 1
    simp only [fdC, List.length_cons, List.length_nil]; omega
/-- what lies in fields that came in, as the cells of a row -/
theorem fds_news {w : World} {a : Option Addr} {L : List field.Fd} (h : field.Fds w a L) : L.length = 0 ∨ ∃ ad, a = some ad ∧ ∀ j u, (fdV L)[j]? = some u → w.cell? (ad.add j) = some u := by
  rcases h with h | ⟨b, off, ha, hlt, hc⟩
  · exact .inl (by rw [h]; rfl)
  · refine .inr ⟨_, ha, fun j u hj => ?_⟩
    obtain ⟨i, p, c, h1, rfl, h3, h4⟩ := fdV_get L j u hj
    obtain ⟨c0, c1, c2, c3, c4⟩ := hc i p h1
    rw [Addr.add_lit]
    match c, h3, h4 with
    | 0, _, h4 => rw [show (some u) = some (.int .i64 p.id) from h4.symm.trans rfl]; exact c0
    | 1, _, h4 => rw [show (some u) = some (.int .i64 p.kind) from h4.symm.trans rfl, ← Nat.add_assoc]; exact c1
    | 2, _, h4 => rw [show (some u) = some (.int .i64 p.lo) from h4.symm.trans rfl, ← Nat.add_assoc]; exact c2
    | 3, _, h4 => rw [show (some u) = some (.int .i64 p.hi) from h4.symm.trans rfl, ← Nat.add_assoc]; exact c3
    | 4, _, h4 => rw [show (some u) = some (.int .i64 p.most) from h4.symm.trans rfl, ← Nat.add_assoc]; exact c4
/-- a row of the call's own reads as fields -/
theorem own_fds {w : World} {base n : Nat} {a : Option Addr} {cap : Nat} {L : List field.Fd} {e : TypeId} (h : w.ownsRow base e 5 (.slice a n cap) n (fdV L)) : field.Fds w a L ∧ n = L.length ∧ n ≤ cap := by
  obtain ⟨hl, hr⟩ := h
  have hn : n = L.length := by have := fdV_length L; rw [hl] at this; omega
  rcases hr with ⟨hv, h0⟩ | ⟨b, cap', cur, hv, _, hg, hcp, _, _, htake⟩
  · cases hv
    exact ⟨.inl (List.eq_nil_of_length_eq_zero (by omega)), hn, by omega⟩
  · cases hv
    refine ⟨.inr ⟨b, 0, rfl, (Array.getElem?_eq_some_iff.1 hg).1, fun i p hp => ?_⟩, hn, hcp⟩
    have hi : i < L.length := (List.getElem?_eq_some_iff.1 hp).1
    have key : ∀ c x, c < 5 → (fdC p)[c]? = some x → w.cell? ⟨b, 0 + (i * 5 + c), none⟩ = some x := by
      intro c x hc hx
      have h1 := fdV_at L i p c hp hc
      rw [hx, ← htake, List.getElem?_take, if_pos (by omega)] at h1
      rw [cell_of_row w b _ cur _ _ hg, Nat.zero_add, ← h1, Array.getElem?_toList]
    exact ⟨key 0 _ (by omega) rfl, key 1 _ (by omega) rfl, key 2 _ (by omega) rfl, key 3 _ (by omega) rfl, key 4 _ (by omega) rfl⟩
theorem fd_info : (Try.prog.info? 46).map (fun i => (i.zero, i.size, i.bytes)) = some (some (.agg #[.int .i64 0, .int .i64 0, .int .i64 0, .int .i64 0, .int .i64 0]), 5, 40) := by kernel_rfl
theorem fd_info_parts : ∃ i, Try.prog.info? 46 = some i ∧ i.zero = some (.agg #[.int .i64 0, .int .i64 0, .int .i64 0, .int .i64 0, .int .i64 0]) ∧ i.size = 5 ∧ i.bytes = 40 := by
  obtain ⟨i, hi, he⟩ := Option.map_eq_some_iff.1 fd_info
  simp only [Prod.mk.injEq] at he
  exact ⟨i, hi, he.1, he.2.1, he.2.2⟩
theorem wpList_append_fromN {P : Program} {w : World} {ops : Array Oper} {rest : List Oper} {o : Oper} {a : Act} {Q : Exit → Act → World → Prop} (hgd : o.guard = none) (s x : Operand) (t : TypeId)
    (ho : o.op = .call { callee := .builtin .append, args := #[s, x], argTypes := #[t, t] })
    (base : Nat) (e : TypeId) (i : TypeInfo) (z : Value) (size bytes : Nat) (ht : P.underlying t = some (.slice e)) (hi : P.info? e = some i) (hz : i.zero = some z)
    (hsize : i.size = size) (hby : i.bytes = bytes) (hzs : z.cells.size = size) (hsz : 0 < size)
    (v : Value) (n : Nat) (xs : List Value) (hs : a.eval s = v) (hown : w.ownsRow base e size v n xs)
    (ap : Option Addr) (m c : Nat) (news : List Value) (hx : a.eval x = .slice ap m c) (hl : news.length = m * size)
    (hnews : m = 0 ∨ ∃ ad, ap = some ad ∧ ∀ j u, news[j]? = some u → w.cell? (ad.add j) = some u) (h1 : ∀ u ∈ news, u.oneCell' = true)
    (h63 : n + m ≤ maxLen) (hbytes : (n + m) * bytes ≤ 140737488355328) (hbase : base ≤ w.heap.size)
    (h : ∀ v' w', w'.ownsRow base e size v' (n + m) (xs ++ news) → w.grownBy w' v.ownBlock → wpList P ops Q rest (a.put o.dst v') w') : wpList P ops Q (o :: rest) a w := by
  by_cases hm : m = 0
  · subst hm
    obtain rfl : news = [] := List.eq_nil_of_length_eq_zero (by omega)
    obtain ⟨bp, cp, rfl, hcp⟩ := ownsRow_slice hown
    have hsrc : Src P i.size t (.slice ap 0 c) 0 [] w := by
      cases ap with
      | none => exact Src.ofNil w ht c
      | some ad => exact Src.ofSlice w ht ad 0 c [] (by simp) (by simp) (by simp)
    have hrun := run_append_nothing w t t o.type e i ht hi bp n cp hcp _ hsrc
    refine wpList_plain hgd fun K hK => ?_
    unfold Oper.wp
    simp [execOp, ho, resolve, invoke, builtin, hs, hx, hrun, Result.andThen]
    exact hK _ _ (h _ w (by simpa using hown) (grown_refl _ _))
  · rcases hnews with h0 | ⟨ad, rfl, hc⟩
    · exact absurd h0 hm
    · exact wpList_append_own w hgd s x t ho base e i z size bytes ht hi hz hsize hby hzs hsz v n xs hs hown ad m c news hx hl hc h1 h63 hbytes hbase (fun v' w' h2 h3 _ => h v' w' h2 h3)
end Go.Proofs.Ytegeeobfamjjpaa.schema
/- Contracts of layer 14 (record) and of its reference: First. No condition. -/
namespace Go.Proofs.Ytegeeobfamjjpaa.record
open Go.RowKit
open Go.Proofs.Ytegeeobfamjjpaa.field (Va Gives newB gives_from least_any refLeast_any)
open Go.Proofs.Ytegeeobfamjjpaa.schema (below_out field_at Fine boxM fine_any take_succ_at fdC StayT stay_below stay_grown stay_store exec_cell_slice' exec_load_at exec_indexF info_fd range5)
set_option linter.unusedVariables false

/-- the least values -/
def firsts (L : List field.Fd) : List Va := L.map fun f => ⟨f.least, ⟨#[]⟩⟩
theorem firsts_length (L : List field.Fd) : (firsts L).length = L.length := List.length_map _
theorem firsts_succ {L : List field.Fd} {k : Nat} {f : field.Fd} (h : L[k]? = some f) : firsts (L.take (k + 1)) = firsts (L.take k) ++ [⟨f.least, ⟨#[]⟩⟩] := by
  rw [take_succ_at h]; simp [firsts]
def firstR (i : Int) (L : List field.Fd) : Int × List Va := if Fine (i, L) then (i, firsts L) else (0, [])
/-- the world in which a form has been boxed and a record's variable made -/
def WMR (i : Int) (a : Option Addr) (L : List field.Fd) (c : Nat) (w : World) : World := (w.alloc (.cells #[.int .i64 i, .slice a L.length c] 24)).alloc (.cells #[.int .i64 0, .slice none 0 0] 27)
theorem WMR.all (i : Int) (a : Option Addr) (L : List field.Fd) (c : Nat) (w w' : World) (hb : Below (WMR i a L c w).heap.size (WMR i a L c w) w') :
    w'.cell? ⟨w.heap.size, 0, none⟩ = some (.int .i64 i) ∧ w'.cell? ⟨w.heap.size, 1, none⟩ = some (.slice a L.length c) ∧ Block w' (w.heap.size + 1) 27 [.int .i64 0, .slice none 0 0] ∧ Below w.heap.size w w' := by
  obtain ⟨h1, h2, h3⟩ := boxM i a L c w w' (below_out hb)
  have hB := (Block.new (w.alloc (.cells #[.int .i64 i, .slice a L.length c] 24)) 27 [.int .i64 0, .slice none 0 0]).later hb
  exact ⟨h1, h2, by simpa using hB, h3⟩
/-- behind the last store: the result's variable holds the record, its values still lie in their row -/
theorem RS.done {i : Int} {w0 : World} {F n : Nat} {V : List Va} {a : Option Addr} {c : Nat} {wr w : World} {R : Nat} {v0 v1 : Value} (hS : RS i w0 F V n (.slice a n c) wr) (hR : Block wr R 27 [v0, v1]) (hlt : R < F) (hw : w.heap.size ≤ R) (hb : Below w.heap.size w wr) :
    Block ((wr.setCell ⟨R, 0, none⟩ (.int .i64 i)).setCell ⟨R, 1, none⟩ (.slice a n c)) R 27 [.int .i64 i, .slice a V.length c] ∧ field.Vas ((wr.setCell ⟨R, 0, none⟩ (.int .i64 i)).setCell ⟨R, 1, none⟩ (.slice a n c)) a V ∧
      Below w.heap.size w ((wr.setCell ⟨R, 0, none⟩ (.int .i64 i)).setCell ⟨R, 1, none⟩ (.slice a n c)) := by
  have hn := hS.len
  subst hn
  have hB := (hR.setCell 0 (.int .i64 i)).setCell 1 (.slice a V.length c)
  have hbR := ((But.refl wr.heap.size R wr).setCell 0 (.int .i64 i)).setCell 1 (.slice a V.length c)
  have hrow := ownsRow_heap (w' := (wr.setCell ⟨R, 0, none⟩ (.int .i64 i)).setCell ⟨R, 1, none⟩ (.slice a V.length c)) hS.row (fun g hg => by
    have h1 := World.ownsRow.lt hS.row g hg
    exact hbR.2.2.2.2 g h1.2 (by omega))
  exact ⟨hB, (own_vas hrow).1, below_setCells (below_setCells hb hw 0 [.int .i64 i]) hw 1 [.slice a V.length c]⟩

set_option maxRecDepth 20000 in
set_option maxHeartbeats 1600000 in
theorem first_any (i : Int) (a : Option Addr) (c : Nat) (L : List field.Fd) (w : World) (h : field.Fds w a L) (hL : L.length ≤ maxLen) :
    Calls Try.prog 13 #[.agg #[.int .i64 i, .slice a L.length c]] w (RecAs (firstR i L).1 (firstR i L).2 w) := by
  have HX := hid (WMR.all i a L c w)
  have hw := (WMR.all i a L c w _ (Below.refl _ _)).2.2.2
  have cF := fine_any i a c L (WMR i a L c w) (h.below hw) hL
  have HF := hid (h.below hw)
  unfold firstR RecAs
  unfold Gives at cF
  by_cases hf : Fine (i, L)
  · rw [decide_eq_true hf] at cF
    rw [if_pos hf]
    have hL8 := fine_len hf
    simp only
    clear h hL hf hw
    unfold WMR at HX cF HF
    go_enter Try.func13, Try.ntmps13
    go_wp2_with (go_at_call 23; ((with_reducible refine cF.mono ?_); rintro e w1 ⟨rfl, hb1⟩; obtain ⟨z0, z1, hR1, hbo⟩ := HX.out _ hb1; have hsz0 : w.heap.size < w1.heap.size := (by have := hR1.lt; omega)))
    have HR1 := hid hR1
    have HBO := hid hbo
    have HB1 := hid hb1
    have HS2 := hid (RS.start w1 i)
    have HSZ : Hid (w.heap.size + 1 < w1.heap.size) := hid hR1.lt
    obtain ⟨F, hF⟩ : ∃ F, Hid (w1.heap.size = F) := ⟨_, hid rfl⟩
    rw [hF.out] at HS2 HSZ ⊢
    clear hb1 hR1 hbo cF z0 z1 hsz0
    go_loopw [16] (fun m wr => ∃ k : Nat, k ≤ L.length ∧ m = .int .i64 (k : Int) ∧ Hid (∃ u, RS i w1 F (firsts (L.take k)) k u wr)) (fun m _ => L.length - (intOf m).toNat)
    case atStart => exact ⟨0, Nat.zero_le _, rfl, hid ⟨_, HS2.out⟩⟩
    case round =>
      obtain ⟨k, hk, rfl, HS⟩ := hrel
      obtain ⟨u, hS⟩ := HS.out
      obtain ⟨ua, uc, rfl, _⟩ := ownsRow_slice hS.row
      have hbr := HB1.out.trans (hS.low.mono HB1.out.size)
      by_cases hlt : k < L.length
      · obtain ⟨g, off, p, rfl, hbl, hp, c0, c1, c2, c3, c4⟩ := field_at HF.out hbr hlt
        have i1 : (k : Int) < L.length := by omega
        have HN := hid (firsts_succ hp)
        have cl := fun W => least_any p W
        clear hp HS HS2 hbr
        generalize firsts (L.take k) = V at *
        have HS := hid (hS.later (w' := ((wr.alloc (.cells #[.int .i64 p.id, .int .i64 p.kind, .int .i64 p.lo, .int .i64 p.hi, .int .i64 p.most] 46))).drew) ((newB wr _).trans (below_drewN (Below.refl _ _) 1)))
        have HXX : Hid (Block ((wr.alloc (.cells #[.int .i64 p.id, .int .i64 p.kind, .int .i64 p.lo, .int .i64 p.hi, .int .i64 p.most] 46))).drew wr.heap.size 46 (fdC p)) := hid ((Block.new wr 46 (fdC p)).later (below_drewN (Below.refl _ _) 1))
        obtain ⟨X, hX⟩ : ∃ X, Hid (wr.heap.size = X) := ⟨_, hid rfl⟩
        have HFX : Hid (F < X) := hid (by have := hS.f.lt; have := hX.out; omega)
        clear hS
        go_wp2
        obtain ⟨wx, hwx⟩ : ∃ x, Hid ((wr.alloc (.cells #[.int .i64 p.id, .int .i64 p.kind, .int .i64 p.lo, .int .i64 p.hi, .int .i64 p.most] 46)) = x) := ⟨_, hid rfl⟩
        rw [hX.out] at HXX ⊢
        rw [hwx.out] at HS HXX ⊢
        refine plan.regionS (S := fun w' => Block w' X 46 (fdC p)) (by kernel_rfl) ?_
        have hS := HS.out
        refine plan.freeS 0 _ (.pointer (some ⟨F, 1, none⟩)) rfl (by kernel_rfl) (by kernel_rfl) (by kernel_rfl) (by kernel_rfl) (fun w' => (by kernel_rfl)) HXX.out ?_
        refine plan.firstS 2 _ (.agg #[.int .i64 p.id, .int .i64 p.kind, .int .i64 p.lo, .int .i64 p.hi, .int .i64 p.most]) rfl (by kernel_rfl) (by kernel_rfl) (by kernel_rfl) (by kernel_rfl) (fun w' hw' => exec_load_at (b := X) (off := 0) rfl (by kernel_rfl) (range5 (hw'.cell 0) (hw'.cell 1) (hw'.cell 2) (hw'.cell 3) (hw'.cell 4)) Try.underlying46 rfl info_fd.out) HXX.out ?_
        refine plan.toLS 3 (fun x y z => #[true, x, true, y, z, false, false, false]) rfl (by kernel_rfl) ?_
        refine plan.lateS 1 3 4 21 23 24 (by decide) (by decide) _ _ _ (fun x y z => #[true, x, true, y, z, false, false, false]) rfl rfl rfl rfl rfl rfl rfl rfl rfl (by intro y z; cases y <;> cases z <;> rfl) (by intro x; cases x <;> rfl) (by intro x; cases x <;> rfl)
          (by kernel_rfl) (by kernel_rfl) (by kernel_rfl) (by kernel_rfl) (by kernel_rfl) (.slice ua k uc) 27 #[.agg #[.int .i64 p.id, .int .i64 p.kind, .int .i64 p.lo, .int .i64 p.hi, .int .i64 p.most]]
          (fun v w' => v = .agg #[.int .i64 p.least, .string ⟨#[]⟩] ∧ RS i w1 F V k (.slice ua k uc) w' ∧ Block w' X 46 (fdC p)) (fun v w' => .slice (some ⟨w'.heap.size, 0, none⟩) 1 1) (fun v w' => w'.alloc (.cells #[.int .i64 p.least, .string ⟨#[]⟩] 48))
          (exec_cell_slice' (ad := ⟨F, 1, none⟩) rfl (by kernel_rfl) (hS.f.cell 1) Try.isAgg25)
          (fun v w' hM => exec_cell_slice' (ad := ⟨F, 1, none⟩) rfl (by kernel_rfl) (hM.2.1.f.cell 1) Try.isAgg25)
          (fun v w' hM => exec_cell_slice' (ad := ⟨F, 1, none⟩) rfl (by kernel_rfl) ((hM.2.1.f.alloc _).cell 1) Try.isAgg25)
          (by kernel_rfl) (by kernel_rfl) ((cl _).mono ?_) (fun v w' hM => by obtain ⟨rfl, _⟩ := hM; kernel_rfl) (fun v w' hM => by obtain ⟨rfl, _⟩ := hM; kernel_rfl) HXX.out (fun v w' hM => hM.2.2) (fun v w' hM => hM.2.2.alloc _) ?_
        · rintro e w3 ⟨rfl, hb3⟩
          exact ⟨_, rfl, rfl, hS.later hb3, HXX.out.later hb3⟩
        · rintro v w3 ⟨rfl, hS3, hX3⟩
          have hS4 := hS3.later (newB w3 (.cells #[.int .i64 p.least, .string ⟨#[]⟩] 48))
          have hX4 := hX3.alloc (.cells #[.int .i64 p.least, .string ⟨#[]⟩] 48)
          refine plan.oneES 5 _ (fun q w5 => (w5.ownsRow (F + 1) 48 2 q (k + 1) (vaV (V ++ [⟨p.least, ⟨#[]⟩⟩])) ∧ (w3.alloc (.cells #[.int .i64 p.least, .string ⟨#[]⟩] 48)).grownBy w5 (Value.slice ua k uc).ownBlock) ∧ Block w5 X 46 (fdC p)) rfl rfl (by kernel_rfl)
            (exec_push_vaX (g := w3.heap.size) rfl (by kernel_rfl) (by kernel_rfl) hS4.row (Block.new w3 48 (vaC ⟨p.least, ⟨#[]⟩⟩)) (by omega) hS4.f.lt hX4 (by decide)) (fun q w5 h5 => h5.2) ?_
          rintro q w5 ⟨⟨ho5, hg5⟩, hX5⟩
          have hF5 := hS4.held hg5
          have hS6 := hS4.push hg5 ho5
          obtain ⟨qa, qc, rfl, _⟩ := ownsRow_slice ho5
          refine plan.oneS (w1 := w5) 6 _ (.pointer (some ⟨F, 1, none⟩)) rfl rfl (by kernel_rfl) (by kernel_rfl) hX5 ?_
          refine plan.lastS (w1 := w5.setCell ⟨F, 1, none⟩ (.slice qa (k + 1) qc)) 7 _ rfl rfl rfl (by kernel_rfl) (by kernel_rfl) (exec_put_va (ad := ⟨F, 1, none⟩) rfl (by kernel_rfl) (by kernel_rfl) (hF5.cell 1) (hF5.frozen 1)) ((stay_store 46 hF5 (by decide) 1 _).block hX5) ?_
          have HS6 := hid hS6
          clear hS6 hF5 ho5 hg5 hS4 hS3 hS hX5 hX4 hX3
          walk_nrm
          go_wp2
          exact ⟨⟨k + 1, by omega, by go_num, hid ⟨_, by rw [HN.out]; exact HS6.out⟩⟩, by simp [intOf]; omega⟩
      · obtain rfl : k = L.length := by omega
        have hR := HR1.out.later hS.low
        have x0 := hR.cell 0
        have x1 := hR.cell 1
        have p0 := hR.frozen 0
        have p1 := hR.frozen 1
        have y0 := hS.f.cell 0
        have y1 := hS.f.cell 1
        have HS3 := hid hS
        have HR3 := hid hR
        have HB3 := hid (HBO.out.trans (hS.low.mono HBO.out.size))
        clear HS hS HS2 hR hbr
        go_wp2
        obtain ⟨d1, d2, d3⟩ := HS3.out.done HR3.out HSZ.out (by omega) HB3.out
        rw [List.take_of_length_le (Nat.le_refl _)] at d1 d2
        exact bodyPost_ret (results_cell (b := w.heap.size + 1) (o := 0) rfl rfl d1.whole Try.underlying27 rfl (rc_info _ _)) rfl ⟨_, _, rfl, d2, d3⟩
  · rw [decide_eq_false hf] at cF
    rw [if_neg hf]
    simp only
    clear h hL hf hw
    unfold WMR at HX cF
    go_enter Try.func13, Try.ntmps13
    go_wp2_with (go_at_call 23; ((with_reducible refine cF.mono ?_); rintro e w1 ⟨rfl, hb1⟩; obtain ⟨z0, z1, hR1, hbo⟩ := HX.out _ hb1; have x0 := hR1.cell 0; have x1 := hR1.cell 1; have p0 := hR1.frozen 0; have p1 := hR1.frozen 1; have HR1 := hid hR1; have HBO := hid hbo; clear hR1 hbo))
    have hB := (HR1.out.setCell 0 (.int .i64 0)).setCell 1 (.slice none 0 0)
    exact bodyPost_ret (results_cell (b := w.heap.size + 1) (o := 0) rfl rfl hB.whole Try.underlying27 rfl (rc_info _ _)) rfl ⟨none, 0, rfl, .inl rfl, below_setCells (below_setCells HBO.out (by omega) 0 [.int .i64 0]) (by omega) 1 [.slice none 0 0]⟩
set_option maxRecDepth 20000 in
set_option maxHeartbeats 1600000 in
theorem refFirst_any (i : Int) (a : Option Addr) (c : Nat) (L : List field.Fd) (w : World) (h : field.Fds w a L) (hL : L.length ≤ 40) :
    Calls Try.prog 9 #[.agg #[.int .i64 i, .slice a L.length c]] w (RecAs i (firsts L) w) := by
  have HX := hid (WMR.all i a L c w)
  have hw := (WMR.all i a L c w _ (Below.refl _ _)).2.2.2
  have HF := hid (h.below hw)
  obtain ⟨w1, hw1⟩ : ∃ x, Hid (WMR i a L c w = x) := ⟨_, hid rfl⟩
  rw [hw1.out] at HX HF
  obtain ⟨z0, z1, hR1, hbo⟩ := HX.out w1 (Below.refl _ _)
  have hsz0 : w.heap.size < w1.heap.size := (by have := hR1.lt; omega)
  unfold RecAs
  unfold WMR at hw1
  clear h hw
  go_enter Try.func9, Try.ntmps9
  go_wp2
  rw [hw1.out]
  have HR1 := hid hR1
  have HBO := hid hbo
  have HS2 := hid (RS.start w1 i)
  have HSZ : Hid (w.heap.size + 1 < w1.heap.size) := hid hR1.lt
  have hF : Hid (w.heap.size + 1 + 1 = w1.heap.size) := hid (by rw [← hw1.out]; simp)
  obtain ⟨F, hF1⟩ : ∃ F, Hid (w1.heap.size = F) := ⟨_, hid rfl⟩
  rw [hF.out]
  rw [hF1.out] at HS2 HSZ ⊢
  clear hR1 hbo z0 z1 hsz0 hF
  go_loopw [4] (fun m wr => ∃ k : Nat, k ≤ L.length ∧ m = .int .i64 (k : Int) ∧ Hid (∃ u, RS i w1 F (firsts (L.take k)) k u wr)) (fun m _ => L.length - (intOf m).toNat)
  case atStart => exact ⟨0, Nat.zero_le _, rfl, hid ⟨_, HS2.out⟩⟩
  case round =>
    obtain ⟨k, hk, rfl, HS⟩ := hrel
    obtain ⟨u, hS⟩ := HS.out
    obtain ⟨ua, uc, rfl, _⟩ := ownsRow_slice hS.row
    have hbr := hS.low
    obtain ⟨z0, z1, hRr, hbor⟩ := HX.out _ hbr
    by_cases hlt : k < L.length
    · obtain ⟨g, off, p, rfl, hbl, hp, c0, c1, c2, c3, c4⟩ := field_at HF.out (Below.refl _ _) hlt
      have i1 : (k : Int) < L.length := by omega
      have HN := hid (firsts_succ hp)
      have cl := fun W => refLeast_any p W
      have HRG := hid (range5 c0 c1 c2 c3 c4)
      have HBL := hid hbl
      clear hp HS HS2 hbr c0 c1 c2 c3 c4 hRr hbor hbl
      generalize firsts (L.take k) = V at *
      have HS := hid (hS.later (w' := wr.drew) (below_drewN (Below.refl _ _) 1))
      clear hS
      go_wp2
      refine plan.regionS (S := fun w' => Below w1.heap.size w1 w') (by kernel_rfl) ?_
      have hS := HS.out
      refine plan.freeS 0 _ (.pointer (some ⟨F, 1, none⟩)) rfl (by kernel_rfl) (by kernel_rfl) (by kernel_rfl) (by kernel_rfl) (fun w' => (by kernel_rfl)) hS.low ?_
      refine plan.freeS 2 _ (.pointer (some ⟨w.heap.size, 1, none⟩)) rfl (by kernel_rfl) (by kernel_rfl) (by kernel_rfl) (by kernel_rfl) (fun w' => (by kernel_rfl)) hS.low ?_
      refine plan.firstS 3 _ (.slice (some ⟨g, off, none⟩) L.length c) rfl (by kernel_rfl) (by kernel_rfl) (by kernel_rfl) (by kernel_rfl) (fun w' hw' => exec_cell_slice' (ad := ⟨w.heap.size, 1, none⟩) rfl (by kernel_rfl) (HX.out w' hw').2.1 Try.isAgg22) hS.low ?_
      refine plan.freeS 4 _ (.int .i64 (k : Int)) rfl (by kernel_rfl) (by kernel_rfl) (by kernel_rfl) (by kernel_rfl) (fun w' => (by kernel_rfl)) hS.low ?_
      refine plan.freeS 5 _ (.pointer (some ⟨g, off + k * 5, none⟩)) rfl (by kernel_rfl) (by kernel_rfl) (by kernel_rfl) (by kernel_rfl) (fun w' => exec_indexF (b := g) (off := off) (len := L.length) (cap := c) (i := k) rfl (by kernel_rfl) (by kernel_rfl) hlt) hS.low ?_
      refine plan.firstS 6 _ (.agg #[.int .i64 p.id, .int .i64 p.kind, .int .i64 p.lo, .int .i64 p.hi, .int .i64 p.most]) rfl (by kernel_rfl) (by kernel_rfl) (by kernel_rfl) (by kernel_rfl) (fun w' hw' => exec_load_at (b := g) (off := off + k * 5) rfl (by kernel_rfl) (schema.range_later HRG.out hw' HBL.out) Try.underlying46 rfl info_fd.out) hS.low ?_
      refine plan.toLS 3 (fun x y z => #[true, x, true, true, true, true, true, y, z, false, false, false]) rfl (by kernel_rfl) ?_
      refine plan.lateS 1 7 8 16 22 23 (by decide) (by decide) _ _ _ (fun x y z => #[true, x, true, true, true, true, true, y, z, false, false, false]) rfl rfl rfl rfl rfl rfl rfl rfl rfl (by intro y z; cases y <;> cases z <;> rfl) (by intro x; cases x <;> rfl) (by intro x; cases x <;> rfl)
        (by kernel_rfl) (by kernel_rfl) (by kernel_rfl) (by kernel_rfl) (by kernel_rfl) (.slice ua k uc) 22 #[.agg #[.int .i64 p.id, .int .i64 p.kind, .int .i64 p.lo, .int .i64 p.hi, .int .i64 p.most]]
        (fun v w' => v = .agg #[.int .i64 p.least, .string ⟨#[]⟩] ∧ RS i w1 F V k (.slice ua k uc) w') (fun v w' => .slice (some ⟨w'.heap.size, 0, none⟩) 1 1) (fun v w' => w'.alloc (.cells #[.int .i64 p.least, .string ⟨#[]⟩] 48))
        (exec_cell_slice' (ad := ⟨F, 1, none⟩) rfl (by kernel_rfl) (hS.f.cell 1) Try.isAgg25)
        (fun v w' hM => exec_cell_slice' (ad := ⟨F, 1, none⟩) rfl (by kernel_rfl) (hM.2.f.cell 1) Try.isAgg25)
        (fun v w' hM => exec_cell_slice' (ad := ⟨F, 1, none⟩) rfl (by kernel_rfl) ((hM.2.f.alloc _).cell 1) Try.isAgg25)
        (by kernel_rfl) (by kernel_rfl) ((cl _).mono ?_) (fun v w' hM => by obtain ⟨rfl, _⟩ := hM; kernel_rfl) (fun v w' hM => by obtain ⟨rfl, _⟩ := hM; kernel_rfl) hS.low (fun v w' hM => hM.2.low) (fun v w' hM => (hM.2.later (newB w' _)).low) ?_
      · rintro e w3 ⟨rfl, hb3⟩
        exact ⟨_, rfl, rfl, hS.later hb3⟩
      · rintro v w3 ⟨rfl, hS3⟩
        have hS4 := hS3.later (newB w3 (.cells #[.int .i64 p.least, .string ⟨#[]⟩] 48))
        refine plan.oneES 9 _ (fun q w5 => (w5.ownsRow (F + 1) 48 2 q (k + 1) (vaV (V ++ [⟨p.least, ⟨#[]⟩⟩])) ∧ (w3.alloc (.cells #[.int .i64 p.least, .string ⟨#[]⟩] 48)).grownBy w5 (Value.slice ua k uc).ownBlock) ∧ Below w1.heap.size w1 w5) rfl rfl (by kernel_rfl)
          (exec_push_vaL (g := w3.heap.size) rfl (by kernel_rfl) (by kernel_rfl) hS4.row (Block.new w3 48 (vaC ⟨p.least, ⟨#[]⟩⟩)) (by omega) hS4.f.lt hS4.low (by have := hS4.at'; omega)) (fun q w5 h5 => h5.2) ?_
        rintro q w5 ⟨⟨ho5, hg5⟩, hX5⟩
        have hF5 := hS4.held hg5
        have hS6 := hS4.push hg5 ho5
        obtain ⟨qa, qc, rfl, _⟩ := ownsRow_slice ho5
        refine plan.oneS (w1 := w5) 10 _ (.pointer (some ⟨F, 1, none⟩)) rfl rfl (by kernel_rfl) (by kernel_rfl) hX5 ?_
        refine plan.lastS (w1 := w5.setCell ⟨F, 1, none⟩ (.slice qa (k + 1) qc)) 11 _ rfl rfl rfl (by kernel_rfl) (by kernel_rfl) (exec_put_va (ad := ⟨F, 1, none⟩) rfl (by kernel_rfl) (by kernel_rfl) (hF5.cell 1) (hF5.frozen 1)) hS6.low ?_
        have HS6 := hid hS6
        clear hS6 hF5 ho5 hg5 hS4 hS3 hS hX5
        walk_nrm
        go_wp2
        exact ⟨⟨k + 1, by omega, by go_num, hid ⟨_, by rw [HN.out]; exact HS6.out⟩⟩, by simp [intOf]; omega⟩
    · obtain rfl : k = L.length := by omega
      have hR := HR1.out.later hS.low
      have x0 := hR.cell 0
      have x1 := hR.cell 1
      have p0 := hR.frozen 0
      have p1 := hR.frozen 1
      have y0 := hS.f.cell 0
      have y1 := hS.f.cell 1
      have HS3 := hid hS
      have HR3 := hid hR
      have HB3 := hid (HBO.out.trans (hS.low.mono HBO.out.size))
      clear HS hS HS2 hR hbr hRr hbor
      go_wp2
      obtain ⟨d1, d2, d3⟩ := HS3.out.done HR3.out HSZ.out (by omega) HB3.out
      rw [List.take_of_length_le (Nat.le_refl _)] at d1 d2
      exact bodyPost_ret (results_cell (b := w.heap.size + 1) (o := 0) rfl rfl d1.whole Try.underlying27 rfl (rc_info _ _)) rfl ⟨_, _, rfl, d2, d3⟩
end Go.Proofs.Ytegeeobfamjjpaa.record
/- Contracts of layNumber and takeNumber of layer 12 (field). No condition but at most six bytes. -/
namespace Go.Proofs.Ytegeeobfamjjpaa.field
open Go.RowKit
set_option linter.unusedVariables false

theorem bits_or_i64_nat (a b : Nat) (ha : a < 9223372036854775808) (hb : b < 9223372036854775808) :
    bits .or .i64 (a : Int) (b : Int) = ((a ||| b : Nat) : Int) := by
  have hx : a ||| b < 2 ^ 63 := Nat.or_lt_two_pow (by omega) (by omega)
  have h1 : (BitVec.ofInt 64 (a : Int)).toNat = a := by
    rw [BitVec.ofInt_natCast, BitVec.toNat_ofNat]; exact Nat.mod_eq_of_lt (by omega)
  have h2 : (BitVec.ofInt 64 (b : Int)).toNat = b := by
    rw [BitVec.ofInt_natCast, BitVec.toNat_ofNat]; exact Nat.mod_eq_of_lt (by omega)
  show IntKind.i64.wrap ((BitVec.ofInt 64 (a : Int) ||| BitVec.ofInt 64 (b : Int)).toNat : Int) = _
  rw [BitVec.toNat_or, h1, h2, IntWalk.i64_in _ (by omega)]
theorem or_low (a b : Nat) (hb : b < 256) (ha : a < 36028797018963968) : bits .or .i64 ((a : Int) * 256) (b : Int) = ((256 * a + b : Nat) : Int) := by
  have e : (a : Int) * 256 = ((2 ^ 8 * a : Nat) : Int) := by omega
  rw [e, bits_or_i64_nat (2 ^ 8 * a) b (by omega) (by omega), ← Nat.two_pow_add_eq_or_of_lt (by omega)]
theorem num_take_succ (xs : List Nat) (k : Nat) (hk : k < xs.length) : num (xs.take (k + 1)) = 256 * num (xs.take k) + xs.getD k 0 := by
  rw [List.take_add_one, List.getElem?_eq_getElem hk]
  simp only [Option.toList, num_snoc]
  rw [List.getD_eq_getElem?_getD, List.getElem?_eq_getElem hk]; rfl
theorem takeNumber_any (a : Option Addr) (len cap : Nat) (xs : List Nat) (w : World) (hr : Reads .u8 w a len xs) (hx : ∀ x ∈ xs, x < 256) (hl : len ≤ 6) : Calls Try.prog 47 #[.slice a len cap] w (Quiet (.int .i64 (num xs : Int)) w) := by
  have hlen := hr.1
  have hall : num xs = num (xs.take len) := by rw [List.take_of_length_le (by omega)]
  rw [hall]
  clear hall
  go_enter Try.func47, Try.ntmps47
  go_wp2
  go_loopw [3, 8] (fun n i wr => ∃ (k : Nat), n = .int .i64 (num (xs.take k) : Int) ∧ i = .int .i64 (k : Int) ∧ k ≤ len ∧ w = wr) (fun n i wr => len - (intOf i).toNat)
  case atStart => exact ⟨0, by simp [num], rfl, Nat.zero_le _, rfl⟩
  case round =>
    obtain ⟨k, rfl, rfl, hk, rfl⟩ := hrel
    by_cases hlt : k < len
    · obtain ⟨b, off, rfl, hbb, hc⟩ := hr.at (i := k) hlt
      have hck := hc k hlt
      have hn1 := num_lt k (xs.take k) (by rw [List.length_take]; omega) (fun x hm => hx x (List.mem_of_mem_take hm))
      have hp : (256 : Nat) ^ k ≤ 256 ^ 5 := Nat.pow_le_pow_right (by omega) (by omega)
      have hs := num_take_succ xs k (by omega)
      have hxk : xs.getD k 0 < 256 := by
        rw [List.getD_eq_getElem?_getD, List.getElem?_eq_getElem (by omega)]
        exact hx _ (List.getElem_mem (by omega))
      generalize xs.getD k 0 = X at *
      generalize hN : num (xs.take k) = N at *
      have hN5 : N < 1099511627776 := by have : (256 : Nat) ^ 5 = 1099511627776 := by decide
                                         omega
      have ho := or_low N X hxk (by omega)
      rw [← hs] at ho
      clear hs hp hn1 hc
      have HO := hid ho
      clear ho
      go_wp2
      go_round
      · exact ⟨k + 1, by rw [HO.out], by simp, by omega, trivial⟩
      · simp [intOf]; omega
    · obtain rfl : k = len := by omega
      clear hlt
      go_wp2
      go_ret
      exact ⟨rfl, 0, rfl⟩

/-- the first i of the last bytes are laid -/
def part (size n i : Nat) : List Nat := (List.range size).map fun p => if size - i ≤ p then n / 256 ^ (size - 1 - p) % 256 else 0
theorem part_zero (size n : Nat) : part size n 0 = List.replicate size 0 := by
  apply List.ext_getElem?
  intro j
  unfold part
  by_cases hj : j < size
  · simp [hj]; intro h; omega
  · simp [hj]
theorem part_all (size n : Nat) : part size n size = digits size n := by
  unfold part digits
  apply List.map_congr_left
  intro p hp
  rw [if_pos (by omega)]
theorem part_set (size n i : Nat) (hi : i < size) : (part size n i).set (size - 1 - i) (n / 256 ^ i % 256) = part size n (i + 1) := by
  apply List.ext_getElem?
  intro j
  unfold part
  rw [List.getElem?_set]
  by_cases hj : j < size
  · by_cases h : size - 1 - i = j
    · subst h
      simp [hj]
      rw [if_pos (by omega), show size - 1 - (size - 1 - i) = i by omega]
    · rw [if_neg h, List.getElem?_map, List.getElem?_map, List.getElem?_range hj]
      simp only [Option.map_some]
      by_cases hq : size - i ≤ j
      · rw [if_pos hq, if_pos (by omega)]
      · rw [if_neg hq, if_neg (by omega)]
  · rw [if_neg (by omega)]; simp [hj]
def u8v (xs : List Nat) : List Value := xs.map fun x : Nat => Value.int .u8 (x : Int)
theorem u8v_length (xs : List Nat) : (u8v xs).length = xs.length := by simp [u8v]
theorem u8v_get (xs : List Nat) (i : Nat) (h : i < xs.length) : (u8v xs)[i]? = some (.int .u8 ((xs.getD i 0 : Nat) : Int)) := by
  simp only [u8v, List.getElem?_map, List.getD_eq_getElem?_getD, List.getElem?_eq_getElem h]; rfl
theorem u8v_set (xs : List Nat) (i x : Nat) : (u8v xs).set i (.int .u8 (x : Int)) = u8v (xs.set i x) := by simp [u8v, List.map_set]
theorem u8_info : (Try.prog.info? 5).map (fun i => (i.zero, i.size, i.bytes)) = some (some (.int .u8 0), 1, 1) := by kernel_rfl
theorem layNumber_any (n size : Nat) (hn : n < 281474976710656) (hs : size ≤ 6) (w : World) : Calls Try.prog 44 #[.int .i64 (n : Int), .int .i64 (size : Int)] w fun e w' => ∃ v, e = .returned v ∧ w'.ownsRow w.heap.size 5 1 v size (u8v (digits size n)) ∧ Below w.heap.size w w' := by
  obtain ⟨i0, hi, hz0, hz1, hz2⟩ := info_parts u8_info
  go_enter Try.func44, Try.ntmps44
  go_wp2_with (at_make; refine wpList_make_full _ rfl _ _ 34 rfl w.heap.size 5 i0 (.int .u8 0) 1 Try.underlying34 hi hz0 hz1 _ _ _ _ size rfl rfl rfl rfl (by rw [hz2]; omega) (by unfold maxLen; omega) (Nat.le_refl _) ?_)
  intro w1 hown hgrow
  go_wp2
  go_loopw [11] (fun i wr => ∃ k : Nat, k ≤ size ∧ i = .int .i64 k ∧ wr.ownsRow w.heap.size 5 1 (.slice (some ⟨w.heap.size, 0, none⟩) size size) size (u8v (part size n k)) ∧ Below w.heap.size w wr)
    (fun i _ => size - (intOf i).toNat)
  case atStart =>
    refine ⟨0, Nat.zero_le _, rfl, ?_, Below.grown (Below.refl _ _) hgrow (Nat.le_refl _) (fun k h => by cases h)⟩
    rw [part_zero, u8v, List.map_replicate]
    rw [toList_madeCells_one] at hown
    exact hown
  case round =>
    obtain ⟨k, hk, rfl, ho, hb⟩ := hrel
    by_cases hlt : k < size
    · have f2 := ho.frozenAt (size - 1 - k)
      have c2 : wr.cell? ⟨w.heap.size, size - 1 - k, none⟩ = some (.int .u8 0) := by
        rw [ho.cellAt _ (by omega)]
        unfold u8v part
        rw [List.getElem?_map, List.getElem?_map, List.getElem?_range (by omega)]
        simp
        omega
      have HO := hid ho
      clear ho
      obtain ⟨D, hD⟩ : ∃ D : Nat, Hid (size - 1 - k = D) := ⟨_, rfl⟩
      rw [hD.out] at f2 c2
      obtain ⟨x, hx⟩ : ∃ x : Nat, Hid (n / 256 ^ k % 256 = x) := ⟨_, rfl⟩
      have hx256 : x < 256 := by rw [← hx.out]; exact Nat.mod_lt _ (by omega)
      have hDs : size = D + 1 + k := by have := hD.out; omega
      subst hDs
      have e1 : ((D + 1 + k : Nat) : Int) - 1 - (k : Int) = (D : Int) := by omega
      go_wp2
      have e2 : (n : Int) / 2 ^ (8 * k) % 256 = ((n / 256 ^ k % 256 : Nat) : Int) := by
        have h : (256 : Nat) ^ k = 2 ^ (8 * k) := by rw [Nat.pow_mul]
        rw [h]
        simp
      rw [e2]
      have hst := HO.out.stored D (.int .u8 ((n / 256 ^ k % 256 : Nat) : Int))
      rw [u8v_set] at hst
      have hps := part_set (D + 1 + k) n k (by omega)
      rw [hD.out] at hps
      rw [hps] at hst
      exact ⟨⟨k + 1, by omega, by simp, hst.1, hb.grown hst.2 (by simp [hb.size]) (fun j h => by cases h; exact Nat.le_refl _)⟩, by simp [intOf]; omega⟩
    · obtain rfl : k = size := by omega
      go_wp2
      go_ret
      rw [part_all] at ho
      exact ⟨_, rfl, ho, hb⟩
end Go.Proofs.Ytegeeobfamjjpaa.field
/- Parts of a slice of bytes: where they lie and what they read as. No condition. -/
namespace Go.Proofs.Ytegeeobfamjjpaa.cut
open Go.RowKit
set_option linter.unusedVariables false

/-- where a part of a slice from k on lies -/
def shift (a : Option Addr) (k cap : Nat) : Option Addr := if cap = k then a else a.map (·.add k)
theorem cut_from (W : World) (a : Option Addr) (len cap k : Nat) (h : k ≤ len) : (Instr.slice 34 (.slice a len cap) (some (.int .i64 (k : Int))) none none).run Try.prog W = .ok (.slice (shift a k cap) (len - k) (cap - k)) W := by
  rw [run_slice_l W 34 a len cap (by kernel_rfl) .i64 k (by omega) (by omega)]
  rw [show (sizeOf (Try.prog.elem 34)).run Try.prog W = .ok 1 W by kernel_rfl]
  simp [Result.andThen, sliced, shift]
theorem cut_to (W : World) (a : Option Addr) (len cap k : Nat) (h : k ≤ cap) : (Instr.slice 34 (.slice a len cap) none (some (.int .i64 (k : Int))) none).run Try.prog W = .ok (.slice (shift a 0 cap) k cap) W := by
  rw [run_slice_h W 34 a len cap (by kernel_rfl) .i64 k (by omega) (by omega)]
  rw [show (sizeOf (Try.prog.elem 34)).run Try.prog W = .ok 1 W by kernel_rfl]
  simp [Result.andThen, sliced, shift]
theorem cut_both (W : World) (a : Option Addr) (len cap j k : Nat) (hj : j ≤ k) (h : k ≤ cap) : (Instr.slice 34 (.slice a len cap) (some (.int .i64 (j : Int))) (some (.int .i64 (k : Int))) none).run Try.prog W = .ok (.slice (shift a j cap) (k - j) (cap - j)) W := by
  rw [run_slice_lh W 34 a len cap (by kernel_rfl) .i64 .i64 j k (by omega) (by omega) (by omega)]
  rw [show (sizeOf (Try.prog.elem 34)).run Try.prog W = .ok 1 W by kernel_rfl]
  simp [Result.andThen, sliced, shift]
theorem reads_shift {w : World} {a : Option Addr} {len cap k : Nat} {xs : List Nat} (h : Reads .u8 w a len xs) (hk : k ≤ len) (hc : len ≤ cap) : Reads .u8 w (shift a k cap) (len - k) (xs.drop k) := by
  refine ⟨by rw [List.length_drop, h.1], ?_⟩
  by_cases h0 : len - k = 0
  · exact .inl h0
  · obtain ⟨b, off, rfl, hb, hcell⟩ := h.at (i := 0) (by omega)
    refine .inr ⟨b, off + k, ?_, hb, fun i hi => ?_⟩
    · rw [shift, if_neg (by omega), Option.map_some, Addr.add_lit]
    · have := hcell (k + i) (by omega)
      rw [Nat.add_assoc, this, List.getD_eq_getElem?_getD, List.getD_eq_getElem?_getD, List.getElem?_drop]
theorem reads_take {w : World} {a : Option Addr} {len cap k : Nat} {xs : List Nat} (h : Reads .u8 w a len xs) (hk : k ≤ len) : Reads .u8 w (shift a 0 cap) k (xs.take k) := by
  refine ⟨by rw [List.length_take, h.1]; omega, ?_⟩
  by_cases h0 : k = 0
  · exact .inl h0
  · obtain ⟨b, off, rfl, hb, hcell⟩ := h.at (i := 0) (by omega)
    refine .inr ⟨b, off, ?_, hb, fun i hi => ?_⟩
    · unfold shift; split <;> rfl
    · have := hcell i (by omega)
      rw [this, List.getD_eq_getElem?_getD, List.getD_eq_getElem?_getD, List.getElem?_take, if_pos hi]
theorem reads_pre {k : IntKind} {w : World} {a : Option Addr} {len n : Nat} {xs : List Nat} (h : Reads k w a len xs) (hn : n ≤ len) : Reads k w a n (xs.take n) := by
  refine ⟨by rw [List.length_take, h.1]; omega, ?_⟩
  by_cases h0 : n = 0
  · exact .inl h0
  · obtain ⟨b, off, rfl, hb, hcell⟩ := h.at (i := 0) (by omega)
    refine .inr ⟨b, off, rfl, hb, fun i hi => ?_⟩
    have := hcell i (by omega)
    rw [this, List.getD_eq_getElem?_getD, List.getD_eq_getElem?_getD, List.getElem?_take, if_pos hi]
end Go.Proofs.Ytegeeobfamjjpaa.cut
/- Contract of takeText of layer 12 (field). No condition but a right field of texts. -/
namespace Go.Proofs.Ytegeeobfamjjpaa.field
open Go.RowKit Go.Proofs.Ytegeeobfamjjpaa.cut
set_option linter.unusedVariables false

/-- the call answers what Take answers -/
def TakesAs (T : Tk) (w : World) (e : Ending) (w' : World) : Prop := e = .returned (.tuple #[.agg #[.int .i64 T.n, .string (strOf T.s)], .int .i64 (T.c : Int), .int .i64 T.e]) ∧ Below w.heap.size w w'
theorem takeText_any (f : Fd) (h : f.Right) (h4 : f.kind = 4) (a : Option Addr) (len cap : Nat) (xs : List Nat) (w : World) (hr : Reads .u8 w a len xs) (hx : ∀ x ∈ xs, x < 256) (hc : len ≤ cap) (hm : cap ≤ 9223372036854775807) :
    Calls Try.prog 46 #[.agg #[.int .i64 f.id, .int .i64 f.kind, .int .i64 f.lo, .int .i64 f.hi, .int .i64 f.most], .slice a len cap] w (TakesAs (f.take xs) w) := by
  have HW := hid (W2.all f w (W2 f w) (Below.refl _ _))
  have hlen := hr.1
  have ht : f.take xs = if xs.length < 1 then ⟨0, [], 0, 5⟩ else if f.most < (xs.getD 0 0 : Nat) then ⟨0, [], 0, 16⟩ else if xs.length < 1 + xs.getD 0 0 then ⟨0, [], 0, 5⟩ else ⟨0, (xs.drop 1).take (xs.getD 0 0), 1 + xs.getD 0 0, 0⟩ := by
    unfold Fd.take
    rw [if_neg (show ¬¬ f.Right from fun k => k h), if_pos h4]
  rw [ht]
  have hmost : 0 ≤ f.most ∧ f.most ≤ 32 := by unfold Fd.Right at h; omega
  clear ht h h4
  rw [hlen]
  unfold TakesAs
  unfold W2 at HW
  by_cases h0 : len < 1
  · rw [if_pos h0]
    obtain rfl : len = 0 := by omega
    rw [show strOf ([] : List Nat) = ⟨#[]⟩ from rfl]
    clear hx h0
    go_enter Try.func46, Try.ntmps46
    go_wp2
    go_returns
    exact ⟨rfl, HW.out.2.2⟩
  · rw [if_neg h0]
    obtain ⟨b, off, rfl, hbb, hcell⟩ := hr.at (i := 0) (by omega)
    have hk0 := hcell 0 (by omega)
    rw [Nat.add_zero] at hk0
    have hx0 : xs.getD 0 0 < 256 := by
      rw [List.getD_eq_getElem?_getD, List.getElem?_eq_getElem (by omega)]
      exact hx _ (List.getElem_mem (by omega))
    obtain ⟨X, hX⟩ : ∃ X, Hid (xs.getD 0 0 = X) := ⟨_, rfl⟩
    rw [hX.out] at hk0 hx0 ⊢
    obtain ⟨L, rfl⟩ : ∃ L, len = L + 1 := ⟨len - 1, by omega⟩
    have hcut : ∀ W : World, (Instr.slice 34 (.slice (some ⟨b, off, none⟩) (L + 1) cap) (some (.int .i64 1)) none none).run Try.prog W = .ok (.slice (shift (some ⟨b, off, none⟩) 1 cap) L (cap - 1)) W := fun W => cut_from W _ (L + 1) cap 1 (by omega)
    have hrs : Reads .u8 w (shift (some ⟨b, off, none⟩) 1 cap) L (xs.drop 1) := reads_shift (k := 1) hr (by omega) hc
    generalize shift (some ⟨b, off, none⟩) 1 cap = A1 at *
    have hlp : 0 < L + 1 := by omega
    have HX := hid hx
    have HC := hid hcell
    have HR := hid hr
    clear hx hcell h0 hr
    by_cases h1 : f.most < (X : Int)
    · rw [if_pos h1]
      rw [show strOf ([] : List Nat) = ⟨#[]⟩ from rfl]
      go_enter Try.func46, Try.ntmps46
      go_wp2
      go_quiet (fail)
      go_wp2
      go_returns
      exact ⟨rfl, ((below_drewN HW.out.2.2 nq).setCell (p := ⟨w.heap.size + 1, 0, none⟩) (Nat.le_succ _) _).setCell (p := ⟨w.heap.size + 1, 1, none⟩) (Nat.le_succ _) _⟩
    · rw [if_neg h1]
      have hX32 : X ≤ 32 := by omega
      by_cases h2 : L + 1 < 1 + X
      · rw [if_pos h2]
        rw [show strOf ([] : List Nat) = ⟨#[]⟩ from rfl]
        have h3 : (X : Int) > (L : Int) := by omega
        clear h2
        go_enter Try.func46, Try.ntmps46
        go_wp2
        go_quiet (fail)
        go_wp2
        go_returns
        exact ⟨rfl, ((below_drewN HW.out.2.2 nq).setCell (p := ⟨w.heap.size + 1, 0, none⟩) (Nat.le_succ _) _).setCell (p := ⟨w.heap.size + 1, 1, none⟩) (Nat.le_succ _) _⟩
      · rw [if_neg h2]
        have h3 : ¬ (X : Int) > (L : Int) := by omega
        have hcut2 : ∀ W : World, (Instr.slice 34 (.slice A1 L (cap - 1)) none (some (.int .i64 (X : Int))) none).run Try.prog W = .ok (.slice (shift A1 0 (cap - 1)) X (cap - 1)) W := fun W => cut_to W _ L (cap - 1) X (by omega)
        have hr2 := reads_take (cap := cap - 1) hrs (k := X) (by omega)
        have hbw := HW.out.2.2
        have hcv : ∀ n : Nat, (convert 34 9 (.slice (shift A1 0 (cap - 1)) X (cap - 1))).run Try.prog (((w.alloc (.cells #[.int .i64 f.id, .int .i64 f.kind, .int .i64 f.lo, .int .i64 f.hi, .int .i64 f.most] 46)).alloc (.cells #[.int .i64 0, .string ⟨#[]⟩] 48)).drewN n) = .ok (.string (strOf ((xs.drop 1).take X))) (((w.alloc (.cells #[.int .i64 f.id, .int .i64 f.kind, .int .i64 f.lo, .int .i64 f.hi, .int .i64 f.most] 46)).alloc (.cells #[.int .i64 0, .string ⟨#[]⟩] 48)).drewN n) :=
          fun n => Reads.str (P := Try.prog) (hr2.below (below_drewN hbw n)) 34 5 Try.underlying34 Try.underlying5 (cap - 1) 9 Try.underlying9
        clear h2 hr2 hbw
        generalize shift A1 0 (cap - 1) = A2 at *
        generalize strOf ((xs.drop 1).take X) = Z at *
        go_enter Try.func46, Try.ntmps46
        go_wp2
        go_quiet (fail)
        go_wp2
        go_returns
        exact ⟨by rw [show ((1 + X : Nat) : Int) = 1 + (X : Int) by omega], ((below_drewN HW.out.2.2 nq).setCell (p := ⟨w.heap.size + 1, 0, none⟩) (Nat.le_succ _) _).setCell (p := ⟨w.heap.size + 1, 1, none⟩) (Nat.le_succ _) _⟩
end Go.Proofs.Ytegeeobfamjjpaa.field
