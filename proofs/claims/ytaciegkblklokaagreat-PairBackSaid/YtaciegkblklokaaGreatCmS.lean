/- Contracts and lemmas that the claims of this seat share: TypingRefTypes, SchemaRefAt. Each says its own conditions. -/
import Derived.Test.YtaciegkblklokaaGreatCmH
import Derived.Test.YtaciegkblklokaaGreatCmL
import Derived.Test.YtaciegkblklokaaGreatCmR
import Derived.Test.YtaciegkblklokaaGreatCmG
import Derived.Test.YtaciegkblklokaaGreatCmF
import Derived.Conc.WalkWords
set_option linter.unusedSimpArgs false
set_option linter.unusedVariables false
namespace Go.Proofs.YtaciegkblklokaaGreat.typing
open Go.RowKit Go.Proofs.YtaciegkblklokaaGreat.schema
open Go.Proofs.YtaciegkblklokaaGreat.field (Gives newB gives_from)
open Go.Proofs.YtaciegkblklokaaGreat.step (exec_eql_int)
def TypesAs (T : List field.Fd × Bool) (w : World) (e : Ending) (w' : World) : Prop :=
 Below w.heap.size w w' ∧ ∃ g, e = .returned (.tuple #[.slice g T.1.length T.1.length, .bool T.2]) ∧ ((T.1 = [] ∧ g = none) ∨ ∃ b, w.heap.size ≤ b ∧ g = some ⟨b, 0, none⟩ ∧ Block w' b 26 (fdV T.1))
theorem TypesAs.row {T : List field.Fd × Bool} {w w' : World} {b : Nat} (hb : Below w.heap.size w w') (hl : w.heap.size ≤ b) (hB : Block w' b 26 (fdV T.1)) : TypesAs T w (.returned (.tuple #[.slice (some ⟨b, 0, none⟩) T.1.length T.1.length, .bool T.2])) w' :=
 ⟨hb, _, rfl, .inr ⟨b, hl, rfl, hB⟩⟩
theorem exec_quoI {o : Oper} {a : Act} {w : World} {x y : Operand} {t : TypeId} {n m : Int} (ho : o.op = .binOp .quo 3 x y t) (h0 : 2 ≤ m ∧ m ≤ 1048576) (hn : -1099511627776 ≤ n ∧ n ≤ 1099511627776) (hx : a.eval x = .int .i64 n := by kernel_rfl) (hy : a.eval y = .int .i64 m := by kernel_rfl) :
  (execOp a.eval o).run Tryz.prog w = .ok (.value (.int .i64 (Int.tdiv n m))) w := by
 have h1 : ¬ m = 0 := by omega
 have h2 : IntKind.i64.wrap (Int.tdiv n m) = Int.tdiv n m := IntWalk.i64_in _ (by
  have : (Int.tdiv n m).natAbs ≤ n.natAbs := by rw [Int.natAbs_tdiv]; exact Nat.div_le_self _ _
  omega)
 unfold execOp
 rw [ho]
 simp only [hx, hy]
 go_simp
 try simp [h1, h2]
theorem newB2 (f : field.Fd) (s : step.Sp) (ta : Option Addr) (tc : Nat) (la : Option Addr) (lc : Nat) (w : World) : Below w.heap.size w (((w.alloc (.cells (zF f) 26))).alloc (.cells (zP s ta tc la lc) 32)) := by
 have h1 := newB w (.cells (zF f) 26)
 exact h1.alloc h1.size _
set_option maxRecDepth 20000 in
set_option maxHeartbeats 3200000 in
theorem refTypes_any (f : field.Fd) (s : step.Sp) (ta : Option Addr) (tc : Nat) (la : Option Addr) (lc : Nat) (w : World) (hb4 : s.op = 4 → Bd ⟨s, 0, [], false, 0, f⟩) (hb6 : s.op = 6 → Bq ⟨s, 0, [], false, 0, f⟩) :
  Calls Tryz.prog 46 #[zF f, zP s ta tc la lc] w (TypesAs (types f s) w) := by
 have hb0 : Below w.heap.size w (((w.alloc (.cells (zF f) 26))).alloc (.cells (zP s ta tc la lc) 32)) := by
  have h1 := newB w (.cells (zF f) 26)
  exact h1.alloc h1.size _
 have hA : Block (((w.alloc (.cells (zF f) 26))).alloc (.cells (zP s ta tc la lc) 32)) w.heap.size 26 (zF f) := (Block.new w _ _).alloc _
 have hU : Block (((w.alloc (.cells (zF f) 26))).alloc (.cells (zP s ta tc la lc) 32)) (w.heap.size + 1) 32 (zP s ta tc la lc) := by
  have := Block.new ((w.alloc (.cells (zF f) 26))) 32 (zP s ta tc la lc)
  simpa using this
 obtain ⟨W0, hW0⟩ : ∃ x, x = (((w.alloc (.cells (zF f) 26))).alloc (.cells (zP s ta tc la lc) 32)) := ⟨_, rfl⟩
 obtain ⟨B1, hB1⟩ : ∃ x, x = W0.heap.size := ⟨_, rfl⟩
 have HX : Hid (∀ w', Below B1 W0 w' → Block w' w.heap.size 26 (zF f) ∧ Block w' (w.heap.size + 1) 32 (zP s ta tc la lc) ∧ Below w.heap.size w w') := hid (fun w' hb => by
  rw [hB1] at hb
  rw [← hW0] at hA hU hb0
  exact ⟨hA.later hb, hU.later hb, hb0.trans (hb.mono hb0.size)⟩)
 have HZ : Hid (∀ w', Below B1 W0 w' → B1 ≤ w'.heap.size) := hid (fun w' h => by rw [hB1]; rw [hB1] at h; exact h.size)
 have HS0 : Hid (w.heap.size + 2 ≤ B1) := hid (by rw [hB1, hW0]; simp)
 have HB1 := hid hB1
 have HW0 := hid hW0
 clear hA hU hb0 hB1 hW0
 unfold types
 by_cases h2 : s.op = 2
 ·have d2 := bt h2
  rw [if_pos h2]
  have cH := gives_from (field.refHas_any f s.v (((w.alloc (.cells (zF f) 26))).alloc (.cells (zP s ta tc la lc) 32))) (newB2 f s ta tc la lc w)
  unfold Gives at cH
  clear hb4 hb6 h2
  obtain ⟨r, hr⟩ : ∃ r : Bool, decide (f.Has s.v) = r := ⟨_, rfl⟩
  rw [hr] at cH ⊢
  clear hr
  go_enter Tryz.func46, Tryz.ntmps46
  go_wp2_with (go_at_call 33; ((with_reducible refine cH.mono ?_); rintro e w1 ⟨rfl, hb1⟩))
  go_ret2
  exact ⟨hb1, none, rfl, .inl ⟨rfl, rfl⟩⟩
 ·have d2 := bf h2
  rw [if_neg h2]
  by_cases h3 : s.op = 3
  ·have d3 := bt h3
   rw [if_pos h3]
   have cH := fun w' => field.refWider_any f s.f w'
   unfold Gives at cH
   clear hb4 hb6 h2 h3
   obtain ⟨r, hr⟩ : ∃ r : Bool, decide (f.Wider s.f) = r := ⟨_, rfl⟩
   rw [hr]
   simp only [hr] at cH
   clear hr
   go_enter Tryz.func46, Tryz.ntmps46
   go_wp2
   refine plan.regionS (S := fun w' => Below B1 W0 w') ?_
   have hS : Below B1 W0 ((((w.alloc (.cells (zF f) 26))).alloc (.cells (zP s ta tc la lc) 32)).drew) := by rw [HB1.out, HW0.out]; exact below_drewN (Below.refl _ _) 1
   generalize (((w.alloc (.cells (zF f) 26))).alloc (.cells (zP s ta tc la lc) 32)).drew = wd at *
   refine plan.firstS 0 _ (.pointer (some ⟨w.heap.size + 1, 7, none⟩)) rfl (fun w' hS' => (by kernel_rfl)) hS ?_
   refine plan.firstS 1 _ (zF s.f) rfl (fun w' hS' => exec_load_at (b := w.heap.size + 1) (off := 7) rfl (range5 ((HX.out _ hS').2.1.cell 7) ((HX.out _ hS').2.1.cell 8) ((HX.out _ hS').2.1.cell 9) ((HX.out _ hS').2.1.cell 10) ((HX.out _ hS').2.1.cell 11)) Tryz.underlying26 rfl info_fd.out) hS ?_
   refine plan.firstS 3 _ (zF f) rfl (fun w' hS' => exec_load_at (b := w.heap.size) (off := 0) rfl (HX.out _ hS').1.whole Tryz.underlying26 rfl info_fd.out) hS ?_
   refine plan.firstS 4 _ (.pointer (some ⟨w.heap.size + 1, 7, none⟩)) rfl (fun w' hS' => (by kernel_rfl)) hS ?_
   refine plan.firstS 5 _ (zF s.f) rfl (fun w' hS' => exec_load_at (b := w.heap.size + 1) (off := 7) rfl (range5 ((HX.out _ hS').2.1.cell 7) ((HX.out _ hS').2.1.cell 8) ((HX.out _ hS').2.1.cell 9) ((HX.out _ hS').2.1.cell 10) ((HX.out _ hS').2.1.cell 11)) Tryz.underlying26 rfl info_fd.out) hS ?_
   refine plan.pairS 2 6 23 27 _ _ 77 #[zF f, zF s.f] (.bool r) 26 (zF s.f) 1 B1 (by decide) (by decide) rfl rfl rfl rfl (fun g => (by kernel_rfl)) (fun w' => (by kernel_rfl)) (fun w' => (by kernel_rfl)) (fun w' => (by kernel_rfl)) (fun g w' => (by kernel_rfl)) (fun w' hS' => cH w') (fun w1 w2 h1 h2 => h1.trans (h2.mono (HZ.out _ h1))) (fun w' h1 => HZ.out _ h1) hS ?_
   intro g w2 hS hR hg
   refine plan.oneS (w1 := w2) 7 _ (.slice (some ⟨g, 0, none⟩) 1 1) rfl rfl hS ?_
   refine plan.oneS (w1 := w2) 8 _ (.bool r) rfl rfl hS ?_
   refine plan.doneS ?_
   walk_nrm
   go_wp2
   go_ret2
   have hz := HS0.out
   exact TypesAs.row (HX.out _ hS).2.2 (by omega) hR
  ·have d3 := bf h3
   rw [if_neg h3]
   by_cases h4 : s.op = 4
   ·have d4 := bt h4
    rw [if_pos h4]
    have hbd := hb4 h4
    obtain ⟨ha, hbb, hlo, hhi⟩ := hbd
    have q1 := mul_bd ha hlo
    have q2 := mul_bd ha hhi
    simp only at ha hbb hlo hhi q1 q2
    obtain ⟨L, hL⟩ : ∃ L : Int, low ⟨s, 0, [], false, 0, f⟩ = L := ⟨_, rfl⟩
    obtain ⟨M, hM⟩ : ∃ M : Int, high ⟨s, 0, [], false, 0, f⟩ = M := ⟨_, rfl⟩
    rw [hL, hM]
    unfold low at hL
    unfold high at hM
    unfold scA scB at hL hM
    simp only at hL hM
    obtain ⟨Q1, hQ1⟩ : ∃ Q1, s.a * f.lo = Q1 := ⟨_, rfl⟩
    obtain ⟨Q2, hQ2⟩ : ∃ Q2, s.a * f.hi = Q2 := ⟨_, rfl⟩
    rw [hQ1] at q1 hL hM
    rw [hQ2] at q2 hL hM
    obtain ⟨R1, hR1⟩ : ∃ R1, Q1 + s.b = R1 := ⟨_, rfl⟩
    obtain ⟨R2, hR2⟩ : ∃ R2, Q2 + s.b = R2 := ⟨_, rfl⟩
    rw [hR1, hR2] at hL hM
    have em : ∀ ts t W, (Builtin.min_ ts t #[.int .i64 R1, .int .i64 R2]).run Tryz.prog W = .ok (.int .i64 L) W := fun ts t W => by rw [run_min_int2, ← hL]
    have ex : ∀ ts t W, (Builtin.max_ ts t #[.int .i64 R1, .int .i64 R2]).run Tryz.prog W = .ok (.int .i64 M) W := fun ts t W => by rw [run_max_int2, ← hM]
    have w1 : IntKind.i64.wrap Q1 = Q1 := IntWalk.i64_in _ (by omega)
    have w2 : IntKind.i64.wrap Q2 = Q2 := IntWalk.i64_in _ (by omega)
    have w3 : IntKind.i64.wrap (Q1 + s.b) = R1 := by rw [IntWalk.i64_in _ (by omega), hR1]
    have w4 : IntKind.i64.wrap (Q2 + s.b) = R2 := by rw [IntWalk.i64_in _ (by omega), hR2]
    have cH := fun w' => field.refRight_any ⟨f.id, 1, L, M, 0⟩ w'
    unfold Gives at cH
    obtain ⟨r, hr⟩ : ∃ r : Bool, decide (field.Fd.Right ⟨f.id, 1, L, M, 0⟩) = r := ⟨_, rfl⟩
    simp only [hr] at cH
    have hbit : decide (f.kind = 1 ∧ field.Fd.Right ⟨f.id, 1, L, M, 0⟩) = (f.kind == 1 && r) := by rw [← hr]; by_cases hk : f.kind = 1 <;> simp [hk]
    rw [hbit]
    clear hr hbit hL hM hR1 hR2 q1 q2 ha hbb hlo hhi
    clear hb4 hb6 h2 h3 h4
    go_enter Tryz.func46, Tryz.ntmps46
    go_wp2
    go_quiet (fail)
    go_wp2
    by_cases hk : f.kind = 1
    ·have dk := bt hk
     clear hk
     refine plan.regionS (S := fun w' => Below B1 W0 w' ∧ Block w' (w.heap.size + 1 + 1) 26 [.int .i64 f.id, .int .i64 1, .int .i64 L, .int .i64 M, .int .i64 0]) ?_
     have hS : Below B1 W0 (((((((w.alloc (.cells (zF f) 26))).alloc (.cells (zP s ta tc la lc) 32)).drewN nq)).alloc (.cells #[.int .i64 f.id, .int .i64 1, .int .i64 L, .int .i64 M, .int .i64 0] 26)).drew) ∧ Block (((((((w.alloc (.cells (zF f) 26))).alloc (.cells (zP s ta tc la lc) 32)).drewN nq)).alloc (.cells #[.int .i64 f.id, .int .i64 1, .int .i64 L, .int .i64 M, .int .i64 0] 26)).drew) (w.heap.size + 1 + 1) 26 [.int .i64 f.id, .int .i64 1, .int .i64 L, .int .i64 M, .int .i64 0] := by
      have h1 : Below B1 W0 ((((w.alloc (.cells (zF f) 26))).alloc (.cells (zP s ta tc la lc) 32)).drewN nq) := by rw [HB1.out, HW0.out]; exact below_drewN (Below.refl _ _) nq
      have h2 := Block.new ((((w.alloc (.cells (zF f) 26))).alloc (.cells (zP s ta tc la lc) 32)).drewN nq) 26 [.int .i64 f.id, .int .i64 1, .int .i64 L, .int .i64 M, .int .i64 0]
      rw [show ((((w.alloc (.cells (zF f) 26))).alloc (.cells (zP s ta tc la lc) 32)).drewN nq).heap.size = w.heap.size + 1 + 1 by simp] at h2
      exact ⟨below_drewN (h1.alloc (HZ.out _ h1) _) 1, h2.later (below_drewN (Below.refl _ _) 1)⟩
     generalize ((((((w.alloc (.cells (zF f) 26))).alloc (.cells (zP s ta tc la lc) 32)).drewN nq)).alloc (.cells #[.int .i64 f.id, .int .i64 1, .int .i64 L, .int .i64 M, .int .i64 0] 26)).drew = wd at *
     refine plan.firstS 0 _ (.agg #[.int .i64 f.id, .int .i64 1, .int .i64 L, .int .i64 M, .int .i64 0]) rfl (fun w' hS' => exec_load_at (b := w.heap.size + 1 + 1) (off := 0) rfl hS'.2.whole Tryz.underlying26 rfl info_fd.out) hS ?_
     refine plan.firstS 2 _ (.pointer (some ⟨w.heap.size, 1, none⟩)) rfl (fun w' hS' => (by kernel_rfl)) hS ?_
     refine plan.firstS 3 _ (.int .i64 f.kind) rfl (fun w' hS' => exec_cell_int (ad := ⟨w.heap.size, 1, none⟩) rfl (by kernel_rfl) ((HX.out _ hS'.1).1.cell 1) Tryz.isAgg3) hS ?_
     refine plan.firstS 4 _ (.bool true) rfl (fun w' hS' => plan.exec_as (exec_eql_int (n := f.kind) (m := 1) rfl) dk) hS ?_
     refine plan.firstS 5 _ (.bool true) rfl (fun w' hS' => (by kernel_rfl)) hS ?_
     refine plan.firstS 6 _ (.agg #[.int .i64 f.id, .int .i64 1, .int .i64 L, .int .i64 M, .int .i64 0]) rfl (fun w' hS' => exec_load_at (b := w.heap.size + 1 + 1) (off := 0) rfl hS'.2.whole Tryz.underlying26 rfl info_fd.out) hS ?_
     have hSA : ∀ wd : World, (Below B1 W0 wd ∧ Block wd (w.heap.size + 1 + 1) 26 [.int .i64 f.id, .int .i64 1, .int .i64 L, .int .i64 M, .int .i64 0]) → Below B1 W0 (wd.alloc (.cells #[.int .i64 f.id, .int .i64 1, .int .i64 L, .int .i64 M, .int .i64 0] 26)) ∧ Block (wd.alloc (.cells #[.int .i64 f.id, .int .i64 1, .int .i64 L, .int .i64 M, .int .i64 0] 26)) (w.heap.size + 1 + 1) 26 [.int .i64 f.id, .int .i64 1, .int .i64 L, .int .i64 M, .int .i64 0] := fun wd hS => ⟨hS.1.alloc (HZ.out _ hS.1) _, hS.2.alloc _⟩
     have hSB : ∀ w1 w2 : World, (Below B1 W0 w1 ∧ Block w1 (w.heap.size + 1 + 1) 26 [.int .i64 f.id, .int .i64 1, .int .i64 L, .int .i64 M, .int .i64 0]) → Below w1.heap.size w1 w2 → Below B1 W0 w2 ∧ Block w2 (w.heap.size + 1 + 1) 26 [.int .i64 f.id, .int .i64 1, .int .i64 L, .int .i64 M, .int .i64 0] := fun w1 w2 hS hb => ⟨hS.1.trans (hb.mono (HZ.out _ hS.1)), hS.2.later hb⟩
     refine plan.bothW (w1 := wd.alloc (.cells #[.int .i64 f.id, .int .i64 1, .int .i64 L, .int .i64 M, .int .i64 0] 26)) 1 7 _ _ (.slice (some ⟨wd.heap.size, 0, none⟩) 1 1) (.bool r) 32 #[.agg #[.int .i64 f.id, .int .i64 1, .int .i64 L, .int .i64 M, .int .i64 0]] rfl rfl (hSA _ hS) ((cH wd).mono (fun e w' h => ⟨h.1, hSB _ _ hS h.2⟩)) ?_ (fun w2 hS2 => ?_)
     ·obtain ⟨w3, hw3⟩ : ∃ x, x = wd.alloc (.cells #[.int .i64 f.id, .int .i64 1, .int .i64 L, .int .i64 M, .int .i64 0] 26) := ⟨_, rfl⟩
      have hS3 := hSA _ hS
      have hR3 : Block w3 wd.heap.size 26 [.int .i64 f.id, .int .i64 1, .int .i64 L, .int .i64 M, .int .i64 0] := by rw [hw3]; exact Block.new wd _ _
      have hg := HZ.out _ hS.1
      obtain ⟨g, hg0⟩ : ∃ x, x = wd.heap.size := ⟨_, rfl⟩
      rw [← hg0] at hR3 hg ⊢
      rw [← hw3] at hS3 ⊢
      clear hS hw3 hg0
      refine plan.callS 7 _ 32 #[.agg #[.int .i64 f.id, .int .i64 1, .int .i64 L, .int .i64 M, .int .i64 0]] rfl ((cH w3).mono ?_)
      rintro e w4 ⟨rfl, hb4⟩
      have hS4 := hSB _ _ hS3 hb4
      have hR := hR3.later hb4
      refine ⟨_, rfl, hS4, ?_⟩
      clear hS3 hR3 hb4
      refine plan.firstS 8 _ (.bool r) rfl (fun w' hS' => (by kernel_rfl)) hS4 ?_
      refine plan.oneS (w1 := w4) 9 _ (.slice (some ⟨g, 0, none⟩) 1 1) rfl rfl hS4 ?_
      refine plan.oneS (w1 := w4) 10 _ (.bool r) rfl rfl hS4 ?_
      refine plan.doneS ?_
      walk_nrm
      go_wp2
      go_ret2
      have hz := HS0.out
      rw [dk, Bool.true_and]
      exact TypesAs.row (T := ([⟨f.id, 1, L, M, 0⟩], r)) (w := w) (b := g) (HX.out _ hS4.1).2.2 (by omega) hR
     ·refine plan.firstS 8 _ (.bool r) rfl (fun w' hS' => (by kernel_rfl)) hS2 ?_
      refine plan.oneS (w1 := w2.alloc (.cells #[.int .i64 f.id, .int .i64 1, .int .i64 L, .int .i64 M, .int .i64 0] 26)) 1 _ (.slice (some ⟨w2.heap.size, 0, none⟩) 1 1) rfl rfl (hSA _ hS2) ?_
      obtain ⟨w3, hw3⟩ : ∃ x, x = w2.alloc (.cells #[.int .i64 f.id, .int .i64 1, .int .i64 L, .int .i64 M, .int .i64 0] 26) := ⟨_, rfl⟩
      have hS3 := hSA _ hS2
      have hR : Block w3 w2.heap.size 26 [.int .i64 f.id, .int .i64 1, .int .i64 L, .int .i64 M, .int .i64 0] := by rw [hw3]; exact Block.new w2 _ _
      have hg := HZ.out _ hS2.1
      obtain ⟨g, hg0⟩ : ∃ x, x = w2.heap.size := ⟨_, rfl⟩
      rw [← hg0] at hR hg ⊢
      rw [← hw3] at hS3 ⊢
      clear hS hS2 hw3 hg0
      refine plan.oneS (w1 := w3) 9 _ (.slice (some ⟨g, 0, none⟩) 1 1) rfl rfl hS3 ?_
      refine plan.oneS (w1 := w3) 10 _ (.bool r) rfl rfl hS3 ?_
      refine plan.doneS ?_
      walk_nrm
      go_wp2
      go_ret2
      have hz := HS0.out
      rw [dk, Bool.true_and]
      exact TypesAs.row (T := ([⟨f.id, 1, L, M, 0⟩], r)) (w := w) (b := g) (HX.out _ hS3.1).2.2 (by omega) hR
    ·have dk := bf hk
     clear hk
     refine plan.regionS (S := fun w' => Below B1 W0 w' ∧ Block w' (w.heap.size + 1 + 1) 26 [.int .i64 f.id, .int .i64 1, .int .i64 L, .int .i64 M, .int .i64 0]) ?_
     have hS : Below B1 W0 (((((((w.alloc (.cells (zF f) 26))).alloc (.cells (zP s ta tc la lc) 32)).drewN nq)).alloc (.cells #[.int .i64 f.id, .int .i64 1, .int .i64 L, .int .i64 M, .int .i64 0] 26)).drew) ∧ Block (((((((w.alloc (.cells (zF f) 26))).alloc (.cells (zP s ta tc la lc) 32)).drewN nq)).alloc (.cells #[.int .i64 f.id, .int .i64 1, .int .i64 L, .int .i64 M, .int .i64 0] 26)).drew) (w.heap.size + 1 + 1) 26 [.int .i64 f.id, .int .i64 1, .int .i64 L, .int .i64 M, .int .i64 0] := by
      have h1 : Below B1 W0 ((((w.alloc (.cells (zF f) 26))).alloc (.cells (zP s ta tc la lc) 32)).drewN nq) := by rw [HB1.out, HW0.out]; exact below_drewN (Below.refl _ _) nq
      have h2 := Block.new ((((w.alloc (.cells (zF f) 26))).alloc (.cells (zP s ta tc la lc) 32)).drewN nq) 26 [.int .i64 f.id, .int .i64 1, .int .i64 L, .int .i64 M, .int .i64 0]
      rw [show ((((w.alloc (.cells (zF f) 26))).alloc (.cells (zP s ta tc la lc) 32)).drewN nq).heap.size = w.heap.size + 1 + 1 by simp] at h2
      exact ⟨below_drewN (h1.alloc (HZ.out _ h1) _) 1, h2.later (below_drewN (Below.refl _ _) 1)⟩
     generalize ((((((w.alloc (.cells (zF f) 26))).alloc (.cells (zP s ta tc la lc) 32)).drewN nq)).alloc (.cells #[.int .i64 f.id, .int .i64 1, .int .i64 L, .int .i64 M, .int .i64 0] 26)).drew = wd at *
     refine plan.firstS 0 _ (.agg #[.int .i64 f.id, .int .i64 1, .int .i64 L, .int .i64 M, .int .i64 0]) rfl (fun w' hS' => exec_load_at (b := w.heap.size + 1 + 1) (off := 0) rfl hS'.2.whole Tryz.underlying26 rfl info_fd.out) hS ?_
     refine plan.firstS 2 _ (.pointer (some ⟨w.heap.size, 1, none⟩)) rfl (fun w' hS' => (by kernel_rfl)) hS ?_
     refine plan.firstS 3 _ (.int .i64 f.kind) rfl (fun w' hS' => exec_cell_int (ad := ⟨w.heap.size, 1, none⟩) rfl (by kernel_rfl) ((HX.out _ hS'.1).1.cell 1) Tryz.isAgg3) hS ?_
     refine plan.firstS 4 _ (.bool false) rfl (fun w' hS' => plan.exec_as (exec_eql_int (n := f.kind) (m := 1) rfl) dk) hS ?_
     refine plan.firstS 5 _ (.bool false) rfl (fun w' hS' => (by kernel_rfl)) hS ?_
     refine plan.skipS 6 _ rfl hS ?_
     refine plan.skipS 7 _ rfl hS ?_
     refine plan.firstS 8 _ (.bool false) rfl (fun w' hS' => (by kernel_rfl)) hS ?_
     refine plan.oneS (w1 := wd.alloc (.cells #[.int .i64 f.id, .int .i64 1, .int .i64 L, .int .i64 M, .int .i64 0] 26)) 1 _ (.slice (some ⟨wd.heap.size, 0, none⟩) 1 1) rfl rfl (by exact ⟨hS.1.alloc (HZ.out _ hS.1) _, hS.2.alloc _⟩) ?_
     obtain ⟨w2, hw2⟩ : ∃ x, x = wd.alloc (.cells #[.int .i64 f.id, .int .i64 1, .int .i64 L, .int .i64 M, .int .i64 0] 26) := ⟨_, rfl⟩
     have hS2 : Below B1 W0 w2 ∧ Block w2 (w.heap.size + 1 + 1) 26 [.int .i64 f.id, .int .i64 1, .int .i64 L, .int .i64 M, .int .i64 0] := by rw [hw2]; exact ⟨hS.1.alloc (HZ.out _ hS.1) _, hS.2.alloc _⟩
     have hR : Block w2 wd.heap.size 26 [.int .i64 f.id, .int .i64 1, .int .i64 L, .int .i64 M, .int .i64 0] := by rw [hw2]; exact Block.new wd _ _
     have hg := HZ.out _ hS.1
     generalize hg0 : wd.heap.size = g at *
     rw [← hw2]
     clear hS hw2
     have hS := hS2
     clear hS2
     refine plan.oneS (w1 := w2) 9 _ (.slice (some ⟨g, 0, none⟩) 1 1) rfl rfl hS ?_
     refine plan.oneS (w1 := w2) 10 _ (.bool false) rfl rfl hS ?_
     refine plan.doneS ?_
     walk_nrm
     go_wp2
     go_ret2
     have hz := HS0.out
     rw [dk, Bool.false_and]
     exact TypesAs.row (T := ([⟨f.id, 1, L, M, 0⟩], false)) (w := w) (b := g) (HX.out _ hS.1).2.2 (by omega) hR
   ·have d4 := bf h4
    rw [if_neg h4]
    by_cases h5 : s.op = 5
    ·have d5 := bt h5
     rw [if_pos h5]
     by_cases hk : f.kind = 3
     ·have dk := bt hk
      have hbit : decide (f.kind = 3 ∧ f.most = s.t.length) = (f.most == (s.t.length : Int)) := by simp [hk]; rfl
      rw [hbit]
      obtain ⟨r, hr⟩ : ∃ r : Bool, (f.most == (s.t.length : Int)) = r := ⟨_, rfl⟩
      rw [hr]
      clear hbit hk
      clear hb4 hb6 h2 h3 h4 h5
      go_enter Tryz.func46, Tryz.ntmps46
      go_wp2
      refine plan.regionS (S := fun w' => Below B1 W0 w') ?_
      have hS : Below B1 W0 ((((w.alloc (.cells (zF f) 26))).alloc (.cells (zP s ta tc la lc) 32)).drew) := by rw [HB1.out, HW0.out]; exact below_drewN (Below.refl _ _) 1
      generalize (((w.alloc (.cells (zF f) 26))).alloc (.cells (zP s ta tc la lc) 32)).drew = wd at *
      refine plan.firstS 0 _ (.pointer (some ⟨w.heap.size, 0, none⟩)) rfl (fun w' hS' => (by kernel_rfl)) hS ?_
      refine plan.firstS 1 _ (.int .i64 f.id) rfl (fun w' hS' => exec_cell_int (ad := ⟨w.heap.size, 0, none⟩) rfl (by kernel_rfl) ((HX.out _ hS').1.cell 0) Tryz.isAgg3) hS ?_
      refine plan.firstS 2 _ (.pointer (some ⟨w.heap.size + 1, 5, none⟩)) rfl (fun w' hS' => (by kernel_rfl)) hS ?_
      refine plan.firstS 3 _ (.int .i64 s.a) rfl (fun w' hS' => exec_cell_int (ad := ⟨w.heap.size + 1, 5, none⟩) rfl (by kernel_rfl) ((HX.out _ hS').2.1.cell 5) Tryz.isAgg3) hS ?_
      refine plan.firstS 4 _ (.agg #[.int .i64 f.id, .int .i64 3, .int .i64 0, .int .i64 0, .int .i64 s.a]) rfl (fun w' hS' => (by kernel_rfl)) hS ?_
      refine plan.firstS 6 _ (.pointer (some ⟨w.heap.size, 1, none⟩)) rfl (fun w' hS' => (by kernel_rfl)) hS ?_
      refine plan.firstS 7 _ (.int .i64 f.kind) rfl (fun w' hS' => exec_cell_int (ad := ⟨w.heap.size, 1, none⟩) rfl (by kernel_rfl) ((HX.out _ hS').1.cell 1) Tryz.isAgg3) hS ?_
      refine plan.firstS 8 _ (.bool true) rfl (fun w' hS' => plan.exec_as (exec_eql_int (n := f.kind) (m := 3) rfl) dk) hS ?_
      refine plan.firstS 9 _ (.bool true) rfl (fun w' hS' => (by kernel_rfl)) hS ?_
      refine plan.firstS 10 _ (.pointer (some ⟨w.heap.size, 4, none⟩)) rfl (fun w' hS' => (by kernel_rfl)) hS ?_
      refine plan.firstS 11 _ (.int .i64 f.most) rfl (fun w' hS' => exec_cell_int (ad := ⟨w.heap.size, 4, none⟩) rfl (by kernel_rfl) ((HX.out _ hS').1.cell 4) Tryz.isAgg3) hS ?_
      refine plan.firstS 12 _ (.pointer (some ⟨w.heap.size + 1, 14, none⟩)) rfl (fun w' hS' => (by kernel_rfl)) hS ?_
      refine plan.firstS 13 _ (.slice ta s.t.length tc) rfl (fun w' hS' => exec_cell_slice (ad := ⟨w.heap.size + 1, 14, none⟩) rfl ((HX.out _ hS').2.1.cell 14) Tryz.isAgg29) hS ?_
      refine plan.firstS 14 _ (.int .i64 (s.t.length : Int)) rfl (fun w' hS' => (by kernel_rfl)) hS ?_
      refine plan.firstS 15 _ (.bool r) rfl (fun w' hS' => plan.exec_as (exec_eql_int (n := f.most) (m := (s.t.length : Int)) rfl) hr) hS ?_
      refine plan.firstS 16 _ (.bool r) rfl (fun w' hS' => (by kernel_rfl)) hS ?_
      refine plan.oneS (w1 := wd.alloc (.cells #[.int .i64 f.id, .int .i64 3, .int .i64 0, .int .i64 0, .int .i64 s.a] 26)) 5 _ (.slice (some ⟨wd.heap.size, 0, none⟩) 1 1) rfl rfl (hS.alloc (HZ.out _ hS) _) ?_
      obtain ⟨w2, hw2⟩ : ∃ x, x = wd.alloc (.cells #[.int .i64 f.id, .int .i64 3, .int .i64 0, .int .i64 0, .int .i64 s.a] 26) := ⟨_, rfl⟩
      have hS2 : Below B1 W0 w2 := by rw [hw2]; exact hS.alloc (HZ.out _ hS) _
      have hR : Block w2 wd.heap.size 26 [.int .i64 f.id, .int .i64 3, .int .i64 0, .int .i64 0, .int .i64 s.a] := by rw [hw2]; exact Block.new wd _ _
      have hg := HZ.out _ hS
      generalize hg0 : wd.heap.size = g at *
      rw [← hw2]
      clear hS hw2
      have hS := hS2
      clear hS2
      refine plan.oneS (w1 := w2) 17 _ (.slice (some ⟨g, 0, none⟩) 1 1) rfl rfl hS ?_
      refine plan.oneS (w1 := w2) 18 _ (.bool r) rfl rfl hS ?_
      refine plan.doneS ?_
      walk_nrm
      go_wp2
      go_ret2
      have hz := HS0.out
      exact TypesAs.row (HX.out _ hS).2.2 (by omega) hR
     ·have dk := bf hk
      have hbit : decide (f.kind = 3 ∧ f.most = s.t.length) = false := by simp [hk]
      rw [hbit]
      clear hbit hk
      clear hb4 hb6 h2 h3 h4 h5
      go_enter Tryz.func46, Tryz.ntmps46
      go_wp2
      refine plan.regionS (S := fun w' => Below B1 W0 w') ?_
      have hS : Below B1 W0 ((((w.alloc (.cells (zF f) 26))).alloc (.cells (zP s ta tc la lc) 32)).drew) := by rw [HB1.out, HW0.out]; exact below_drewN (Below.refl _ _) 1
      generalize (((w.alloc (.cells (zF f) 26))).alloc (.cells (zP s ta tc la lc) 32)).drew = wd at *
      refine plan.firstS 0 _ (.pointer (some ⟨w.heap.size, 0, none⟩)) rfl (fun w' hS' => (by kernel_rfl)) hS ?_
      refine plan.firstS 1 _ (.int .i64 f.id) rfl (fun w' hS' => exec_cell_int (ad := ⟨w.heap.size, 0, none⟩) rfl (by kernel_rfl) ((HX.out _ hS').1.cell 0) Tryz.isAgg3) hS ?_
      refine plan.firstS 2 _ (.pointer (some ⟨w.heap.size + 1, 5, none⟩)) rfl (fun w' hS' => (by kernel_rfl)) hS ?_
      refine plan.firstS 3 _ (.int .i64 s.a) rfl (fun w' hS' => exec_cell_int (ad := ⟨w.heap.size + 1, 5, none⟩) rfl (by kernel_rfl) ((HX.out _ hS').2.1.cell 5) Tryz.isAgg3) hS ?_
      refine plan.firstS 4 _ (.agg #[.int .i64 f.id, .int .i64 3, .int .i64 0, .int .i64 0, .int .i64 s.a]) rfl (fun w' hS' => (by kernel_rfl)) hS ?_
      refine plan.firstS 6 _ (.pointer (some ⟨w.heap.size, 1, none⟩)) rfl (fun w' hS' => (by kernel_rfl)) hS ?_
      refine plan.firstS 7 _ (.int .i64 f.kind) rfl (fun w' hS' => exec_cell_int (ad := ⟨w.heap.size, 1, none⟩) rfl (by kernel_rfl) ((HX.out _ hS').1.cell 1) Tryz.isAgg3) hS ?_
      refine plan.firstS 8 _ (.bool false) rfl (fun w' hS' => plan.exec_as (exec_eql_int (n := f.kind) (m := 3) rfl) dk) hS ?_
      refine plan.firstS 9 _ (.bool false) rfl (fun w' hS' => (by kernel_rfl)) hS ?_
      refine plan.skipS 10 _ rfl hS ?_
      refine plan.skipS 11 _ rfl hS ?_
      refine plan.skipS 12 _ rfl hS ?_
      refine plan.skipS 13 _ rfl hS ?_
      refine plan.skipS 14 _ rfl hS ?_
      refine plan.skipS 15 _ rfl hS ?_
      refine plan.firstS 16 _ (.bool false) rfl (fun w' hS' => (by kernel_rfl)) hS ?_
      refine plan.oneS (w1 := wd.alloc (.cells #[.int .i64 f.id, .int .i64 3, .int .i64 0, .int .i64 0, .int .i64 s.a] 26)) 5 _ (.slice (some ⟨wd.heap.size, 0, none⟩) 1 1) rfl rfl (hS.alloc (HZ.out _ hS) _) ?_
      obtain ⟨w2, hw2⟩ : ∃ x, x = wd.alloc (.cells #[.int .i64 f.id, .int .i64 3, .int .i64 0, .int .i64 0, .int .i64 s.a] 26) := ⟨_, rfl⟩
      have hS2 : Below B1 W0 w2 := by rw [hw2]; exact hS.alloc (HZ.out _ hS) _
      have hR : Block w2 wd.heap.size 26 [.int .i64 f.id, .int .i64 3, .int .i64 0, .int .i64 0, .int .i64 s.a] := by rw [hw2]; exact Block.new wd _ _
      have hg := HZ.out _ hS
      generalize hg0 : wd.heap.size = g at *
      rw [← hw2]
      clear hS hw2
      have hS := hS2
      clear hS2
      refine plan.oneS (w1 := w2) 17 _ (.slice (some ⟨g, 0, none⟩) 1 1) rfl rfl hS ?_
      refine plan.oneS (w1 := w2) 18 _ (.bool false) rfl rfl hS ?_
      refine plan.doneS ?_
      walk_nrm
      go_wp2
      go_ret2
      have hz := HS0.out
      exact TypesAs.row (HX.out _ hS).2.2 (by omega) hR
    ·have d5 := bf h5
     rw [if_neg h5]
     by_cases h6 : s.op = 6
     ·have d6 := bt h6
      rw [if_pos h6]
      by_cases hk : f.kind = 1
      ·have dk := bt hk
       have hbit : decide (f.kind = 1 ∧ f.lo = 0) = (f.lo == 0) := by simp [hk]; rfl
       rw [hbit]
       obtain ⟨r, hr⟩ : ∃ r : Bool, Hid ((f.lo == 0) = r) := ⟨_, hid rfl⟩
       rw [hr.out]
       clear hbit hk
       obtain ⟨⟨qa, qb⟩, qc⟩ := hb6 h6
       simp only at qa qb qc
       have HQ := hid (And.intro (And.intro qa qb) qc)
       have em : ∀ ts t W, (Builtin.min_ ts t #[.int .i64 f.hi, .int .i64 (s.a - 1)]).run Tryz.prog W = .ok (.int .i64 (mn f.hi (s.a - 1))) W := fun ts t W => by rw [run_min_int2]; rfl
       have w1 : IntKind.i64.wrap (s.a - 1) = s.a - 1 := IntWalk.i64_in _ (by omega)
       obtain ⟨M, hM⟩ : ∃ M : Int, mn f.hi (s.a - 1) = M := ⟨_, rfl⟩
       rw [hM]
       simp only [hM] at em
       obtain ⟨U, hU⟩ : ∃ U : Int, Hid (Int.tdiv f.hi s.a = U) := ⟨_, hid rfl⟩
       rw [hU.out]
       clear hM qc
       clear hb4 hb6 h2 h3 h4 h5 h6
       go_enter Tryz.func46, Tryz.ntmps46
       go_wp2
       refine plan.regionS (S := fun w' => Below B1 W0 w') ?_
       have hS : Below B1 W0 ((((w.alloc (.cells (zF f) 26))).alloc (.cells (zP s ta tc la lc) 32)).drew) := by rw [HB1.out, HW0.out]; exact below_drewN (Below.refl _ _) 1
       generalize (((w.alloc (.cells (zF f) 26))).alloc (.cells (zP s ta tc la lc) 32)).drew = wd at *
       refine plan.firstS 0 _ (.pointer (some ⟨w.heap.size, 0, none⟩)) rfl (fun w' hS' => (by kernel_rfl)) hS ?_
       refine plan.firstS 1 _ (.int .i64 f.id) rfl (fun w' hS' => exec_cell_int (ad := ⟨w.heap.size, 0, none⟩) rfl (by kernel_rfl) ((HX.out _ hS').1.cell 0) Tryz.isAgg3) hS ?_
       refine plan.firstS 2 _ (.pointer (some ⟨w.heap.size, 3, none⟩)) rfl (fun w' hS' => (by kernel_rfl)) hS ?_
       refine plan.firstS 3 _ (.int .i64 f.hi) rfl (fun w' hS' => exec_cell_int (ad := ⟨w.heap.size, 3, none⟩) rfl (by kernel_rfl) ((HX.out _ hS').1.cell 3) Tryz.isAgg3) hS ?_
       refine plan.firstS 4 _ (.pointer (some ⟨w.heap.size + 1, 5, none⟩)) rfl (fun w' hS' => (by kernel_rfl)) hS ?_
       refine plan.firstS 5 _ (.int .i64 s.a) rfl (fun w' hS' => exec_cell_int (ad := ⟨w.heap.size + 1, 5, none⟩) rfl (by kernel_rfl) ((HX.out _ hS').2.1.cell 5) Tryz.isAgg3) hS ?_
       refine plan.firstS 6 _ (.int .i64 U) rfl (fun w' hS' => by rw [← hU.out]; exact exec_quoI rfl HQ.out.1 HQ.out.2) hS ?_
       refine plan.firstS 7 _ (.agg #[.int .i64 f.id, .int .i64 1, .int .i64 0, .int .i64 U, .int .i64 0]) rfl (fun w' hS' => (by kernel_rfl)) hS ?_
       refine plan.oneS (w1 := wd.alloc (.cells #[.int .i64 0, .int .i64 0, .int .i64 0, .int .i64 0, .int .i64 0] 26)) 8 _ (.pointer (some ⟨wd.heap.size, 0, none⟩)) rfl rfl (hS.alloc (HZ.out _ hS) _) ?_
       obtain ⟨w2, hw2⟩ : ∃ x, x = wd.alloc (.cells #[.int .i64 0, .int .i64 0, .int .i64 0, .int .i64 0, .int .i64 0] 26) := ⟨_, rfl⟩
       have hS2 : Below B1 W0 w2 := by rw [hw2]; exact hS.alloc (HZ.out _ hS) _
       have hZ : Block w2 wd.heap.size 26 [.int .i64 0, .int .i64 0, .int .i64 0, .int .i64 0, .int .i64 0] := by rw [hw2]; exact Block.new wd _ _
       have hg9 := HZ.out _ hS
       obtain ⟨g9, hg0⟩ : ∃ x, x = wd.heap.size := ⟨_, rfl⟩
       rw [← hg0] at hZ hg9 ⊢
       rw [← hw2]
       have hZ2 : Block (w2.setCells g9 0 [.int .i64 f.id, .int .i64 1, .int .i64 0, .int .i64 U, .int .i64 0]) g9 26 [.int .i64 f.id, .int .i64 1, .int .i64 0, .int .i64 U, .int .i64 0] := by
        have := hZ.setCells (vs := [.int .i64 f.id, .int .i64 1, .int .i64 0, .int .i64 U, .int .i64 0]) (o := 0)
        rw [put_all _ _ (by simp)] at this
        exact this
       have hS3 : Below B1 W0 (w2.setCells g9 0 [.int .i64 f.id, .int .i64 1, .int .i64 0, .int .i64 U, .int .i64 0]) := below_setCells hS2 hg9 _ _
       clear hS hw2 hg0
       refine plan.lastS (w1 := w2.setCells g9 0 [.int .i64 f.id, .int .i64 1, .int .i64 0, .int .i64 U, .int .i64 0]) 9 _ rfl rfl rfl (plan.exec_store_all (cells := #[.int .i64 f.id, .int .i64 1, .int .i64 0, .int .i64 U, .int .i64 0]) rfl hZ rfl info_fd.out (by simp [Value.oneCell'])) hS3 ?_
       generalize w2.setCells g9 0 [.int .i64 f.id, .int .i64 1, .int .i64 0, .int .i64 U, .int .i64 0] = w5 at *
       have K0 := HX.out _ hS3
       have z3 := K0.1.cell 3
       have y4 := K0.2.1.cell 4
       have y5 := K0.2.1.cell 5
       walk_nrm
       go_wp2
       obtain ⟨w6, hw6⟩ : ∃ x, x = w5.alloc (.cells #[.int .i64 s.tt, .int .i64 1, .int .i64 0, .int .i64 M, .int .i64 0] 26) := ⟨_, rfl⟩
       have hS6 : Below B1 W0 w6 := by rw [hw6]; exact hS3.alloc (HZ.out _ hS3) _
       have hD : Block w6 w5.heap.size 26 [.int .i64 s.tt, .int .i64 1, .int .i64 0, .int .i64 M, .int .i64 0] := by rw [hw6]; exact Block.new w5 _ _
       have hUP : Block w6 g9 26 [.int .i64 f.id, .int .i64 1, .int .i64 0, .int .i64 U, .int .i64 0] := by rw [hw6]; exact hZ2.alloc _
       rw [← hw6]
       obtain ⟨gA, hgA⟩ : ∃ x, x = w5.heap.size := ⟨_, rfl⟩
       rw [← hgA] at hD ⊢
       have hu9 := hUP.lt
       have huA := hD.lt
       have HC : Hid (∀ w', Below w6.heap.size w6 w' → (Block w' w.heap.size 26 (zF f) ∧ Block w' g9 26 [.int .i64 f.id, .int .i64 1, .int .i64 0, .int .i64 U, .int .i64 0] ∧ Block w' gA 26 [.int .i64 s.tt, .int .i64 1, .int .i64 0, .int .i64 M, .int .i64 0]) ∧ Below B1 W0 w') := hid (fun w' hb => ⟨⟨(HX.out _ (hS6.trans (hb.mono (HZ.out _ hS6)))).1, hUP.later hb, hD.later hb⟩, hS6.trans (hb.mono (HZ.out _ hS6))⟩)
       have HS6 : Hid (B1 ≤ w6.heap.size) := hid (HZ.out _ hS6)
       clear hw6 hgA hS3 hZ2 hS2 hZ K0 z3 y4 y5 hS6 hD hUP hu9 huA
       refine plan.regionS (S := fun w' => Below w6.heap.size w6 w') ?_
       have hS : Below w6.heap.size w6 w6.drew := below_drewN (Below.refl _ _) 1
       have hs6 : w6.heap.size = w6.drew.heap.size := rfl
       have HW6 := HS6.out
       generalize w6.drew = wd at *
       refine plan.firstS 0 _ (.agg #[.int .i64 f.id, .int .i64 1, .int .i64 0, .int .i64 U, .int .i64 0]) rfl (fun w' hS' => exec_load_at (b := g9) (off := 0) rfl (HC.out _ hS').1.2.1.whole Tryz.underlying26 rfl info_fd.out) hS ?_
       refine plan.firstS 1 _ (.agg #[.int .i64 s.tt, .int .i64 1, .int .i64 0, .int .i64 M, .int .i64 0]) rfl (fun w' hS' => exec_load_at (b := gA) (off := 0) rfl (HC.out _ hS').1.2.2.whole Tryz.underlying26 rfl info_fd.out) hS ?_
       refine plan.firstS 3 _ (.pointer (some ⟨w.heap.size, 1, none⟩)) rfl (fun w' hS' => (by kernel_rfl)) hS ?_
       refine plan.firstS 4 _ (.int .i64 f.kind) rfl (fun w' hS' => exec_cell_int (ad := ⟨w.heap.size, 1, none⟩) rfl (by kernel_rfl) ((HC.out _ hS').1.1.cell 1) Tryz.isAgg3) hS ?_
       refine plan.firstS 5 _ (.bool true) rfl (fun w' hS' => plan.exec_as (exec_eql_int (n := f.kind) (m := 1) rfl) dk) hS ?_
       refine plan.firstS 6 _ (.bool true) rfl (fun w' hS' => (by kernel_rfl)) hS ?_
       refine plan.firstS 7 _ (.pointer (some ⟨w.heap.size, 2, none⟩)) rfl (fun w' hS' => (by kernel_rfl)) hS ?_
       refine plan.firstS 8 _ (.int .i64 f.lo) rfl (fun w' hS' => exec_cell_int (ad := ⟨w.heap.size, 2, none⟩) rfl (by kernel_rfl) ((HC.out _ hS').1.1.cell 2) Tryz.isAgg3) hS ?_
       refine plan.firstS 9 _ (.bool r) rfl (fun w' hS' => plan.exec_as (exec_eql_int (n := f.lo) (m := 0) rfl) hr.out) hS ?_
       refine plan.firstS 10 _ (.bool r) rfl (fun w' hS' => (by kernel_rfl)) hS ?_
       refine plan.oneS (w1 := wd.alloc (.cells #[.int .i64 f.id, .int .i64 1, .int .i64 0, .int .i64 U, .int .i64 0, .int .i64 s.tt, .int .i64 1, .int .i64 0, .int .i64 M, .int .i64 0] 26)) 2 _ (.slice (some ⟨wd.heap.size, 0, none⟩) 2 2) rfl rfl (hS.alloc hS.size _) ?_
       obtain ⟨w2, hw2⟩ : ∃ x, x = wd.alloc (.cells #[.int .i64 f.id, .int .i64 1, .int .i64 0, .int .i64 U, .int .i64 0, .int .i64 s.tt, .int .i64 1, .int .i64 0, .int .i64 M, .int .i64 0] 26) := ⟨_, rfl⟩
       have hS2 : Below w6.heap.size w6 w2 := by rw [hw2]; exact hS.alloc hS.size _
       have hR : Block w2 wd.heap.size 26 [.int .i64 f.id, .int .i64 1, .int .i64 0, .int .i64 U, .int .i64 0, .int .i64 s.tt, .int .i64 1, .int .i64 0, .int .i64 M, .int .i64 0] := by rw [hw2]; exact Block.new wd _ _
       have hg := hS.size
       obtain ⟨g, hg0⟩ : ∃ x, x = wd.heap.size := ⟨_, rfl⟩
       rw [← hg0] at hR hg ⊢
       rw [← hw2]
       clear hS hw2 hg0
       have hS := hS2
       clear hS2
       refine plan.oneS (w1 := w2) 11 _ (.slice (some ⟨g, 0, none⟩) 2 2) rfl rfl hS ?_
       refine plan.oneS (w1 := w2) 12 _ (.bool r) rfl rfl hS ?_
       refine plan.doneS ?_
       walk_nrm
       go_wp2
       go_ret2
       have hz := HS0.out
       exact TypesAs.row (HX.out _ (HC.out _ hS).2).2.2 (by omega) hR
      ·have dk := bf hk
       have hbit : decide (f.kind = 1 ∧ f.lo = 0) = false := by simp [hk]
       rw [hbit]
       clear hbit hk
       obtain ⟨⟨qa, qb⟩, qc⟩ := hb6 h6
       simp only at qa qb qc
       have HQ := hid (And.intro (And.intro qa qb) qc)
       have em : ∀ ts t W, (Builtin.min_ ts t #[.int .i64 f.hi, .int .i64 (s.a - 1)]).run Tryz.prog W = .ok (.int .i64 (mn f.hi (s.a - 1))) W := fun ts t W => by rw [run_min_int2]; rfl
       have w1 : IntKind.i64.wrap (s.a - 1) = s.a - 1 := IntWalk.i64_in _ (by omega)
       obtain ⟨M, hM⟩ : ∃ M : Int, mn f.hi (s.a - 1) = M := ⟨_, rfl⟩
       rw [hM]
       simp only [hM] at em
       obtain ⟨U, hU⟩ : ∃ U : Int, Hid (Int.tdiv f.hi s.a = U) := ⟨_, hid rfl⟩
       rw [hU.out]
       clear hM qc
       clear hb4 hb6 h2 h3 h4 h5 h6
       go_enter Tryz.func46, Tryz.ntmps46
       go_wp2
       refine plan.regionS (S := fun w' => Below B1 W0 w') ?_
       have hS : Below B1 W0 ((((w.alloc (.cells (zF f) 26))).alloc (.cells (zP s ta tc la lc) 32)).drew) := by rw [HB1.out, HW0.out]; exact below_drewN (Below.refl _ _) 1
       generalize (((w.alloc (.cells (zF f) 26))).alloc (.cells (zP s ta tc la lc) 32)).drew = wd at *
       refine plan.firstS 0 _ (.pointer (some ⟨w.heap.size, 0, none⟩)) rfl (fun w' hS' => (by kernel_rfl)) hS ?_
       refine plan.firstS 1 _ (.int .i64 f.id) rfl (fun w' hS' => exec_cell_int (ad := ⟨w.heap.size, 0, none⟩) rfl (by kernel_rfl) ((HX.out _ hS').1.cell 0) Tryz.isAgg3) hS ?_
       refine plan.firstS 2 _ (.pointer (some ⟨w.heap.size, 3, none⟩)) rfl (fun w' hS' => (by kernel_rfl)) hS ?_
       refine plan.firstS 3 _ (.int .i64 f.hi) rfl (fun w' hS' => exec_cell_int (ad := ⟨w.heap.size, 3, none⟩) rfl (by kernel_rfl) ((HX.out _ hS').1.cell 3) Tryz.isAgg3) hS ?_
       refine plan.firstS 4 _ (.pointer (some ⟨w.heap.size + 1, 5, none⟩)) rfl (fun w' hS' => (by kernel_rfl)) hS ?_
       refine plan.firstS 5 _ (.int .i64 s.a) rfl (fun w' hS' => exec_cell_int (ad := ⟨w.heap.size + 1, 5, none⟩) rfl (by kernel_rfl) ((HX.out _ hS').2.1.cell 5) Tryz.isAgg3) hS ?_
       refine plan.firstS 6 _ (.int .i64 U) rfl (fun w' hS' => by rw [← hU.out]; exact exec_quoI rfl HQ.out.1 HQ.out.2) hS ?_
       refine plan.firstS 7 _ (.agg #[.int .i64 f.id, .int .i64 1, .int .i64 0, .int .i64 U, .int .i64 0]) rfl (fun w' hS' => (by kernel_rfl)) hS ?_
       refine plan.oneS (w1 := wd.alloc (.cells #[.int .i64 0, .int .i64 0, .int .i64 0, .int .i64 0, .int .i64 0] 26)) 8 _ (.pointer (some ⟨wd.heap.size, 0, none⟩)) rfl rfl (hS.alloc (HZ.out _ hS) _) ?_
       obtain ⟨w2, hw2⟩ : ∃ x, x = wd.alloc (.cells #[.int .i64 0, .int .i64 0, .int .i64 0, .int .i64 0, .int .i64 0] 26) := ⟨_, rfl⟩
       have hS2 : Below B1 W0 w2 := by rw [hw2]; exact hS.alloc (HZ.out _ hS) _
       have hZ : Block w2 wd.heap.size 26 [.int .i64 0, .int .i64 0, .int .i64 0, .int .i64 0, .int .i64 0] := by rw [hw2]; exact Block.new wd _ _
       have hg9 := HZ.out _ hS
       obtain ⟨g9, hg0⟩ : ∃ x, x = wd.heap.size := ⟨_, rfl⟩
       rw [← hg0] at hZ hg9 ⊢
       rw [← hw2]
       have hZ2 : Block (w2.setCells g9 0 [.int .i64 f.id, .int .i64 1, .int .i64 0, .int .i64 U, .int .i64 0]) g9 26 [.int .i64 f.id, .int .i64 1, .int .i64 0, .int .i64 U, .int .i64 0] := by
        have := hZ.setCells (vs := [.int .i64 f.id, .int .i64 1, .int .i64 0, .int .i64 U, .int .i64 0]) (o := 0)
        rw [put_all _ _ (by simp)] at this
        exact this
       have hS3 : Below B1 W0 (w2.setCells g9 0 [.int .i64 f.id, .int .i64 1, .int .i64 0, .int .i64 U, .int .i64 0]) := below_setCells hS2 hg9 _ _
       clear hS hw2 hg0
       refine plan.lastS (w1 := w2.setCells g9 0 [.int .i64 f.id, .int .i64 1, .int .i64 0, .int .i64 U, .int .i64 0]) 9 _ rfl rfl rfl (plan.exec_store_all (cells := #[.int .i64 f.id, .int .i64 1, .int .i64 0, .int .i64 U, .int .i64 0]) rfl hZ rfl info_fd.out (by simp [Value.oneCell'])) hS3 ?_
       generalize w2.setCells g9 0 [.int .i64 f.id, .int .i64 1, .int .i64 0, .int .i64 U, .int .i64 0] = w5 at *
       have K0 := HX.out _ hS3
       have z3 := K0.1.cell 3
       have y4 := K0.2.1.cell 4
       have y5 := K0.2.1.cell 5
       walk_nrm
       go_wp2
       obtain ⟨w6, hw6⟩ : ∃ x, x = w5.alloc (.cells #[.int .i64 s.tt, .int .i64 1, .int .i64 0, .int .i64 M, .int .i64 0] 26) := ⟨_, rfl⟩
       have hS6 : Below B1 W0 w6 := by rw [hw6]; exact hS3.alloc (HZ.out _ hS3) _
       have hD : Block w6 w5.heap.size 26 [.int .i64 s.tt, .int .i64 1, .int .i64 0, .int .i64 M, .int .i64 0] := by rw [hw6]; exact Block.new w5 _ _
       have hUP : Block w6 g9 26 [.int .i64 f.id, .int .i64 1, .int .i64 0, .int .i64 U, .int .i64 0] := by rw [hw6]; exact hZ2.alloc _
       rw [← hw6]
       obtain ⟨gA, hgA⟩ : ∃ x, x = w5.heap.size := ⟨_, rfl⟩
       rw [← hgA] at hD ⊢
       have hu9 := hUP.lt
       have huA := hD.lt
       have HC : Hid (∀ w', Below w6.heap.size w6 w' → (Block w' w.heap.size 26 (zF f) ∧ Block w' g9 26 [.int .i64 f.id, .int .i64 1, .int .i64 0, .int .i64 U, .int .i64 0] ∧ Block w' gA 26 [.int .i64 s.tt, .int .i64 1, .int .i64 0, .int .i64 M, .int .i64 0]) ∧ Below B1 W0 w') := hid (fun w' hb => ⟨⟨(HX.out _ (hS6.trans (hb.mono (HZ.out _ hS6)))).1, hUP.later hb, hD.later hb⟩, hS6.trans (hb.mono (HZ.out _ hS6))⟩)
       have HS6 : Hid (B1 ≤ w6.heap.size) := hid (HZ.out _ hS6)
       clear hw6 hgA hS3 hZ2 hS2 hZ K0 z3 y4 y5 hS6 hD hUP hu9 huA
       refine plan.regionS (S := fun w' => Below w6.heap.size w6 w') ?_
       have hS : Below w6.heap.size w6 w6.drew := below_drewN (Below.refl _ _) 1
       have hs6 : w6.heap.size = w6.drew.heap.size := rfl
       have HW6 := HS6.out
       generalize w6.drew = wd at *
       refine plan.firstS 0 _ (.agg #[.int .i64 f.id, .int .i64 1, .int .i64 0, .int .i64 U, .int .i64 0]) rfl (fun w' hS' => exec_load_at (b := g9) (off := 0) rfl (HC.out _ hS').1.2.1.whole Tryz.underlying26 rfl info_fd.out) hS ?_
       refine plan.firstS 1 _ (.agg #[.int .i64 s.tt, .int .i64 1, .int .i64 0, .int .i64 M, .int .i64 0]) rfl (fun w' hS' => exec_load_at (b := gA) (off := 0) rfl (HC.out _ hS').1.2.2.whole Tryz.underlying26 rfl info_fd.out) hS ?_
       refine plan.firstS 3 _ (.pointer (some ⟨w.heap.size, 1, none⟩)) rfl (fun w' hS' => (by kernel_rfl)) hS ?_
       refine plan.firstS 4 _ (.int .i64 f.kind) rfl (fun w' hS' => exec_cell_int (ad := ⟨w.heap.size, 1, none⟩) rfl (by kernel_rfl) ((HC.out _ hS').1.1.cell 1) Tryz.isAgg3) hS ?_
       refine plan.firstS 5 _ (.bool false) rfl (fun w' hS' => plan.exec_as (exec_eql_int (n := f.kind) (m := 1) rfl) dk) hS ?_
       refine plan.firstS 6 _ (.bool false) rfl (fun w' hS' => (by kernel_rfl)) hS ?_
       refine plan.skipS 7 _ rfl hS ?_
       refine plan.skipS 8 _ rfl hS ?_
       refine plan.skipS 9 _ rfl hS ?_
       refine plan.firstS 10 _ (.bool false) rfl (fun w' hS' => (by kernel_rfl)) hS ?_
       refine plan.oneS (w1 := wd.alloc (.cells #[.int .i64 f.id, .int .i64 1, .int .i64 0, .int .i64 U, .int .i64 0, .int .i64 s.tt, .int .i64 1, .int .i64 0, .int .i64 M, .int .i64 0] 26)) 2 _ (.slice (some ⟨wd.heap.size, 0, none⟩) 2 2) rfl rfl (hS.alloc hS.size _) ?_
       obtain ⟨w2, hw2⟩ : ∃ x, x = wd.alloc (.cells #[.int .i64 f.id, .int .i64 1, .int .i64 0, .int .i64 U, .int .i64 0, .int .i64 s.tt, .int .i64 1, .int .i64 0, .int .i64 M, .int .i64 0] 26) := ⟨_, rfl⟩
       have hS2 : Below w6.heap.size w6 w2 := by rw [hw2]; exact hS.alloc hS.size _
       have hR : Block w2 wd.heap.size 26 [.int .i64 f.id, .int .i64 1, .int .i64 0, .int .i64 U, .int .i64 0, .int .i64 s.tt, .int .i64 1, .int .i64 0, .int .i64 M, .int .i64 0] := by rw [hw2]; exact Block.new wd _ _
       have hg := hS.size
       obtain ⟨g, hg0⟩ : ∃ x, x = wd.heap.size := ⟨_, rfl⟩
       rw [← hg0] at hR hg ⊢
       rw [← hw2]
       clear hS hw2 hg0
       have hS := hS2
       clear hS2
       refine plan.oneS (w1 := w2) 11 _ (.slice (some ⟨g, 0, none⟩) 2 2) rfl rfl hS ?_
       refine plan.oneS (w1 := w2) 12 _ (.bool false) rfl rfl hS ?_
       refine plan.doneS ?_
       walk_nrm
       go_wp2
       go_ret2
       have hz := HS0.out
       exact TypesAs.row (HX.out _ (HC.out _ hS).2).2.2 (by omega) hR
     ·have d6 := bf h6
      rw [if_neg h6]
      by_cases h8 : s.op = 8
      ·have d8 := bt h8
       rw [if_pos h8]
       clear hb4 hb6 h2 h3 h4 h5 h6 h8
       go_enter Tryz.func46, Tryz.ntmps46
       go_wp2
       go_ret2
       exact TypesAs.row (new2 w _ _ [{ f with id := s.tt }]).1 (by omega) (new2 w _ _ [{ f with id := s.tt }]).2
      ·have d8 := bf h8
       rw [if_neg h8]
       clear hb4 hb6 h2 h3 h4 h5 h6 h8
       go_enter Tryz.func46, Tryz.ntmps46
       go_wp2
       go_ret2
       exact TypesAs.row (new2 w _ _ [f]).1 (by omega) (new2 w _ _ [f]).2
end Go.Proofs.YtaciegkblklokaaGreat.typing
namespace Go.Proofs.YtaciegkblklokaaGreat.schema
open Go.RowKit
open Go.Proofs.YtaciegkblklokaaGreat.field (Gives newB gives_from refSize_any)
theorem refFind_any (i : Int) (a : Option Addr) (cap : Nat) (L : List Fm) (x : Int) (w : World) (h : FmL w a L) (hL : L.length ≤ maxLen) :
  Calls Tryz.prog 22 #[zS i a L.length cap, .int .i64 x] w (Gives (.int .i64 (firstAt (fids L) x)) w) := by
 have hml : (L.length : Int) ≤ 9223372036854775807 := by unfold maxLen at hL; omega
 have HX := hid (boxS i a L cap w)
 have HF := hid (h.below (newB w (.cells (zS i a L.length cap) 24)))
 obtain ⟨r, hr⟩ : ∃ r : Int, Hid (firstAt (fids L) x = r) := ⟨_, rfl⟩
 rw [hr.out]
 unfold Gives
 clear h hL
 go_enter Tryz.func22, Tryz.ntmps22
 go_wp2
 go_loopw [5] (fun n wr => ∃ k : Nat, k ≤ L.length ∧ n = .int .i64 (k : Int) ∧ Hid (x ∉ (fids L).take k) ∧ Hid (Below (w.alloc (.cells (zS i a L.length cap) 24)).heap.size (w.alloc (.cells (zS i a L.length cap) 24)) wr)) (fun n _ => L.length - (intOf n).toNat)
 case atStart => exact ⟨0, Nat.zero_le _, rfl, hid (by simp), hid (Below.refl _ _)⟩
 case round =>
  obtain ⟨k, hk, rfl, HNO, HB⟩ := hrel
  obtain ⟨z0, z1, hbo⟩ := HX.out _ HB.out
  by_cases hlt : k < L.length
  ·obtain ⟨b, off, p, rfl, hbl, hp, c0, c1, _, _⟩ := form_at HF.out HB.out hlt
   have i1 : (k : Int) < L.length := by omega
   have HHIT := hid (fun e => first_hit HNO.out ((fids_at hp).trans (congrArg some e)))
   have HNX := hid (fun e => not_take_succ HNO.out (fids_at hp) e)
   clear hp
   by_cases hx : p.id = x
   ·have hd : (p.id == x) = true := beq_iff_eq.2 hx
    obtain rfl : (k : Int) = r := by rw [← hr.out]; exact (HHIT.out hx).symm
    clear hx
    go_wp2
    go_ret
    exact ⟨rfl, hbo⟩
   ·have hd : (p.id == x) = false := beq_eq_false_iff_ne.2 hx
    have HXX := hid hx
    clear hx
    go_wp2
    exact ⟨⟨k + 1, by omega, by go_num, hid (HNX.out HXX.out), HB⟩, by simp [intOf]; omega⟩
  ·obtain rfl : k = L.length := by omega
   obtain rfl : -1 = r := by rw [← hr.out]; have := HNO.out; rw [List.take_of_length_le (by rw [fids_length]; exact Nat.le_refl _)] at this; exact (first_none this).symm
   go_wp2
   go_ret
   exact ⟨rfl, hbo⟩
end Go.Proofs.YtaciegkblklokaaGreat.schema
