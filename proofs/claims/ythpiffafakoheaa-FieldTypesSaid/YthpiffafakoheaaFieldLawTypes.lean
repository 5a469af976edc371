/- FieldTypes: whether any field is right, what belongs to it, its first value, its size and whether it is wider are as the reference says. No condition. -/
import Derived.Test.YthpiffafakoheaaFieldEq
import Derived.Test.YthpiffafakoheaaPlanMore
namespace Go.Proofs.Ythpiffafakoheaa.fieldTypes
open Go.RowKit Go.Proofs.Ythpiffafakoheaa.field
set_option linter.unusedVariables false

set_option maxRecDepth 20000 in
theorem walk0 (f g : field.Fd) (v : Va) (w : World) : Calls Try.prog 3 #[.agg #[.int .i64 f.id, .int .i64 f.kind, .int .i64 f.lo, .int .i64 f.hi, .int .i64 f.most], .agg #[.int .i64 g.id, .int .i64 g.kind, .int .i64 g.lo, .int .i64 g.hi, .int .i64 g.most], .agg #[.int .i64 v.n, .string v.s]] w (Yes w) := by
  have HLF := info_field
  have HLV := info_val
  have hB1 := Block.new w 23 [.int .i64 f.id, .int .i64 f.kind, .int .i64 f.lo, .int .i64 f.hi, .int .i64 f.most]
  have hB2 := Block.new (w.alloc (.cells #[.int .i64 f.id, .int .i64 f.kind, .int .i64 f.lo, .int .i64 f.hi, .int .i64 f.most] 23)) 23 [.int .i64 g.id, .int .i64 g.kind, .int .i64 g.lo, .int .i64 g.hi, .int .i64 g.most]
  have hB3 := Block.new ((w.alloc (.cells #[.int .i64 f.id, .int .i64 f.kind, .int .i64 f.lo, .int .i64 f.hi, .int .i64 f.most] 23)).alloc (.cells #[.int .i64 g.id, .int .i64 g.kind, .int .i64 g.lo, .int .i64 g.hi, .int .i64 g.most] 23)) 25 [.int .i64 v.n, .string v.s]
  rw [World.size_alloc] at hB2
  rw [World.size_alloc, World.size_alloc] at hB3
  obtain ⟨w0, hw0⟩ : ∃ x, Hid (((w.alloc (.cells #[.int .i64 f.id, .int .i64 f.kind, .int .i64 f.lo, .int .i64 f.hi, .int .i64 f.most] 23)).alloc (.cells #[.int .i64 g.id, .int .i64 g.kind, .int .i64 g.lo, .int .i64 g.hi, .int .i64 g.most] 23)).alloc (.cells #[.int .i64 v.n, .string v.s] 25) = x) := ⟨_, rfl⟩
  have HB2 : Hid (∀ w', Below w0.heap.size w0 w' → Below w.heap.size w w') := hid (by
    rw [← hw0.out]
    exact fun w' h => ((((Below.refl _ w).alloc (Nat.le_refl _) _).alloc (by simp) _).alloc (by simp; omega) _).trans (h.mono (by simp; omega)))
  have HBF : Hid (Block w0 w.heap.size 23 [.int .i64 f.id, .int .i64 f.kind, .int .i64 f.lo, .int .i64 f.hi, .int .i64 f.most]) := hid (by rw [← hw0.out]; exact (hB1.alloc _).alloc _)
  have HBG : Hid (Block w0 (w.heap.size + 1) 23 [.int .i64 g.id, .int .i64 g.kind, .int .i64 g.lo, .int .i64 g.hi, .int .i64 g.most]) := hid (by rw [← hw0.out]; exact hB2.alloc _)
  have HBV : Hid (Block w0 (w.heap.size + 2) 25 [.int .i64 v.n, .string v.s]) := hid (by rw [← hw0.out]; exact hB3)
  clear hB1 hB2 hB3
  go_enter Try.func3, Try.ntmps3
  go_wp2
  rw [hw0.out]
  clear hw0
  have hb : Below w0.heap.size w0 w0.drew := below_drewN (Below.refl _ _) 1
  have hbf := HBF.out.drewN 1
  have hbg := HBG.out.drewN 1
  have hbv := HBV.out.drewN 1
  refine plan.region (by kernel_rfl) ?_
  refine plan.Rest.first 0 _ (.agg #[.int .i64 f.id, .int .i64 f.kind, .int .i64 f.lo, .int .i64 f.hi, .int .i64 f.most]) rfl (by kernel_rfl) (by kernel_rfl) (by kernel_rfl) (by kernel_rfl) (fun w' hb' => plan.exec_load rfl (by kernel_rfl) (hbf.later hb').whole Try.underlying23 rfl HLF.out) ?_
  refine plan.Rest.first 2 _ (.agg #[.int .i64 f.id, .int .i64 f.kind, .int .i64 f.lo, .int .i64 f.hi, .int .i64 f.most]) rfl (by kernel_rfl) (by kernel_rfl) (by kernel_rfl) (by kernel_rfl) (fun w' hb' => plan.exec_load rfl (by kernel_rfl) (hbf.later hb').whole Try.underlying23 rfl HLF.out) ?_
  refine plan.Rest.call 1 _ 7 #[.agg #[.int .i64 f.id, .int .i64 f.kind, .int .i64 f.lo, .int .i64 f.hi, .int .i64 f.most]] rfl (by kernel_rfl) (by kernel_rfl) (by kernel_rfl) ((right_any f w0.drew).mono ?_)
  rintro e W1 ⟨rfl, hn⟩
  have hb := hb.trans (hn.mono hb.size)
  have hbf := hbf.later hn
  have hbg := hbg.later hn
  have hbv := hbv.later hn
  refine ⟨_, rfl, hn, ?_⟩
  refine plan.Rest.call 3 _ 8 #[.agg #[.int .i64 f.id, .int .i64 f.kind, .int .i64 f.lo, .int .i64 f.hi, .int .i64 f.most]] rfl (by kernel_rfl) (by kernel_rfl) (by kernel_rfl) ((refRight_any f W1).mono ?_)
  rintro e W2 ⟨rfl, hn⟩
  have hb := hb.trans (hn.mono hb.size)
  have hbf := hbf.later hn
  have hbg := hbg.later hn
  have hbv := hbv.later hn
  refine ⟨_, rfl, hn, ?_⟩
  refine plan.Rest.first 4 _ (.bool true) rfl (by kernel_rfl) (by kernel_rfl) (by kernel_rfl) (by kernel_rfl) (fun w' hb' => (plan.exec_eql (vx := .bool (decide f.Right)) (vy := .bool (decide f.Right)) rfl (by kernel_rfl) (by kernel_rfl) (eqg_bool _ _ _ _ _) (eqs_bool _ _))) ?_
  refine plan.Rest.first 5 _ (.bool true) rfl (by kernel_rfl) (by kernel_rfl) (by kernel_rfl) (by kernel_rfl) (fun w' hb' => (by kernel_rfl)) ?_
  refine plan.Rest.first 6 _ (.agg #[.int .i64 f.id, .int .i64 f.kind, .int .i64 f.lo, .int .i64 f.hi, .int .i64 f.most]) rfl (by kernel_rfl) (by kernel_rfl) (by kernel_rfl) (by kernel_rfl) (fun w' hb' => plan.exec_load rfl (by kernel_rfl) (hbf.later hb').whole Try.underlying23 rfl HLF.out) ?_
  refine plan.Rest.first 7 _ (.agg #[.int .i64 v.n, .string v.s]) rfl (by kernel_rfl) (by kernel_rfl) (by kernel_rfl) (by kernel_rfl) (fun w' hb' => plan.exec_load rfl (by kernel_rfl) (hbv.later hb').whole Try.underlying25 rfl HLV.out) ?_
  refine plan.Rest.first 9 _ (.agg #[.int .i64 f.id, .int .i64 f.kind, .int .i64 f.lo, .int .i64 f.hi, .int .i64 f.most]) rfl (by kernel_rfl) (by kernel_rfl) (by kernel_rfl) (by kernel_rfl) (fun w' hb' => plan.exec_load rfl (by kernel_rfl) (hbf.later hb').whole Try.underlying23 rfl HLF.out) ?_
  refine plan.Rest.first 10 _ (.agg #[.int .i64 v.n, .string v.s]) rfl (by kernel_rfl) (by kernel_rfl) (by kernel_rfl) (by kernel_rfl) (fun w' hb' => plan.exec_load rfl (by kernel_rfl) (hbv.later hb').whole Try.underlying25 rfl HLV.out) ?_
  refine plan.Rest.call 8 _ 9 #[.agg #[.int .i64 f.id, .int .i64 f.kind, .int .i64 f.lo, .int .i64 f.hi, .int .i64 f.most], .agg #[.int .i64 v.n, .string v.s]] rfl (by kernel_rfl) (by kernel_rfl) (by kernel_rfl) ((has_any f v W2).mono ?_)
  rintro e W3 ⟨rfl, hn⟩
  have hb := hb.trans (hn.mono hb.size)
  have hbf := hbf.later hn
  have hbg := hbg.later hn
  have hbv := hbv.later hn
  refine ⟨_, rfl, hn, ?_⟩
  refine plan.Rest.call 11 _ 10 #[.agg #[.int .i64 f.id, .int .i64 f.kind, .int .i64 f.lo, .int .i64 f.hi, .int .i64 f.most], .agg #[.int .i64 v.n, .string v.s]] rfl (by kernel_rfl) (by kernel_rfl) (by kernel_rfl) ((refHas_any f v W3).mono ?_)
  rintro e W4 ⟨rfl, hn⟩
  have hb := hb.trans (hn.mono hb.size)
  have hbf := hbf.later hn
  have hbg := hbg.later hn
  have hbv := hbv.later hn
  refine ⟨_, rfl, hn, ?_⟩
  refine plan.Rest.first 12 _ (.bool true) rfl (by kernel_rfl) (by kernel_rfl) (by kernel_rfl) (by kernel_rfl) (fun w' hb' => (plan.exec_eql (vx := .bool (decide (f.Has v))) (vy := .bool (decide (f.Has v))) rfl (by kernel_rfl) (by kernel_rfl) (eqg_bool _ _ _ _ _) (eqs_bool _ _))) ?_
  refine plan.Rest.first 13 _ (.bool true) rfl (by kernel_rfl) (by kernel_rfl) (by kernel_rfl) (by kernel_rfl) (fun w' hb' => (by kernel_rfl)) ?_
  refine plan.Rest.first 14 _ (.bool true) rfl (by kernel_rfl) (by kernel_rfl) (by kernel_rfl) (by kernel_rfl) (fun w' hb' => (by kernel_rfl)) ?_
  refine plan.Rest.first 15 _ (.agg #[.int .i64 f.id, .int .i64 f.kind, .int .i64 f.lo, .int .i64 f.hi, .int .i64 f.most]) rfl (by kernel_rfl) (by kernel_rfl) (by kernel_rfl) (by kernel_rfl) (fun w' hb' => plan.exec_load rfl (by kernel_rfl) (hbf.later hb').whole Try.underlying23 rfl HLF.out) ?_
  refine plan.Rest.first 17 _ (.agg #[.int .i64 f.id, .int .i64 f.kind, .int .i64 f.lo, .int .i64 f.hi, .int .i64 f.most]) rfl (by kernel_rfl) (by kernel_rfl) (by kernel_rfl) (by kernel_rfl) (fun w' hb' => plan.exec_load rfl (by kernel_rfl) (hbf.later hb').whole Try.underlying23 rfl HLF.out) ?_
  refine plan.Rest.call 16 _ 11 #[.agg #[.int .i64 f.id, .int .i64 f.kind, .int .i64 f.lo, .int .i64 f.hi, .int .i64 f.most]] rfl (by kernel_rfl) (by kernel_rfl) (by kernel_rfl) ((least_any f W4).mono ?_)
  rintro e W5 ⟨rfl, hn⟩
  have hb := hb.trans (hn.mono hb.size)
  have hbf := hbf.later hn
  have hbg := hbg.later hn
  have hbv := hbv.later hn
  refine ⟨_, rfl, hn, ?_⟩
  refine plan.Rest.call 18 _ 12 #[.agg #[.int .i64 f.id, .int .i64 f.kind, .int .i64 f.lo, .int .i64 f.hi, .int .i64 f.most]] rfl (by kernel_rfl) (by kernel_rfl) (by kernel_rfl) ((refLeast_any f W5).mono ?_)
  rintro e W6 ⟨rfl, hn⟩
  have hb := hb.trans (hn.mono hb.size)
  have hbf := hbf.later hn
  have hbg := hbg.later hn
  have hbv := hbv.later hn
  refine ⟨_, rfl, hn, ?_⟩
  refine plan.Rest.first 19 _ (.bool true) rfl (by kernel_rfl) (by kernel_rfl) (by kernel_rfl) (by kernel_rfl) (fun w' hb' => (plan.exec_eql (vx := .agg #[.int .i64 f.least, .string ⟨#[]⟩]) (vy := .agg #[.int .i64 f.least, .string ⟨#[]⟩]) rfl (by kernel_rfl) (by kernel_rfl) (eqg_val _ _ _ _ _ _ _) (eq_val_same _ _ _))) ?_
  refine plan.Rest.first 20 _ (.bool true) rfl (by kernel_rfl) (by kernel_rfl) (by kernel_rfl) (by kernel_rfl) (fun w' hb' => (by kernel_rfl)) ?_
  refine plan.Rest.first 21 _ (.bool true) rfl (by kernel_rfl) (by kernel_rfl) (by kernel_rfl) (by kernel_rfl) (fun w' hb' => (by kernel_rfl)) ?_
  refine plan.Rest.first 22 _ (.agg #[.int .i64 f.id, .int .i64 f.kind, .int .i64 f.lo, .int .i64 f.hi, .int .i64 f.most]) rfl (by kernel_rfl) (by kernel_rfl) (by kernel_rfl) (by kernel_rfl) (fun w' hb' => plan.exec_load rfl (by kernel_rfl) (hbf.later hb').whole Try.underlying23 rfl HLF.out) ?_
  refine plan.Rest.first 24 _ (.agg #[.int .i64 f.id, .int .i64 f.kind, .int .i64 f.lo, .int .i64 f.hi, .int .i64 f.most]) rfl (by kernel_rfl) (by kernel_rfl) (by kernel_rfl) (by kernel_rfl) (fun w' hb' => plan.exec_load rfl (by kernel_rfl) (hbf.later hb').whole Try.underlying23 rfl HLF.out) ?_
  refine plan.Rest.call 23 _ 13 #[.agg #[.int .i64 f.id, .int .i64 f.kind, .int .i64 f.lo, .int .i64 f.hi, .int .i64 f.most]] rfl (by kernel_rfl) (by kernel_rfl) (by kernel_rfl) ((size_any f W6).mono ?_)
  rintro e W7 ⟨rfl, hn⟩
  have hb := hb.trans (hn.mono hb.size)
  have hbf := hbf.later hn
  have hbg := hbg.later hn
  have hbv := hbv.later hn
  refine ⟨_, rfl, hn, ?_⟩
  refine plan.Rest.call 25 _ 14 #[.agg #[.int .i64 f.id, .int .i64 f.kind, .int .i64 f.lo, .int .i64 f.hi, .int .i64 f.most]] rfl (by kernel_rfl) (by kernel_rfl) (by kernel_rfl) ((refSize_any f W7).mono ?_)
  rintro e W8 ⟨rfl, hn⟩
  have hb := hb.trans (hn.mono hb.size)
  have hbf := hbf.later hn
  have hbg := hbg.later hn
  have hbv := hbv.later hn
  refine ⟨_, rfl, hn, ?_⟩
  refine plan.Rest.first 26 _ (.bool true) rfl (by kernel_rfl) (by kernel_rfl) (by kernel_rfl) (by kernel_rfl) (fun w' hb' => (plan.exec_eql (vx := .int .i64 (f.size : Int)) (vy := .int .i64 (f.size : Int)) rfl (by kernel_rfl) (by kernel_rfl) (plan.eqg _ _ _ _ _ _ _ _) (eqs_int _ _))) ?_
  refine plan.Rest.first 27 _ (.bool true) rfl (by kernel_rfl) (by kernel_rfl) (by kernel_rfl) (by kernel_rfl) (fun w' hb' => (by kernel_rfl)) ?_
  refine plan.Rest.first 28 _ (.bool true) rfl (by kernel_rfl) (by kernel_rfl) (by kernel_rfl) (by kernel_rfl) (fun w' hb' => (by kernel_rfl)) ?_
  refine plan.Rest.first 29 _ (.agg #[.int .i64 f.id, .int .i64 f.kind, .int .i64 f.lo, .int .i64 f.hi, .int .i64 f.most]) rfl (by kernel_rfl) (by kernel_rfl) (by kernel_rfl) (by kernel_rfl) (fun w' hb' => plan.exec_load rfl (by kernel_rfl) (hbf.later hb').whole Try.underlying23 rfl HLF.out) ?_
  refine plan.Rest.first 30 _ (.agg #[.int .i64 g.id, .int .i64 g.kind, .int .i64 g.lo, .int .i64 g.hi, .int .i64 g.most]) rfl (by kernel_rfl) (by kernel_rfl) (by kernel_rfl) (by kernel_rfl) (fun w' hb' => plan.exec_load rfl (by kernel_rfl) (hbg.later hb').whole Try.underlying23 rfl HLF.out) ?_
  refine plan.Rest.first 32 _ (.agg #[.int .i64 f.id, .int .i64 f.kind, .int .i64 f.lo, .int .i64 f.hi, .int .i64 f.most]) rfl (by kernel_rfl) (by kernel_rfl) (by kernel_rfl) (by kernel_rfl) (fun w' hb' => plan.exec_load rfl (by kernel_rfl) (hbf.later hb').whole Try.underlying23 rfl HLF.out) ?_
  refine plan.Rest.first 33 _ (.agg #[.int .i64 g.id, .int .i64 g.kind, .int .i64 g.lo, .int .i64 g.hi, .int .i64 g.most]) rfl (by kernel_rfl) (by kernel_rfl) (by kernel_rfl) (by kernel_rfl) (fun w' hb' => plan.exec_load rfl (by kernel_rfl) (hbg.later hb').whole Try.underlying23 rfl HLF.out) ?_
  refine plan.Rest.call 31 _ 15 #[.agg #[.int .i64 f.id, .int .i64 f.kind, .int .i64 f.lo, .int .i64 f.hi, .int .i64 f.most], .agg #[.int .i64 g.id, .int .i64 g.kind, .int .i64 g.lo, .int .i64 g.hi, .int .i64 g.most]] rfl (by kernel_rfl) (by kernel_rfl) (by kernel_rfl) ((wider_any f g W8).mono ?_)
  rintro e W9 ⟨rfl, hn⟩
  have hb := hb.trans (hn.mono hb.size)
  have hbf := hbf.later hn
  have hbg := hbg.later hn
  have hbv := hbv.later hn
  refine ⟨_, rfl, hn, ?_⟩
  refine plan.Rest.call 34 _ 16 #[.agg #[.int .i64 f.id, .int .i64 f.kind, .int .i64 f.lo, .int .i64 f.hi, .int .i64 f.most], .agg #[.int .i64 g.id, .int .i64 g.kind, .int .i64 g.lo, .int .i64 g.hi, .int .i64 g.most]] rfl (by kernel_rfl) (by kernel_rfl) (by kernel_rfl) ((refWider_any f g W9).mono ?_)
  rintro e W10 ⟨rfl, hn⟩
  have hb := hb.trans (hn.mono hb.size)
  have hbf := hbf.later hn
  have hbg := hbg.later hn
  have hbv := hbv.later hn
  refine ⟨_, rfl, hn, ?_⟩
  refine plan.Rest.first 35 _ (.bool true) rfl (by kernel_rfl) (by kernel_rfl) (by kernel_rfl) (by kernel_rfl) (fun w' hb' => (plan.exec_eql (vx := .bool (decide (f.Wider g))) (vy := .bool (decide (f.Wider g))) rfl (by kernel_rfl) (by kernel_rfl) (eqg_bool _ _ _ _ _) (eqs_bool _ _))) ?_
  refine plan.Rest.first 36 _ (.bool true) rfl (by kernel_rfl) (by kernel_rfl) (by kernel_rfl) (by kernel_rfl) (fun w' hb' => (by kernel_rfl)) ?_
  refine plan.Rest.first 37 _ (.bool true) rfl (by kernel_rfl) (by kernel_rfl) (by kernel_rfl) (by kernel_rfl) (fun w' hb' => (by kernel_rfl)) ?_
  refine plan.Rest.call 38 _ 17 #[] rfl (by kernel_rfl) (by kernel_rfl) (by kernel_rfl) ((awake_any W10).mono ?_)
  rintro e W11 ⟨rfl, hn⟩
  have hb := hb.trans (hn.mono hb.size)
  have hbf := hbf.later hn
  have hbg := hbg.later hn
  have hbv := hbv.later hn
  refine ⟨_, rfl, hn, ?_⟩
  refine plan.Rest.first 39 _ (.bool true) rfl (by kernel_rfl) (by kernel_rfl) (by kernel_rfl) (by kernel_rfl) (fun w' hb' => (by kernel_rfl)) ?_
  refine plan.Rest.value 40 _ (.bool true) rfl (by kernel_rfl) (by kernel_rfl) (by kernel_rfl) ?_
  refine plan.Rest.done (by kernel_rfl) ?_
  go_wp2
  exact bodyPost_ret (v := .bool true) (by kernel_rfl) (by kernel_rfl) ⟨rfl, HB2.out _ hb⟩
theorem walk (f g : field.Fd) (v : Va) (w : World) (hf : f.Good w) (hg : g.Good w) (hv : v.Good w) : Calls Try.prog 3 #[f.val, g.val, v.val] w (Yes w) := walk0 f g v w
end Go.Proofs.Ythpiffafakoheaa.fieldTypes
