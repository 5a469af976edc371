/- Contracts and lemmas that the claims of this seat share: FieldRefRight, FieldSmall, FieldStore, FieldRefHas, PlanMore, FieldHas, FieldWider, StepBox. Each says its own conditions. -/
import Derived.Test.YtaciegkblklokaaGreatCmF
import Derived.Test.YtaciegkblklokaaGreatCmB
import Derived.IntWalk
import Derived.Handy
import Derived.Test.YtaciegkblklokaaGreatCmE
import Derived.Test.YtaciegkblklokaaGreatCmC
set_option linter.unusedVariables false
namespace Go.Proofs.YtaciegkblklokaaGreat.field
open Go.RowKit
theorem refRight_any (f : Fd) (w : World) : Calls Tryz.prog 32 #[zF f] w (Gives (.bool (decide f.Right)) w) := by
 have HB := hid (belowF f w)
 unfold Gives
 by_cases h : f.Right
 ·rw [decide_eq_true h]
  have cs := span_from f h (w0 := (w.alloc (.cells (zF f) 26))) (Below.refl _ _)
  clear h
  generalize f.great = G at *
  generalize f.long = L at *
  go_enter Tryz.func32, Tryz.ntmps32
  go_wp2_with (go_at_call 54; (with_reducible refine cs.mono ?_); rintro e w1 ⟨rfl, hb1⟩)
  go_ret
  exact ⟨rfl, HB.out _ hb1⟩
 ·rw [decide_eq_false h]
  have cs := span_from_no f h (w0 := (w.alloc (.cells (zF f) 26))) (Below.refl _ _)
  clear h
  go_enter Tryz.func32, Tryz.ntmps32
  go_wp2_with (go_at_call 54; (with_reducible refine cs.mono ?_); rintro e w1 ⟨⟨a, b, c, rfl⟩, hb1⟩)
  go_ret
  exact ⟨rfl, HB.out _ hb1⟩
theorem refWide_any (n : Nat) (hn : n < 281474976710656) (w : World) : Calls Tryz.prog 96 #[.int .i64 (n : Int)] w (Quiet (.int .i64 (wide n : Int)) w) := by
 go_enter Tryz.func96, Tryz.ntmps96
 go_wp2
 go_loopw [0, 3] (fun m k wr => ∃ (q j : Nat), m = .int .i64 (q : Int) ∧ k = .int .i64 (j : Int) ∧ q ≤ n ∧ j ≤ 100 ∧ Hid (j + wide q = wide n) ∧ w = wr) (fun m k wr => (intOf m).toNat)
 case atStart => exact ⟨n, 0, rfl, rfl, Nat.le_refl _, by omega, hid (by omega), rfl⟩
 case round =>
  obtain ⟨q, j, rfl, rfl, hq, hj, hw, rfl⟩ := hrel
  by_cases hlt : 0 < q
  ·have hd := wide_div hlt (by omega)
   have hw6 := wide_le n
   have := hw.out
   have hj6 : j < 7 := by omega
   have HN : Hid (j + 1 + wide (q / 256) = wide n) := hid (by omega)
   clear hw hd this
   go_wp2
   go_round
   ·exact ⟨q / 256, j + 1, by simp, by simp, by omega, by omega, HN, trivial⟩
   ·simp [intOf]; omega
  ·obtain rfl : q = 0 := by omega
   have hj2 := hw.out
   rw [show wide 0 = 0 from rfl] at hj2
   obtain rfl : j = wide n := by omega
   clear hw hj2 hlt
   generalize wide n = W at *
   go_wp2
   go_ret
   exact ⟨rfl, 0, rfl⟩
theorem refSize_any (f : Fd) (w : World) : Calls Tryz.prog 78 #[zF f] w (Gives (.int .i64 (f.size : Int)) w) := by
 have HB := hid (belowF f w)
 have HS := hid (five f w)
 have hsz : f.size = if f.Right then (if f.kind = 4 then 1 + f.most.toNat else wide (f.great - f.lo).toNat) else 0 := rfl
 rw [hsz]
 unfold Gives
 by_cases hr : f.Right
 ·rw [if_pos hr]
  have cs := span_from f hr (w0 := (w.alloc (.cells (zF f) 26))) (Below.refl _ _)
  have hsp := hr.span
  by_cases h4 : f.kind = 4
  ·rw [if_pos h4]
   have hl : f.long = f.most := by unfold Fd.long; rw [if_pos h4]
   rw [hl] at cs
   have hm : 0 ≤ f.most ∧ f.most ≤ 32 := by unfold Fd.Right at hr; omega
   obtain ⟨M, hM⟩ := Int.eq_ofNat_of_zero_le hm.1
   rw [hM] at cs HB HS ⊢
   rw [show ((M : Int)).toNat = M from rfl]
   have m2 : M ≤ 32 := by omega
   have e4 : (f.kind == 4) = true := by rw [beq_iff_eq]; exact h4
   clear hl hm hsp hr hsz h4
   generalize f.great = G at *
   go_enter Tryz.func78, Tryz.ntmps78
   go_wp2_with (go_at_call 54; go_loud ((with_reducible refine cs.mono ?_); rintro e w1 ⟨rfl, hb1⟩; have hk1 := HS.out _ hb1))
   go_ret
   exact ⟨ret_int (by omega), HB.out _ hb1⟩
  ·rw [if_neg h4]
   obtain ⟨T, hT⟩ : ∃ T : Nat, f.great - f.lo = (T : Int) := ⟨(f.great - f.lo).toNat, by omega⟩
   have hTb : T ≤ 2199023255552 := by omega
   rw [hT]
   rw [show ((T : Int)).toNat = T from rfl]
   have cw := refWide_any T (by omega)
   have e4 : (f.kind == 4) = false := by rw [beq_eq_false_iff_ne]; exact h4
   have s1 := hsp.2.2.1
   have s2 := hsp.2.2.2.1
   clear hsp hr hsz h4
   generalize f.great = G at *
   generalize f.long = L at *
   obtain rfl : G = f.lo + (T : Int) := by omega
   clear hT
   have hsub : f.lo + (T : Int) - f.lo = (T : Int) := by omega
   go_enter Tryz.func78, Tryz.ntmps78
   go_wp2_with (first
    | (go_at_call 54; (with_reducible refine cs.mono ?_); rintro e w1 ⟨rfl, hb1⟩; have hk1 := HS.out _ hb1)
    | (go_at_call 96; (try rw [hsub]); (with_reducible refine (cw _).mono ?_); rintro e w2 ⟨rfl, nd, rfl⟩))
   go_ret
   exact ⟨rfl, HB.out _ (below_drewN hb1 _)⟩
 ·rw [if_neg hr]
  have cs := span_from_no f hr (w0 := (w.alloc (.cells (zF f) 26))) (Below.refl _ _)
  clear hr hsz
  go_enter Tryz.func78, Tryz.ntmps78
  go_wp2_with (go_at_call 54; (with_reducible refine cs.mono ?_); rintro e w1 ⟨⟨a, b, c, rfl⟩, hb1⟩; have hk1 := HS.out _ hb1)
  go_ret
  exact ⟨rfl, HB.out _ hb1⟩
end Go.Proofs.YtaciegkblklokaaGreat.field
namespace Go.Proofs.YtaciegkblklokaaGreat.field
open Go.RowKit
theorem longest_any (f : Fd) (w : World) : Calls Tryz.prog 103 #[zF f] w (Gives (.int .i64 f.long) w) := by
 obtain ⟨i, k, lo, hi, m⟩ := f
 simp only
 unfold Gives
 by_cases hk : k = 4
 ·subst hk
  rw [show Fd.long ⟨i, 4, lo, hi, m⟩ = m from rfl]
  go_enter Tryz.func103, Tryz.ntmps103
  go_wp2
  go_ret
  exact ⟨rfl, newB _ _⟩
 ·rw [show Fd.long ⟨i, k, lo, hi, m⟩ = 0 from if_neg hk]
  have e4 : (k == 4) = false := by rw [beq_eq_false_iff_ne]; exact hk
  clear hk
  go_enter Tryz.func103, Tryz.ntmps103
  go_wp2
  go_ret
  exact ⟨rfl, newB _ _⟩
end Go.Proofs.YtaciegkblklokaaGreat.field
namespace Go.Proofs.YtaciegkblklokaaGreat.field
open Go.RowKit
theorem two (v : Va) (w w' : World) (hb : Below (w.alloc (.cells (zV v) 28)).heap.size (w.alloc (.cells (zV v) 28)) w') : (w'.cell? ⟨w.heap.size, 0, none⟩ = some (.int .i64 v.n) ∧ w'.cell? ⟨w.heap.size, 1, none⟩ = some (.string v.s)) := by
 have hB := (Block.new w 28 (zV v)).later hb
 exact ⟨hB.cell 0, hB.cell 1⟩
def W2 (f : Fd) (w : World) : World := (w.alloc (.cells (zF f) 26)).alloc (.cells #[.int .i64 0, .string ⟨#[]⟩] 28)
theorem W2.all (f : Fd) (w w' : World) (hb : Below (W2 f w).heap.size (W2 f w) w') : (w'.cell? ⟨w.heap.size, 0, none⟩ = some (.int .i64 f.id) ∧ w'.cell? ⟨w.heap.size, 1, none⟩ = some (.int .i64 f.kind) ∧ w'.cell? ⟨w.heap.size, 2, none⟩ = some (.int .i64 f.lo) ∧ w'.cell? ⟨w.heap.size, 3, none⟩ = some (.int .i64 f.hi) ∧ w'.cell? ⟨w.heap.size, 4, none⟩ = some (.int .i64 f.most)) ∧ Block w' (w.heap.size + 1) 28 [.int .i64 0, .string ⟨#[]⟩] ∧ Below w.heap.size w w' := by
 have h1 : Below (w.alloc (.cells (zF f) 26)).heap.size (w.alloc (.cells (zF f) 26)) w' := (newB _ _).trans (hb.mono (by unfold W2; simp))
 refine ⟨five f w w' h1, ?_, belowF f w w' h1⟩
 have h2 := (Block.new (w.alloc (.cells (zF f) 26)) 28 [.int .i64 0, .string ⟨#[]⟩]).later hb
 simpa using h2
theorem results_cell3 {fn : Func} {p u v : Tmp} {ty : TypeId} {tmps : Array Value} {P : Program} {w : World} {b o : Nat} {cs : List Value} {d : TypeDesc} (h : fn.results = #[.cell p ty, .tmp u, .tmp v])
  (hp : tmps.getD p undef = .pointer (some ⟨b, o, none⟩)) (hc : w.rangeAt b o cs) (hu : P.underlying ty = some d) (hd : d.isRow = true) (hi : (P.info? ty).map (·.size) = some cs.length) :
  (results fn tmps).run P w = .ok (.tuple #[.agg cs.toArray, tmps.getD u undef, tmps.getD v undef]) w := by
 simp only [results, h]
 simp at hp
 simp [hp, asAddr, run_loadVar_mid w b o ty cs d hc hu hd hi]
end Go.Proofs.YtaciegkblklokaaGreat.field
namespace Go.Proofs.YtaciegkblklokaaGreat.field
open Go.RowKit
def WV (f : Fd) (v : Va) (w : World) : World := (w.alloc (.cells (zF f) 26)).alloc (.cells (zV v) 28)
theorem WV.all (f : Fd) (v : Va) (w w' : World) (hb : Below (WV f v w).heap.size (WV f v w) w') : (w'.cell? ⟨w.heap.size, 0, none⟩ = some (.int .i64 f.id) ∧ w'.cell? ⟨w.heap.size, 1, none⟩ = some (.int .i64 f.kind) ∧ w'.cell? ⟨w.heap.size, 2, none⟩ = some (.int .i64 f.lo) ∧ w'.cell? ⟨w.heap.size, 3, none⟩ = some (.int .i64 f.hi) ∧ w'.cell? ⟨w.heap.size, 4, none⟩ = some (.int .i64 f.most)) ∧ (w'.cell? ⟨w.heap.size + 1, 0, none⟩ = some (.int .i64 v.n) ∧ w'.cell? ⟨w.heap.size + 1, 1, none⟩ = some (.string v.s)) ∧ Below w.heap.size w w' := by
 have h1 : Below (w.alloc (.cells (zF f) 26)).heap.size (w.alloc (.cells (zF f) 26)) w' := (newB _ _).trans (hb.mono (by unfold WV; simp))
 refine ⟨five f w w' h1, ?_, belowF f w w' h1⟩
 have h2 := two v (w.alloc (.cells (zF f) 26)) w' hb
 simpa using h2
theorem refHas_any (f : Fd) (v : Va) (w : World) : Calls Tryz.prog 33 #[zF f, zV v] w (Gives (.bool (decide (f.Has v))) w) := by
 have HW := hid (WV.all f v w)
 obtain ⟨V, hV⟩ : ∃ V, Hid (decide (f.Has v) = V) := ⟨_, rfl⟩
 rw [hV.out]
 unfold Gives
 by_cases h : f.Right
 ·have cs := span_from f h (w0 := WV f v w) (Below.refl _ _)
  have HQ : Hid (f.Has v ↔ (v.n ≥ f.lo ∧ v.n ≤ f.great ∧ (v.s.size : Int) ≤ f.long)) := hid ⟨fun k => ⟨k.2.1.1, k.2.1.2, k.2.2⟩, fun k => ⟨h, ⟨k.1, k.2.1⟩, k.2.2⟩⟩
  unfold WV at cs HW
  clear h
  generalize f.great = G at *
  generalize f.long = L at *
  generalize hN : (v.s.size : Int) = N at *
  by_cases a1 : v.n ≥ f.lo
  ·by_cases a2 : v.n ≤ G
   ·by_cases a3 : N ≤ L
    ·have HY : Hid (true = V) := hid (by rw [← hV.out]; symm; exact decide_eq_true (HQ.out.2 ⟨a1, a2, a3⟩))
     clear HQ hV
     go_enter Tryz.func33, Tryz.ntmps33
     go_wp2_with (go_at_call 54; (with_reducible refine cs.mono ?_); rintro e w1 ⟨rfl, hb1⟩; obtain ⟨hf1, hv1, hbw1⟩ := HW.out _ hb1; clear cs)
     go_ret
     exact ⟨ret_bool HY.out, hbw1⟩
    ·have HY : Hid (false = V) := hid (by rw [← hV.out]; symm; exact decide_eq_false (fun k => a3 (HQ.out.1 k).2.2))
     have d3 : decide (N ≤ L) = false := decide_eq_false a3
     clear HQ hV a3
     go_enter Tryz.func33, Tryz.ntmps33
     go_wp2_with (go_at_call 54; (with_reducible refine cs.mono ?_); rintro e w1 ⟨rfl, hb1⟩; obtain ⟨hf1, hv1, hbw1⟩ := HW.out _ hb1; clear cs)
     go_ret
     exact ⟨ret_bool HY.out, hbw1⟩
   ·have HY : Hid (false = V) := hid (by rw [← hV.out]; symm; exact decide_eq_false (fun k => a2 (HQ.out.1 k).2.1))
    have d3 : decide (v.n ≤ G) = false := decide_eq_false a2
    clear HQ hV a2
    go_enter Tryz.func33, Tryz.ntmps33
    go_wp2_with (go_at_call 54; (with_reducible refine cs.mono ?_); rintro e w1 ⟨rfl, hb1⟩; obtain ⟨hf1, hv1, hbw1⟩ := HW.out _ hb1; clear cs)
    go_ret
    exact ⟨ret_bool HY.out, hbw1⟩
  ·have HY : Hid (false = V) := hid (by rw [← hV.out]; symm; exact decide_eq_false (fun k => a1 (HQ.out.1 k).1))
   have d3 : decide (v.n ≥ f.lo) = false := decide_eq_false a1
   clear HQ hV a1
   go_enter Tryz.func33, Tryz.ntmps33
   go_wp2_with (go_at_call 54; (with_reducible refine cs.mono ?_); rintro e w1 ⟨rfl, hb1⟩; obtain ⟨hf1, hv1, hbw1⟩ := HW.out _ hb1; clear cs)
   go_ret
   exact ⟨ret_bool HY.out, hbw1⟩
 ·have cs := span_from_no f h (w0 := WV f v w) (Below.refl _ _)
  have HY : Hid (false = V) := hid (by rw [← hV.out]; symm; exact decide_eq_false (fun k => h k.1))
  unfold WV at cs HW
  clear h hV
  go_enter Tryz.func33, Tryz.ntmps33
  go_wp2_with (go_at_call 54; (with_reducible refine cs.mono ?_); rintro e w1 ⟨⟨a, b, c, rfl⟩, hb1⟩; obtain ⟨hf1, hv1, hbw1⟩ := HW.out _ hb1; clear cs)
  go_ret
  exact ⟨ret_bool HY.out, hbw1⟩
end Go.Proofs.YtaciegkblklokaaGreat.field
namespace Go.Proofs.YtaciegkblklokaaGreat.plan
open Go Go.RowKit
section
variable {P : Program} {md : Region.Mode} {Q : Exit → Act → World → Prop} {l : List Oper}
theorem Rest.skip {f : Nat} {listed : Array Bool} {a : Act} {w : World} (i : Nat) (o : Oper) (hi : l[i]? = some o)
  (h : Rest P md l Q f (listed.setIfInBounds i true) (a.put o.dst undef) w) (hs : Region.noSelect l.toArray = true := by kernel_rfl) (hf : Region.free md l.toArray listed i = true := by kernel_rfl) (hr : (Region.ready md l.toArray listed).contains i = true := by kernel_rfl) (hw : Region.wanted o (yielded l.toArray a.tmps) = false := by kernel_rfl) : Rest P md l Q (f + 1) listed a w :=
 wpAnyH_take (by simpa using hi) hs hf hr (fun c a' w' h => h) (.inr ⟨hw, rfl⟩) (Below.refl _ _) h
end
end Go.Proofs.YtaciegkblklokaaGreat.plan
namespace Go.Proofs.YtaciegkblklokaaGreat.field
open Go.RowKit
theorem exec_cell_int {P : Program} {o : Oper} {a : Act} {w : World} {ty : TypeId} {x : Operand} {ad : Addr} {k : IntKind} {n : Int} (ho : o.op = .load ty x) (hx : a.eval x = .pointer (some ad)) (hc : w.cell? ad = some (.int k n)) (hu : ∀ w', (isAgg ty).run P w' = .ok false w') :
  (execOp a.eval o).run P w = .ok (.value (.int k n)) w := by
 unfold execOp
 rw [ho]
 simp only [hx]
 go_simp
theorem exec_cell_str {P : Program} {o : Oper} {a : Act} {w : World} {ty : TypeId} {x : Operand} {ad : Addr} {s : ByteArray} (ho : o.op = .load ty x) (hc : w.cell? ad = some (.string s)) (hu : ∀ w', (isAgg ty).run P w' = .ok false w') (hx : a.eval x = .pointer (some ad) := by kernel_rfl) :
  (execOp a.eval o).run P w = .ok (.value (.string s)) w := by
 unfold execOp
 rw [ho]
 simp only [hx]
 go_simp
theorem info_field : Hid ((Tryz.prog.info? 26).map (·.size) = some 5) := by show _ = _; kernel_rfl
theorem within_at (n lo hi : Int) (w : World) (b : Bool) (h : Hid (decide (lo ≤ n ∧ n ≤ hi) = b)) : Calls Tryz.prog 101 #[.int .i64 n, .int .i64 lo, .int .i64 hi] w (Gives (.bool b) w) := by
 by_cases hb : lo ≤ n ∧ n ≤ hi
 ·obtain rfl : b = true := by rw [← h.out]; exact decide_eq_true hb
  exact (within_yes n lo hi w hb.1 hb.2).mono fun _ _ ⟨he, hw⟩ => ⟨he, hw ▸ Below.refl _ _⟩
 ·obtain rfl : b = false := by rw [← h.out]; exact decide_eq_false hb
  exact (within_no n lo hi w (by omega)).mono fun _ _ ⟨he, hw⟩ => ⟨he, hw ▸ Below.refl _ _⟩
set_option maxRecDepth 20000 in
theorem has_any (f : Fd) (v : Va) (w : World) : Calls Tryz.prog 85 #[zF f, zV v] w (Gives (.bool (decide (f.Has v))) w) := by
 have HLF := info_field
 have HB := hid (fun w' hb => (WV.all f v w w' hb).2.2)
 obtain ⟨w0, hw0⟩ : ∃ x, Hid ((w.alloc (.cells (zF f) 26)).alloc (.cells (zV v) 28) = x) := ⟨_, rfl⟩
 have HB2 : Hid (∀ w', Below w0.heap.size w0 w' → Below w.heap.size w w') := hid (by rw [← hw0.out]; exact HB.out)
 have HBF : Hid (Block w0.drew w.heap.size 26 (zF f)) := hid (by rw [← hw0.out]; exact ((Block.new w 26 (zF f)).alloc _).drewN 1)
 have HBV : Hid (Block w0.drew (w.heap.size + 1) 28 (zV v)) := hid (by
  have h := Block.new (w.alloc (.cells (zF f) 26)) 28 (zV v)
  rw [World.size_alloc] at h
  rw [← hw0.out]
  exact h.drewN 1)
 obtain ⟨r, hr⟩ : ∃ r, Hid (decide (f.Has v) = r) := ⟨_, rfl⟩
 rw [hr.out]
 unfold Gives
 go_enter Tryz.func85, Tryz.ntmps85
 go_wp2
 rw [hw0.out]
 clear HB hw0
 have hb : Below w0.heap.size w0 w0.drew := below_drewN (Below.refl _ _) 1
 have hblk := HBF.out
 have hval := HBV.out
 refine plan.region (by kernel_rfl) ?_
 by_cases h : f.Right
 ·by_cases hi : f.lo ≤ v.n ∧ v.n ≤ f.great
  ·have hin : Hid (decide (f.lo ≤ v.n ∧ v.n ≤ f.great) = true) := decide_eq_true hi
   refine plan.Rest.first 0 _ (zF f) rfl (fun w' hb' => plan.exec_load rfl (hblk.later hb').whole Tryz.underlying26 rfl HLF.out) ?_
   refine plan.Rest.call 1 _ 97 #[zF f] rfl ((right_yes f h w0.drew).mono ?_)
   rintro e W1 ⟨rfl, hn⟩
   have hb := hb.trans (hn.mono hb.size)
   have hblk := hblk.later hn
   have hval := hval.later hn
   refine ⟨_, rfl, hn, ?_⟩
   refine plan.Rest.first 2 _ (.bool true) rfl (fun w' hb' => (by kernel_rfl)) ?_
   refine plan.Rest.first 3 _ (.pointer (some ⟨w.heap.size + 1, 0, none⟩)) rfl (fun w' hb' => (by kernel_rfl)) ?_
   refine plan.Rest.first 4 _ (.int .i64 v.n) rfl (fun w' hb' => exec_cell_int (ad := ⟨w.heap.size + 1, 0, none⟩) rfl (by kernel_rfl) ((hval.later hb').cell 0) Tryz.isAgg3) ?_
   refine plan.Rest.first 5 _ (.pointer (some ⟨w.heap.size, 2, none⟩)) rfl (fun w' hb' => (by kernel_rfl)) ?_
   refine plan.Rest.first 6 _ (.int .i64 f.lo) rfl (fun w' hb' => exec_cell_int (ad := ⟨w.heap.size, 2, none⟩) rfl (by kernel_rfl) ((hblk.later hb').cell 2) Tryz.isAgg3) ?_
   refine plan.Rest.first 7 _ (zF f) rfl (fun w' hb' => plan.exec_load rfl (hblk.later hb').whole Tryz.underlying26 rfl HLF.out) ?_
   refine plan.Rest.call 8 _ 102 #[zF f] rfl ((greatest_any f h W1).mono ?_)
   rintro e W2 ⟨rfl, hn⟩
   have hb := hb.trans (hn.mono hb.size)
   have hblk := hblk.later hn
   have hval := hval.later hn
   refine ⟨_, rfl, hn, ?_⟩
   refine plan.Rest.call 9 _ 101 #[.int .i64 v.n, .int .i64 f.lo, .int .i64 f.great] rfl ((within_at v.n f.lo f.great W2 true hin).mono ?_)
   rintro e W3 ⟨rfl, hn⟩
   have hb := hb.trans (hn.mono hb.size)
   have hblk := hblk.later hn
   have hval := hval.later hn
   refine ⟨_, rfl, hn, ?_⟩
   refine plan.Rest.first 10 _ (.bool true) rfl (fun w' hb' => (by kernel_rfl)) ?_
   refine plan.Rest.first 11 _ (.bool true) rfl (fun w' hb' => (by kernel_rfl)) ?_
   refine plan.Rest.first 12 _ (.pointer (some ⟨w.heap.size + 1, 1, none⟩)) rfl (fun w' hb' => (by kernel_rfl)) ?_
   refine plan.Rest.first 13 _ (.string v.s) rfl (fun w' hb' => exec_cell_str (ad := ⟨w.heap.size + 1, 1, none⟩) rfl ((hval.later hb').cell 1) Tryz.isAgg9) ?_
   refine plan.Rest.first 14 _ (.int .i64 (v.s.size : Int)) rfl (fun w' hb' => (by kernel_rfl)) ?_
   refine plan.Rest.first 15 _ (zF f) rfl (fun w' hb' => plan.exec_load rfl (hblk.later hb').whole Tryz.underlying26 rfl HLF.out) ?_
   refine plan.Rest.call 16 _ 103 #[zF f] rfl ((longest_any f W3).mono ?_)
   rintro e W4 ⟨rfl, hn⟩
   have hb := hb.trans (hn.mono hb.size)
   have hblk := hblk.later hn
   have hval := hval.later hn
   refine ⟨_, rfl, hn, ?_⟩
   refine plan.Rest.first 17 _ (.bool (decide ((v.s.size : Int) ≤ f.long))) rfl (fun w' hb' => (by kernel_rfl)) ?_
   refine plan.Rest.first 18 _ (.bool (decide ((v.s.size : Int) ≤ f.long))) rfl (fun w' hb' => (by kernel_rfl)) ?_
   refine plan.Rest.value 19 _ (.bool (decide ((v.s.size : Int) ≤ f.long))) rfl ?_
   refine plan.Rest.done ?_
   go_wp2
   exact bodyPost_ret (v := .bool (decide ((v.s.size : Int) ≤ f.long))) (by kernel_rfl) (by kernel_rfl) ⟨ret_bool (by rw [← hr.out]; exact decide_eq_decide.2 ⟨fun k => ⟨h, hi, k⟩, fun k => k.2.2⟩), HB2.out _ hb⟩
  ·have hin : Hid (decide (f.lo ≤ v.n ∧ v.n ≤ f.great) = false) := decide_eq_false hi
   refine plan.Rest.first 0 _ (zF f) rfl (fun w' hb' => plan.exec_load rfl (hblk.later hb').whole Tryz.underlying26 rfl HLF.out) ?_
   refine plan.Rest.call 1 _ 97 #[zF f] rfl ((right_yes f h w0.drew).mono ?_)
   rintro e W1 ⟨rfl, hn⟩
   have hb := hb.trans (hn.mono hb.size)
   have hblk := hblk.later hn
   have hval := hval.later hn
   refine ⟨_, rfl, hn, ?_⟩
   refine plan.Rest.first 2 _ (.bool true) rfl (fun w' hb' => (by kernel_rfl)) ?_
   refine plan.Rest.first 3 _ (.pointer (some ⟨w.heap.size + 1, 0, none⟩)) rfl (fun w' hb' => (by kernel_rfl)) ?_
   refine plan.Rest.first 4 _ (.int .i64 v.n) rfl (fun w' hb' => exec_cell_int (ad := ⟨w.heap.size + 1, 0, none⟩) rfl (by kernel_rfl) ((hval.later hb').cell 0) Tryz.isAgg3) ?_
   refine plan.Rest.first 5 _ (.pointer (some ⟨w.heap.size, 2, none⟩)) rfl (fun w' hb' => (by kernel_rfl)) ?_
   refine plan.Rest.first 6 _ (.int .i64 f.lo) rfl (fun w' hb' => exec_cell_int (ad := ⟨w.heap.size, 2, none⟩) rfl (by kernel_rfl) ((hblk.later hb').cell 2) Tryz.isAgg3) ?_
   refine plan.Rest.first 7 _ (zF f) rfl (fun w' hb' => plan.exec_load rfl (hblk.later hb').whole Tryz.underlying26 rfl HLF.out) ?_
   refine plan.Rest.call 8 _ 102 #[zF f] rfl ((greatest_any f h W1).mono ?_)
   rintro e W2 ⟨rfl, hn⟩
   have hb := hb.trans (hn.mono hb.size)
   have hblk := hblk.later hn
   have hval := hval.later hn
   refine ⟨_, rfl, hn, ?_⟩
   refine plan.Rest.call 9 _ 101 #[.int .i64 v.n, .int .i64 f.lo, .int .i64 f.great] rfl ((within_at v.n f.lo f.great W2 false hin).mono ?_)
   rintro e W3 ⟨rfl, hn⟩
   have hb := hb.trans (hn.mono hb.size)
   have hblk := hblk.later hn
   have hval := hval.later hn
   refine ⟨_, rfl, hn, ?_⟩
   refine plan.Rest.first 10 _ (.bool false) rfl (fun w' hb' => (by kernel_rfl)) ?_
   refine plan.Rest.first 11 _ (.bool false) rfl (fun w' hb' => (by kernel_rfl)) ?_
   refine plan.Rest.skip 12 _ rfl ?_
   refine plan.Rest.skip 13 _ rfl ?_
   refine plan.Rest.skip 14 _ rfl ?_
   refine plan.Rest.skip 15 _ rfl ?_
   refine plan.Rest.skip 16 _ rfl ?_
   refine plan.Rest.skip 17 _ rfl ?_
   refine plan.Rest.first 18 _ (.bool false) rfl (fun w' hb' => (by kernel_rfl)) ?_
   refine plan.Rest.value 19 _ (.bool false) rfl ?_
   refine plan.Rest.done ?_
   go_wp2
   exact bodyPost_ret (v := .bool false) (by kernel_rfl) (by kernel_rfl) ⟨ret_bool (by rw [← hr.out]; exact (decide_eq_false (fun k => hi k.2.1)).symm), HB2.out _ hb⟩
 ·refine plan.Rest.first 0 _ (zF f) rfl (fun w' hb' => plan.exec_load rfl (hblk.later hb').whole Tryz.underlying26 rfl HLF.out) ?_
  refine plan.Rest.call 1 _ 97 #[zF f] rfl ((right_no f h w0.drew).mono ?_)
  rintro e W1 ⟨rfl, hn⟩
  have hb := hb.trans (hn.mono hb.size)
  have hblk := hblk.later hn
  have hval := hval.later hn
  refine ⟨_, rfl, hn, ?_⟩
  refine plan.Rest.first 2 _ (.bool false) rfl (fun w' hb' => (by kernel_rfl)) ?_
  refine plan.Rest.skip 3 _ rfl ?_
  refine plan.Rest.skip 4 _ rfl ?_
  refine plan.Rest.skip 5 _ rfl ?_
  refine plan.Rest.skip 6 _ rfl ?_
  refine plan.Rest.skip 7 _ rfl ?_
  refine plan.Rest.skip 8 _ rfl ?_
  refine plan.Rest.skip 9 _ rfl ?_
  refine plan.Rest.first 10 _ (.bool false) rfl (fun w' hb' => (by kernel_rfl)) ?_
  refine plan.Rest.first 11 _ (.bool false) rfl (fun w' hb' => (by kernel_rfl)) ?_
  refine plan.Rest.skip 12 _ rfl ?_
  refine plan.Rest.skip 13 _ rfl ?_
  refine plan.Rest.skip 14 _ rfl ?_
  refine plan.Rest.skip 15 _ rfl ?_
  refine plan.Rest.skip 16 _ rfl ?_
  refine plan.Rest.skip 17 _ rfl ?_
  refine plan.Rest.first 18 _ (.bool false) rfl (fun w' hb' => (by kernel_rfl)) ?_
  refine plan.Rest.value 19 _ (.bool false) rfl ?_
  refine plan.Rest.done ?_
  go_wp2
  exact bodyPost_ret (v := .bool false) (by kernel_rfl) (by kernel_rfl) ⟨ret_bool (by rw [← hr.out]; exact (decide_eq_false (fun k => h k.1)).symm), HB2.out _ hb⟩
end Go.Proofs.YtaciegkblklokaaGreat.field
namespace Go.Proofs.YtaciegkblklokaaGreat.field
open Go.RowKit
def WW (f g : Fd) (w : World) : World := (w.alloc (.cells (zF f) 26)).alloc (.cells (zF g) 26)
theorem WW.all (f g : Fd) (w w' : World) (hb : Below (WW f g w).heap.size (WW f g w) w') : (w'.cell? ⟨w.heap.size, 0, none⟩ = some (.int .i64 f.id) ∧ w'.cell? ⟨w.heap.size, 1, none⟩ = some (.int .i64 f.kind) ∧ w'.cell? ⟨w.heap.size, 2, none⟩ = some (.int .i64 f.lo) ∧ w'.cell? ⟨w.heap.size, 3, none⟩ = some (.int .i64 f.hi) ∧ w'.cell? ⟨w.heap.size, 4, none⟩ = some (.int .i64 f.most)) ∧ (w'.cell? ⟨w.heap.size + 1, 0, none⟩ = some (.int .i64 g.id) ∧ w'.cell? ⟨w.heap.size + 1, 1, none⟩ = some (.int .i64 g.kind) ∧ w'.cell? ⟨w.heap.size + 1, 2, none⟩ = some (.int .i64 g.lo) ∧ w'.cell? ⟨w.heap.size + 1, 3, none⟩ = some (.int .i64 g.hi) ∧ w'.cell? ⟨w.heap.size + 1, 4, none⟩ = some (.int .i64 g.most)) ∧ Below w.heap.size w w' := by
 have h1 : Below (w.alloc (.cells (zF f) 26)).heap.size (w.alloc (.cells (zF f) 26)) w' := (newB _ _).trans (hb.mono (by unfold WW; simp))
 refine ⟨five f w w' h1, ?_, belowF f w w' h1⟩
 have h2 := five g (w.alloc (.cells (zF f) 26)) w' hb
 simpa using h2
theorem Fd.wider_span {f g : Fd} (hf : f.Right) (hg : g.Right) : f.Wider g ↔ f.kind = g.kind ∧ g.lo ≤ f.lo ∧ f.great ≤ g.great ∧ f.long ≤ g.long := by
 have h1 := hf
 have h2 := hg
 unfold Fd.Right at h1 h2
 unfold Fd.Wider Fd.great Fd.long
 constructor
 ·rintro ⟨_, _, hk, h3, h4, h5⟩
  rw [← hk]
  rcases kinds hf with k | k | k | k <;> rw [k] <;> simp <;> omega
 ·rintro ⟨hk, h3, h4, h5⟩
  rw [← hk] at h4 h5 h2
  refine ⟨hf, hg, hk, h3, ?_⟩
  rcases kinds hf with k | k | k | k <;> rw [k] at h4 h5 h1 h2 <;> simp at h4 h5 <;> omega
set_option maxHeartbeats 4000000 in
theorem wider_any (f g : Fd) (w : World) : Calls Tryz.prog 86 #[zF f, zF g] w (Gives (.bool (decide (f.Wider g))) w) := by
 have HW := hid (WW.all f g w)
 obtain ⟨V, hV⟩ : ∃ V, Hid (decide (f.Wider g) = V) := ⟨_, rfl⟩
 rw [hV.out]
 unfold Gives
 by_cases hf : f.Right
 ·by_cases hg : g.Right
  ·have cr1 := gives_from (right_any f (WW f g w)) (w0 := WW f g w) (Below.refl _ _)
   have cr2 := fun w1 (hb : Below (WW f g w).heap.size (WW f g w) w1) => gives_from (right_any g w1) hb
   rw [decide_eq_true hf] at cr1
   rw [decide_eq_true hg] at cr2
   have HQ : Hid (f.Wider g ↔ (f.kind = g.kind ∧ g.lo ≤ f.lo ∧ f.hi ≤ g.hi ∧ f.most ≤ g.most)) := hid ⟨fun h => h.2.2, fun h => ⟨hf, hg, h⟩⟩
   unfold WW at cr1 cr2 HW
   clear hf hg
   by_cases a1 : f.kind = g.kind
   ·by_cases a2 : g.lo ≤ f.lo
    ·by_cases a3 : f.hi ≤ g.hi
     ·by_cases a4 : f.most ≤ g.most
      ·have HY : Hid (true = V) := hid (by rw [← hV.out]; symm; exact decide_eq_true (by rw [HQ.out]; omega))
       clear HQ hV
       have e1 : (f.kind == g.kind) = true := by rw [beq_iff_eq]; exact a1
       clear a1
       go_enter Tryz.func86, Tryz.ntmps86
       go_wp2_with (first
        | (go_at_call 97; (with_reducible refine cr1.mono ?_); rintro e w1 ⟨rfl, hb1⟩; obtain ⟨hf1, hg1, hbw1⟩ := HW.out _ hb1; clear cr1)
        | (go_at_call 97; (with_reducible refine (cr2 _ hb1).mono ?_); rintro e w2 ⟨rfl, hb2⟩; obtain ⟨hf2, hg2, hbw2⟩ := HW.out _ hb2))
       go_ret
       exact ⟨ret_bool (HY.out), hbw2⟩
      ·have HY : Hid (false = V) := hid (by rw [← hV.out]; symm; exact decide_eq_false (by rw [HQ.out]; omega))
       clear HQ hV
       have e1 : (f.kind == g.kind) = true := by rw [beq_iff_eq]; exact a1
       have d4 : decide (f.most ≤ g.most) = false := decide_eq_false a4
       clear a1 a4
       go_enter Tryz.func86, Tryz.ntmps86
       go_wp2_with (first
        | (go_at_call 97; (with_reducible refine cr1.mono ?_); rintro e w1 ⟨rfl, hb1⟩; obtain ⟨hf1, hg1, hbw1⟩ := HW.out _ hb1; clear cr1)
        | (go_at_call 97; (with_reducible refine (cr2 _ hb1).mono ?_); rintro e w2 ⟨rfl, hb2⟩; obtain ⟨hf2, hg2, hbw2⟩ := HW.out _ hb2))
       go_ret
       exact ⟨ret_bool (HY.out), hbw2⟩
     ·have HY : Hid (false = V) := hid (by rw [← hV.out]; symm; exact decide_eq_false (by rw [HQ.out]; omega))
      clear HQ hV
      have e1 : (f.kind == g.kind) = true := by rw [beq_iff_eq]; exact a1
      have d4 : decide (f.hi ≤ g.hi) = false := decide_eq_false a3
      clear a1 a3
      go_enter Tryz.func86, Tryz.ntmps86
      go_wp2_with (first
       | (go_at_call 97; (with_reducible refine cr1.mono ?_); rintro e w1 ⟨rfl, hb1⟩; obtain ⟨hf1, hg1, hbw1⟩ := HW.out _ hb1; clear cr1)
       | (go_at_call 97; (with_reducible refine (cr2 _ hb1).mono ?_); rintro e w2 ⟨rfl, hb2⟩; obtain ⟨hf2, hg2, hbw2⟩ := HW.out _ hb2))
      go_ret
      exact ⟨ret_bool (HY.out), hbw2⟩
    ·have HY : Hid (false = V) := hid (by rw [← hV.out]; symm; exact decide_eq_false (by rw [HQ.out]; omega))
     clear HQ hV
     have e1 : (f.kind == g.kind) = true := by rw [beq_iff_eq]; exact a1
     have d4 : decide (g.lo ≤ f.lo) = false := decide_eq_false a2
     clear a1 a2
     go_enter Tryz.func86, Tryz.ntmps86
     go_wp2_with (first
      | (go_at_call 97; (with_reducible refine cr1.mono ?_); rintro e w1 ⟨rfl, hb1⟩; obtain ⟨hf1, hg1, hbw1⟩ := HW.out _ hb1; clear cr1)
      | (go_at_call 97; (with_reducible refine (cr2 _ hb1).mono ?_); rintro e w2 ⟨rfl, hb2⟩; obtain ⟨hf2, hg2, hbw2⟩ := HW.out _ hb2))
     go_ret
     exact ⟨ret_bool (HY.out), hbw2⟩
   ·have HY : Hid (false = V) := hid (by rw [← hV.out]; symm; exact decide_eq_false (by rw [HQ.out]; omega))
    clear HQ hV
    have e1 : (f.kind == g.kind) = false := by rw [beq_eq_false_iff_ne]; exact a1
    clear a1
    go_enter Tryz.func86, Tryz.ntmps86
    go_wp2_with (first
     | (go_at_call 97; (with_reducible refine cr1.mono ?_); rintro e w1 ⟨rfl, hb1⟩; obtain ⟨hf1, hg1, hbw1⟩ := HW.out _ hb1; clear cr1)
     | (go_at_call 97; (with_reducible refine (cr2 _ hb1).mono ?_); rintro e w2 ⟨rfl, hb2⟩; obtain ⟨hf2, hg2, hbw2⟩ := HW.out _ hb2))
    go_ret
    exact ⟨ret_bool (HY.out), hbw2⟩
  ·have cr1 := gives_from (right_any f (WW f g w)) (w0 := WW f g w) (Below.refl _ _)
   have cr2 := fun w1 (hb : Below (WW f g w).heap.size (WW f g w) w1) => gives_from (right_any g w1) hb
   rw [decide_eq_true hf] at cr1
   rw [decide_eq_false hg] at cr2
   have HY : Hid (false = V) := hid (by rw [← hV.out]; symm; exact decide_eq_false (fun h => hg h.2.1))
   unfold WW at cr1 cr2 HW
   clear hf hg hV
   go_enter Tryz.func86, Tryz.ntmps86
   go_wp2_with (first
    | (go_at_call 97; (with_reducible refine cr1.mono ?_); rintro e w1 ⟨rfl, hb1⟩; obtain ⟨hf1, hg1, hbw1⟩ := HW.out _ hb1; clear cr1)
    | (go_at_call 97; (with_reducible refine (cr2 _ hb1).mono ?_); rintro e w2 ⟨rfl, hb2⟩; obtain ⟨hf2, hg2, hbw2⟩ := HW.out _ hb2))
   go_ret
   exact ⟨ret_bool (HY.out), hbw2⟩
 ·have cr1 := gives_from (right_any f (WW f g w)) (w0 := WW f g w) (Below.refl _ _)
  rw [decide_eq_false hf] at cr1
  have HY : Hid (false = V) := hid (by rw [← hV.out]; symm; exact decide_eq_false (fun h => hf h.1))
  unfold WW at cr1 HW
  clear hf hV
  go_enter Tryz.func86, Tryz.ntmps86
  go_wp2_with (first
   | (go_at_call 97; (with_reducible refine cr1.mono ?_); rintro e w1 ⟨rfl, hb1⟩; obtain ⟨hf1, hg1, hbw1⟩ := HW.out _ hb1; clear cr1))
  go_ret
  exact ⟨ret_bool (HY.out), hbw1⟩
set_option maxHeartbeats 4000000 in
theorem refWider_any (f g : Fd) (w : World) : Calls Tryz.prog 77 #[zF f, zF g] w (Gives (.bool (decide (f.Wider g))) w) := by
 have HW := hid (WW.all f g w)
 obtain ⟨V, hV⟩ : ∃ V, Hid (decide (f.Wider g) = V) := ⟨_, rfl⟩
 rw [hV.out]
 unfold Gives
 by_cases hf : f.Right
 ·by_cases hg : g.Right
  ·have cs1 := span_from f hf (w0 := WW f g w) (Below.refl _ _)
   have cs2 := fun w1 (hb : Below (WW f g w).heap.size (WW f g w) w1) => span_from g hg hb
   have HQ := hid (Fd.wider_span hf hg)
   unfold WW at cs1 cs2 HW
   clear hf hg
   generalize f.great = G1 at *
   generalize g.great = G2 at *
   generalize f.long = L1 at *
   generalize g.long = L2 at *
   by_cases a1 : f.kind = g.kind
   ·by_cases a2 : g.lo ≤ f.lo
    ·by_cases a3 : G1 ≤ G2
     ·by_cases a4 : L1 ≤ L2
      ·have HY : Hid (true = V) := hid (by rw [← hV.out]; symm; exact decide_eq_true (by rw [HQ.out]; omega))
       clear HQ hV
       have e1 : (f.kind == g.kind) = true := by rw [beq_iff_eq]; exact a1
       clear a1
       go_enter Tryz.func77, Tryz.ntmps77
       go_wp2_with (first
        | (go_at_call 54; (with_reducible refine cs1.mono ?_); rintro e w1 ⟨rfl, hb1⟩; obtain ⟨hf1, hg1, hbw1⟩ := HW.out _ hb1; clear cs1)
        | (go_at_call 54; (with_reducible refine (cs2 _ hb1).mono ?_); rintro e w2 ⟨rfl, hb2⟩; obtain ⟨hf2, hg2, hbw2⟩ := HW.out _ hb2))
       go_ret
       exact ⟨ret_bool (HY.out), hbw2⟩
      ·have HY : Hid (false = V) := hid (by rw [← hV.out]; symm; exact decide_eq_false (by rw [HQ.out]; omega))
       clear HQ hV
       have e1 : (f.kind == g.kind) = true := by rw [beq_iff_eq]; exact a1
       have d4 : decide (L1 ≤ L2) = false := decide_eq_false a4
       clear a1 a4
       go_enter Tryz.func77, Tryz.ntmps77
       go_wp2_with (first
        | (go_at_call 54; (with_reducible refine cs1.mono ?_); rintro e w1 ⟨rfl, hb1⟩; obtain ⟨hf1, hg1, hbw1⟩ := HW.out _ hb1; clear cs1)
        | (go_at_call 54; (with_reducible refine (cs2 _ hb1).mono ?_); rintro e w2 ⟨rfl, hb2⟩; obtain ⟨hf2, hg2, hbw2⟩ := HW.out _ hb2))
       go_ret
       exact ⟨ret_bool (HY.out), hbw2⟩
     ·have HY : Hid (false = V) := hid (by rw [← hV.out]; symm; exact decide_eq_false (by rw [HQ.out]; omega))
      clear HQ hV
      have e1 : (f.kind == g.kind) = true := by rw [beq_iff_eq]; exact a1
      have d4 : decide (G1 ≤ G2) = false := decide_eq_false a3
      clear a1 a3
      go_enter Tryz.func77, Tryz.ntmps77
      go_wp2_with (first
       | (go_at_call 54; (with_reducible refine cs1.mono ?_); rintro e w1 ⟨rfl, hb1⟩; obtain ⟨hf1, hg1, hbw1⟩ := HW.out _ hb1; clear cs1)
       | (go_at_call 54; (with_reducible refine (cs2 _ hb1).mono ?_); rintro e w2 ⟨rfl, hb2⟩; obtain ⟨hf2, hg2, hbw2⟩ := HW.out _ hb2))
      go_ret
      exact ⟨ret_bool (HY.out), hbw2⟩
    ·have HY : Hid (false = V) := hid (by rw [← hV.out]; symm; exact decide_eq_false (by rw [HQ.out]; omega))
     clear HQ hV
     have e1 : (f.kind == g.kind) = true := by rw [beq_iff_eq]; exact a1
     have d4 : decide (g.lo ≤ f.lo) = false := decide_eq_false a2
     clear a1 a2
     go_enter Tryz.func77, Tryz.ntmps77
     go_wp2_with (first
      | (go_at_call 54; (with_reducible refine cs1.mono ?_); rintro e w1 ⟨rfl, hb1⟩; obtain ⟨hf1, hg1, hbw1⟩ := HW.out _ hb1; clear cs1)
      | (go_at_call 54; (with_reducible refine (cs2 _ hb1).mono ?_); rintro e w2 ⟨rfl, hb2⟩; obtain ⟨hf2, hg2, hbw2⟩ := HW.out _ hb2))
     go_ret
     exact ⟨ret_bool (HY.out), hbw2⟩
   ·have HY : Hid (false = V) := hid (by rw [← hV.out]; symm; exact decide_eq_false (by rw [HQ.out]; omega))
    clear HQ hV
    have e1 : (f.kind == g.kind) = false := by rw [beq_eq_false_iff_ne]; exact a1
    clear a1
    go_enter Tryz.func77, Tryz.ntmps77
    go_wp2_with (first
     | (go_at_call 54; (with_reducible refine cs1.mono ?_); rintro e w1 ⟨rfl, hb1⟩; obtain ⟨hf1, hg1, hbw1⟩ := HW.out _ hb1; clear cs1)
     | (go_at_call 54; (with_reducible refine (cs2 _ hb1).mono ?_); rintro e w2 ⟨rfl, hb2⟩; obtain ⟨hf2, hg2, hbw2⟩ := HW.out _ hb2))
    go_ret
    exact ⟨ret_bool (HY.out), hbw2⟩
  ·have cs1 := span_from f hf (w0 := WW f g w) (Below.refl _ _)
   have cs2 := fun w1 (hb : Below (WW f g w).heap.size (WW f g w) w1) => span_from_no g hg hb
   have HY : Hid (false = V) := hid (by rw [← hV.out]; symm; exact decide_eq_false (fun h => hg h.2.1))
   unfold WW at cs1 cs2 HW
   clear hf hg hV
   go_enter Tryz.func77, Tryz.ntmps77
   go_wp2_with (first
    | (go_at_call 54; (with_reducible refine cs1.mono ?_); rintro e w1 ⟨rfl, hb1⟩; obtain ⟨hf1, hg1, hbw1⟩ := HW.out _ hb1; clear cs1)
    | (go_at_call 54; (with_reducible refine (cs2 _ hb1).mono ?_); rintro e w2 ⟨⟨a2, b2, c2, rfl⟩, hb2⟩; obtain ⟨hf2, hg2, hbw2⟩ := HW.out _ hb2))
   go_ret
   exact ⟨ret_bool (HY.out), hbw2⟩
 ·have cs1 := span_from_no f hf (w0 := WW f g w) (Below.refl _ _)
  have HY : Hid (false = V) := hid (by rw [← hV.out]; symm; exact decide_eq_false (fun h => hf h.1))
  clear hf hV
  by_cases hg : g.Right
  ·have cs2 := fun w1 (hb : Below (WW f g w).heap.size (WW f g w) w1) => span_from g hg hb
   unfold WW at cs1 cs2 HW
   clear hg
   go_enter Tryz.func77, Tryz.ntmps77
   go_wp2_with (first
    | (go_at_call 54; (with_reducible refine cs1.mono ?_); rintro e w1 ⟨⟨a1, b1, c1, rfl⟩, hb1⟩; obtain ⟨hf1, hg1, hbw1⟩ := HW.out _ hb1; clear cs1)
    | (go_at_call 54; (with_reducible refine (cs2 _ hb1).mono ?_); rintro e w2 ⟨rfl, hb2⟩; obtain ⟨hf2, hg2, hbw2⟩ := HW.out _ hb2))
   go_ret
   exact ⟨ret_bool (HY.out), hbw2⟩
  ·have cs2 := fun w1 (hb : Below (WW f g w).heap.size (WW f g w) w1) => span_from_no g hg hb
   unfold WW at cs1 cs2 HW
   clear hg
   go_enter Tryz.func77, Tryz.ntmps77
   go_wp2_with (first
    | (go_at_call 54; (with_reducible refine cs1.mono ?_); rintro e w1 ⟨⟨a1, b1, c1, rfl⟩, hb1⟩; obtain ⟨hf1, hg1, hbw1⟩ := HW.out _ hb1; clear cs1)
    | (go_at_call 54; (with_reducible refine (cs2 _ hb1).mono ?_); rintro e w2 ⟨⟨a2, b2, c2, rfl⟩, hb2⟩; obtain ⟨hf2, hg2, hbw2⟩ := HW.out _ hb2))
   go_ret
   exact ⟨ret_bool (HY.out), hbw2⟩
end Go.Proofs.YtaciegkblklokaaGreat.field
namespace Go.Proofs.YtaciegkblklokaaGreat.step
open Go.RowKit
open Go.Proofs.YtaciegkblklokaaGreat.field (Gives newB gives_from)
open Go.Proofs.YtaciegkblklokaaGreat.schema (below_out)
theorem boxP (s : Sp) (ta : Option Addr) (tc : Nat) (la : Option Addr) (lc : Nat) (w w' : World) (hb : Below (w.alloc (.cells (zP s ta tc la lc) 32)).heap.size (w.alloc (.cells (zP s ta tc la lc) 32)) w') : (w'.cell? ⟨w.heap.size, 0, none⟩ = some (.int .i64 s.op) ∧ w'.cell? ⟨w.heap.size, 1, none⟩ = some (.int .i64 s.fm) ∧ w'.cell? ⟨w.heap.size, 2, none⟩ = some (.int .i64 s.fd) ∧ w'.cell? ⟨w.heap.size, 3, none⟩ = some (.int .i64 s.pl) ∧ w'.cell? ⟨w.heap.size, 4, none⟩ = some (.int .i64 s.tt) ∧ w'.cell? ⟨w.heap.size, 5, none⟩ = some (.int .i64 s.a) ∧ w'.cell? ⟨w.heap.size, 6, none⟩ = some (.int .i64 s.b) ∧ w'.cell? ⟨w.heap.size, 7, none⟩ = some (.int .i64 s.f.id) ∧ w'.cell? ⟨w.heap.size, 8, none⟩ = some (.int .i64 s.f.kind) ∧ w'.cell? ⟨w.heap.size, 9, none⟩ = some (.int .i64 s.f.lo) ∧ w'.cell? ⟨w.heap.size, 10, none⟩ = some (.int .i64 s.f.hi) ∧ w'.cell? ⟨w.heap.size, 11, none⟩ = some (.int .i64 s.f.most) ∧ w'.cell? ⟨w.heap.size, 12, none⟩ = some (.int .i64 s.v.n) ∧ w'.cell? ⟨w.heap.size, 13, none⟩ = some (.string s.v.s) ∧ w'.cell? ⟨w.heap.size, 14, none⟩ = some (.slice ta s.t.length tc) ∧ w'.cell? ⟨w.heap.size, 15, none⟩ = some (.slice la s.l.length lc)) ∧ Below w.heap.size w w' := by
 have hB := (Block.new w 32 (zP s ta tc la lc)).later hb
 exact ⟨⟨hB.cell 0, hB.cell 1, hB.cell 2, hB.cell 3, hB.cell 4, hB.cell 5, hB.cell 6, hB.cell 7, hB.cell 8, hB.cell 9, hB.cell 10, hB.cell 11, hB.cell 12, hB.cell 13, hB.cell 14, hB.cell 15⟩, below_out hb⟩
structure Lists (w : World) (s : Sp) (ta la : Option Addr) : Prop where
 t : Ins w ta s.t
 l : field.Fds w la s.l
 mt : s.t.length ≤ maxLen
 ml : s.l.length ≤ maxLen
theorem Lists.below {w w' : World} {s : Sp} {ta la : Option Addr} (h : Lists w s ta la) (hb : Below w.heap.size w w') : Lists w' s ta la := ⟨h.t.below hb, h.l.below hb, h.mt, h.ml⟩
theorem St.Good.lists {w : World} {p : St} (h : p.Good w) : Lists w p.s p.ta p.la := ⟨h.rt, h.rl, Nat.le_trans h.ct h.dt, Nat.le_trans h.cl h.dl⟩
abbrev From (F : FuncId) (args : Array Value) (v : Value) (w0 : World) : Prop := ∀ w', Below w0.heap.size w0 w' → Calls Tryz.prog F args w' fun e w2 => e = .returned v ∧ Below w0.heap.size w0 w2
theorem from_all {F : FuncId} {args : Array Value} {v : Value} (w0 : World) (h : ∀ w', Calls Tryz.prog F args w' (Gives v w')) : From F args v w0 := fun w' hb => gives_from (h w') hb
theorem from_in {F : FuncId} {args : Array Value} {v : Value} (w0 : World) (h : ∀ w', Below w0.heap.size w0 w' → Calls Tryz.prog F args w' (Gives v w')) : From F args v w0 := fun w' hb => gives_from (h w' hb) hb
end Go.Proofs.YtaciegkblklokaaGreat.step
