/- FieldBytes: what Lay writes of any value, and what Take reads out of any bytes, are as the reference says. No condition. -/
import Derived.Test.YthpiffafakoheaaFieldEq
import Derived.Test.YthpiffafakoheaaPlanMore
namespace Go.Proofs.Ythpiffafakoheaa.fieldBytes
open Go.RowKit Go.Proofs.Ythpiffafakoheaa.field
set_option linter.unusedVariables false

theorem lay_case (f : field.Fd) (v : Va) (w : World) (xs : List Nat) (E : Int) (h1 : f.layB v = xs) (h2 : f.layE v = E) : Calls Try.prog 18 #[.agg #[.int .i64 f.id, .int .i64 f.kind, .int .i64 f.lo, .int .i64 f.hi, .int .i64 f.most], .agg #[.int .i64 v.n, .string v.s]] w (LaysAs xs E w) := by rw [← h1, ← h2]; exact lay_any f v w
theorem take_case (f : field.Fd) (a : Option Addr) (len cap : Nat) (xs : List Nat) (w0 : World) (hr : Reads .u8 w0 a len xs) (hx : ∀ x ∈ xs, x < 256) (hc : len ≤ cap) (hm : cap ≤ 9223372036854775807) (n : Int) (s : List Nat) (c : Nat) (E : Int) (h : f.take xs = ⟨n, s, c, E⟩) (w : World) (hb : Below w0.heap.size w0 w) :
    Calls Try.prog 19 #[.agg #[.int .i64 f.id, .int .i64 f.kind, .int .i64 f.lo, .int .i64 f.hi, .int .i64 f.most], .slice a len cap] w fun e w' => e = .returned (.tuple #[.agg #[.int .i64 n, .string (strOf s)], .int .i64 (c : Int), .int .i64 E]) ∧ Below w.heap.size w w' := by
  have k := take_any f a len cap xs w (hr.below hb) hx hc hm
  rw [h] at k
  exact k
theorem refTake_case (f : field.Fd) (hf : f.Right) (a : Option Addr) (len cap : Nat) (xs : List Nat) (w0 : World) (hr : Reads .u8 w0 a len xs) (hx : ∀ x ∈ xs, x < 256) (hc : len ≤ cap) (hm : cap ≤ 9223372036854775807) (n : Int) (s : List Nat) (c : Nat) (E : Int) (h : f.take xs = ⟨n, s, c, E⟩) (w : World) (hb : Below w0.heap.size w0 w) :
    Calls Try.prog 20 #[.agg #[.int .i64 f.id, .int .i64 f.kind, .int .i64 f.lo, .int .i64 f.hi, .int .i64 f.most], .slice a len cap] w fun e w' => e = .returned (.tuple #[.agg #[.int .i64 n, .string (strOf s)], .int .i64 (c : Int), .int .i64 E]) ∧ Below w.heap.size w w' := by
  have k := refTake_any f hf a len cap xs w (hr.below hb) hx hc hm
  rw [h] at k
  exact k
theorem both_from {P : Program} {F : FuncId} {args : Array Value} {v : Value} {w0 w : World} (h : Calls P F args w (Gives v w)) (hb : Below w0.heap.size w0 w) : Calls P F args w fun e w' => e = .returned v ∧ Below w0.heap.size w0 w' ∧ Below w.heap.size w w' :=
  h.mono fun _ _ ⟨he, hw⟩ => ⟨he, hb.trans (hw.mono hb.size), hw⟩
theorem eqs_str (s : ByteArray) (w : World) : (binOp .eql 9 (.string s) (.string s)).run Try.prog w = .ok (.bool true) w := by simp [go_sem]
theorem eqg_str (x y : Operand) (s t : ByteArray) (w : World) : (eqGuard .eql 9 x y (.string s) (.string t)).run Try.prog w = .ok () w := by simp [go_sem]
set_option maxRecDepth 20000 in
set_option maxHeartbeats 8000000 in
theorem walk0 (f : field.Fd) (v : Va) (a : Option Addr) (len cap : Nat) (xs : List Nat) (w : World) (hr : Reads .u8 w a len xs) (hx : ∀ x ∈ xs, x < 256) (hc : len ≤ cap) (hm : cap ≤ 9223372036854775807) :
    Calls Try.prog 4 #[.agg #[.int .i64 f.id, .int .i64 f.kind, .int .i64 f.lo, .int .i64 f.hi, .int .i64 f.most], .agg #[.int .i64 v.n, .string v.s], .slice a len cap] w (Yes w) := by
  have HW := hid (WV.all f v w)
  have HBF : Hid (Block (WV f v w) w.heap.size 23 [.int .i64 f.id, .int .i64 f.kind, .int .i64 f.lo, .int .i64 f.hi, .int .i64 f.most]) := hid ((Block.new w 23 [.int .i64 f.id, .int .i64 f.kind, .int .i64 f.lo, .int .i64 f.hi, .int .i64 f.most]).alloc _)
  have HBV : Hid (Block (WV f v w) (w.heap.size + 1) 25 [.int .i64 v.n, .string v.s]) := hid (by
    have hB := Block.new (w.alloc (.cells #[.int .i64 f.id, .int .i64 f.kind, .int .i64 f.lo, .int .i64 f.hi, .int .i64 f.most] 23)) 25 [.int .i64 v.n, .string v.s]
    rw [World.size_alloc] at hB
    exact hB)
  have HLF := info_field
  have HLV := info_val
  unfold Yes
  by_cases h : f.Right
  · have cr := fun W (hb : Below (WV f v w).heap.size (WV f v w) W) => both_from (refRight_any f W) hb
    simp only [decide_eq_true h] at cr
    obtain ⟨⟨tn, ts, tc, te⟩, hT⟩ : ∃ T, f.take xs = T := ⟨_, rfl⟩
    have ct := fun W hb => take_case f a len cap xs w hr hx hc hm tn ts tc te hT W hb
    have crt := fun W hb => refTake_case f h a len cap xs w hr hx hc hm tn ts tc te hT W hb
    have crh := fun W (hb : Below (WV f v w).heap.size (WV f v w) W) => both_from (refHas_any f v W) hb
    clear hT hx hc hm hr
    generalize strOf ts = Z at *
    have HI := hid (val_info tn Z)
    have HO := hid (val_one tn Z)
    by_cases hh : f.Has v
    · simp only [decide_eq_true hh] at crh
      have hE : f.layE v = 0 := by unfold Fd.layE; rw [if_neg (show ¬¬ f.Right from fun k => k h), if_neg (show ¬¬ f.Has v from fun k => k hh)]
      have cl := lay_case f v (WV f v w) (f.layB v) 0 rfl hE
      have cf := refLay_any f v hh
      have hE2 := hE
      have HBL := hid (f.layB_lt v)
      clear hE hE2 h hh
      generalize f.layB v = L at *
      unfold WV at HW cr cl crh HBF HBV
      unfold LaysAs at cl
      go_enter Try.func4, Try.ntmps4
      go_wp2_with (first
        | (go_at_call 18; (with_reducible refine cl.mono ?_); rintro e w1 ⟨u, rfl, ho, hb1⟩; obtain ⟨ua, uc, rfl, _⟩ := ownsRow_slice ho; obtain ⟨hf1, hv1, hbw1⟩ := HW.out _ hb1)
        | (go_at_call 19; (with_reducible refine (ct w1 hbw1).mono ?_); rintro e w2 ⟨rfl, hb2⟩; have hB2 := hb1.trans (hb2.mono hb1.size); obtain ⟨hf2, hv2, hbw2⟩ := HW.out _ hB2; have hth := val_there (Block.new w2 25 [.int .i64 0, .string ⟨#[]⟩]) tn Z)
        | (with_reducible refine wpList_store_named rfl 25 (.tmp 9) (.tmp 25) rfl w2.heap.size 0 #[.int .i64 tn, .string Z] rfl rfl hth HI.out HO.out ?_))
      intro w3 hw3
      obtain ⟨hY, hb3⟩ := val_stored (Block.new w2 25 [.int .i64 0, .string ⟨#[]⟩]) hw3 (Nat.le_refl _) (newB w2 _)
      have hB3 := hB2.trans (hb3.mono hB2.size)
      obtain ⟨hf3, hv3, hbw3⟩ := HW.out _ hB3
      have hy3 : w3.cell? ⟨w2.heap.size, 0, none⟩ = some (.int .i64 tn) ∧ w3.cell? ⟨w2.heap.size, 1, none⟩ = some (.string Z) := ⟨hY.cell 0, hY.cell 1⟩
      go_wp2_with (first
        | (go_at_call 8; (with_reducible refine (cr w3 hB3).mono ?_); rintro e w4 ⟨rfl, hB4, hb4⟩; obtain ⟨hf4, hv4, hbw4⟩ := HW.out _ hB4; have hY4 := hY.later hb4; have hy4 : w4.cell? ⟨w2.heap.size, 0, none⟩ = some (.int .i64 tn) ∧ w4.cell? ⟨w2.heap.size, 1, none⟩ = some (.string Z) := ⟨hY4.cell 0, hY4.cell 1⟩)
        | (go_at_call 20; (with_reducible refine (crt w4 hbw4).mono ?_); rintro e w5 ⟨rfl, hb5⟩; have hB5 := hB4.trans (hb5.mono hB4.size); obtain ⟨hf5, hv5, hbw5⟩ := HW.out _ hB5; have hY5 := hY4.later hb5; have hth5 := val_there (Block.new w5 25 [.int .i64 0, .string ⟨#[]⟩]) tn Z)
        | (with_reducible refine wpList_store_named rfl 25 (.tmp 12) (.tmp 58) rfl w5.heap.size 0 #[.int .i64 tn, .string Z] rfl rfl hth5 HI.out HO.out ?_))
      intro w6 hw6
      obtain ⟨hZ, hb6⟩ := val_stored (Block.new w5 25 [.int .i64 0, .string ⟨#[]⟩]) hw6 (Nat.le_refl _) (newB w5 _)
      have hB6 := hB5.trans (hb6.mono hB5.size)
      obtain ⟨hf6, hv6, hbw6⟩ := HW.out _ hB6
      have hY6 := hY5.later hb6
      have hy6 : w6.cell? ⟨w2.heap.size, 0, none⟩ = some (.int .i64 tn) ∧ w6.cell? ⟨w2.heap.size, 1, none⟩ = some (.string Z) := ⟨hY6.cell 0, hY6.cell 1⟩
      have hz6 : w6.cell? ⟨w5.heap.size, 0, none⟩ = some (.int .i64 tn) ∧ w6.cell? ⟨w5.heap.size, 1, none⟩ = some (.string Z) := ⟨hZ.cell 0, hZ.cell 1⟩
      go_wp2_with (first
        | (go_at_call 10; (with_reducible refine (crh w6 hB6).mono ?_); rintro e w8 ⟨rfl, hB8, hb8⟩; obtain ⟨hf8, hv8, hbw8⟩ := HW.out _ hB8))
      have hb := below_drew hB8
      have hbf := HBF.out.later hb
      have hbv := HBV.out.later hb
      have h13 := hb2.trans (hb3.mono hb2.size)
      have h14 := h13.trans (hb4.mono h13.size)
      have h15 := h14.trans (hb5.mono h14.size)
      have h16 := h15.trans (hb6.mono h15.size)
      have h18 := below_drew (h16.trans (hb8.mono h16.size))
      have hrx := (Reads.own (xs := L) ho).below h18
      refine plan.region (by kernel_rfl) ?_
      refine plan.Rest.first 0 _ (.slice ua L.length uc) rfl (by kernel_rfl) (by kernel_rfl) (by kernel_rfl) (by kernel_rfl) (fun w' hb' => (by kernel_rfl)) ?_
      refine plan.Rest.first 1 _ (.string (strOf L)) rfl (by kernel_rfl) (by kernel_rfl) (by kernel_rfl) (by kernel_rfl) (fun w' hb' => plan.exec_convert (v := .slice ua L.length uc) rfl (by kernel_rfl) ((hrx.below hb').str (P := Try.prog) 33 5 Try.underlying33 Try.underlying5 uc 9 Try.underlying9)) ?_
      refine plan.Rest.first 2 _ (.agg #[.int .i64 f.id, .int .i64 f.kind, .int .i64 f.lo, .int .i64 f.hi, .int .i64 f.most]) rfl (by kernel_rfl) (by kernel_rfl) (by kernel_rfl) (by kernel_rfl) (fun w' hb' => plan.exec_load rfl (by kernel_rfl) (hbf.later hb').whole Try.underlying23 rfl HLF.out) ?_
      refine plan.Rest.first 3 _ (.agg #[.int .i64 v.n, .string v.s]) rfl (by kernel_rfl) (by kernel_rfl) (by kernel_rfl) (by kernel_rfl) (fun w' hb' => plan.exec_load rfl (by kernel_rfl) (hbv.later hb').whole Try.underlying25 rfl HLV.out) ?_
      refine plan.Rest.call 4 _ 21 #[.agg #[.int .i64 f.id, .int .i64 f.kind, .int .i64 f.lo, .int .i64 f.hi, .int .i64 f.most], .agg #[.int .i64 v.n, .string v.s]] rfl (by kernel_rfl) (by kernel_rfl) (by kernel_rfl) ((cf w8.drew).mono ?_)
      rintro e W1 ⟨u3, rfl, ho3, hn⟩
      obtain ⟨a3, c3, rfl, _⟩ := ownsRow_slice ho3
      have hr3 := Reads.own (xs := L) ho3
      have hb := hb.trans (hn.mono hb.size)
      have hbf := hbf.later hn
      have hbv := hbv.later hn
      refine ⟨_, rfl, hn, ?_⟩
      refine plan.Rest.first 5 _ (.string (strOf L)) rfl (by kernel_rfl) (by kernel_rfl) (by kernel_rfl) (by kernel_rfl) (fun w' hb' => plan.exec_convert (v := .slice a3 L.length c3) rfl (by kernel_rfl) ((hr3.below hb').str (P := Try.prog) 33 5 Try.underlying33 Try.underlying5 c3 9 Try.underlying9)) ?_
      refine plan.Rest.first 6 _ (.bool true) rfl (by kernel_rfl) (by kernel_rfl) (by kernel_rfl) (by kernel_rfl) (fun w' hb' => (plan.exec_eql (vx := .string (strOf L)) (vy := .string (strOf L)) rfl (by kernel_rfl) (by kernel_rfl) (eqg_str _ _ _ _ _) (eqs_str _ _))) ?_
      refine plan.Rest.first 7 _ (.bool true) rfl (by kernel_rfl) (by kernel_rfl) (by kernel_rfl) (by kernel_rfl) (fun w' hb' => (by kernel_rfl)) ?_
      refine plan.Rest.first 8 _ (.int .i64 0) rfl (by kernel_rfl) (by kernel_rfl) (by kernel_rfl) (by kernel_rfl) (fun w' hb' => (by kernel_rfl)) ?_
      refine plan.Rest.first 9 _ (.bool true) rfl (by kernel_rfl) (by kernel_rfl) (by kernel_rfl) (by kernel_rfl) (fun w' hb' => (by kernel_rfl)) ?_
      refine plan.Rest.first 10 _ (.bool true) rfl (by kernel_rfl) (by kernel_rfl) (by kernel_rfl) (by kernel_rfl) (fun w' hb' => (by kernel_rfl)) ?_
      refine plan.Rest.first 11 _ (.bool true) rfl (by kernel_rfl) (by kernel_rfl) (by kernel_rfl) (by kernel_rfl) (fun w' hb' => (by kernel_rfl)) ?_
      refine plan.Rest.call 12 _ 17 #[] rfl (by kernel_rfl) (by kernel_rfl) (by kernel_rfl) ((awake_any W1).mono ?_)
      rintro e W2 ⟨rfl, hn⟩
      have hb := hb.trans (hn.mono hb.size)
      have hbf := hbf.later hn
      have hbv := hbv.later hn
      refine ⟨_, rfl, hn, ?_⟩
      refine plan.Rest.first 13 _ (.bool true) rfl (by kernel_rfl) (by kernel_rfl) (by kernel_rfl) (by kernel_rfl) (fun w' hb' => (by kernel_rfl)) ?_
      refine plan.Rest.value 14 _ (.bool true) rfl (by kernel_rfl) (by kernel_rfl) (by kernel_rfl) ?_
      refine plan.Rest.done (by kernel_rfl) ?_
      go_wp2
      exact bodyPost_ret (v := .bool true) (by kernel_rfl) (by kernel_rfl) ⟨rfl, (HW.out _ hb).2.2⟩
    · simp only [decide_eq_false hh] at crh
      have hE : f.layE v = 16 := by unfold Fd.layE; rw [if_neg (show ¬¬ f.Right from fun k => k h), if_pos hh]
      have hL : f.layB v = [] := by unfold Fd.layB; rw [if_pos hh]
      have cl := lay_case f v (WV f v w) [] 16 hL hE
      clear hE hL h hh
      unfold WV at HW cr cl crh
      unfold LaysAs at cl
      rw [show ([] : List Nat).length = 0 from rfl] at cl
      go_enter Try.func4, Try.ntmps4
      go_wp2_with (first
        | (go_at_call 18; (with_reducible refine cl.mono ?_); rintro e w1 ⟨u, rfl, ho, hb1⟩; obtain ⟨ua, uc, rfl, _⟩ := ownsRow_slice ho; obtain ⟨hf1, hv1, hbw1⟩ := HW.out _ hb1)
        | (go_at_call 19; (with_reducible refine (ct w1 hbw1).mono ?_); rintro e w2 ⟨rfl, hb2⟩; have hB2 := hb1.trans (hb2.mono hb1.size); obtain ⟨hf2, hv2, hbw2⟩ := HW.out _ hB2; have hth := val_there (Block.new w2 25 [.int .i64 0, .string ⟨#[]⟩]) tn Z)
        | (with_reducible refine wpList_store_named rfl 25 (.tmp 9) (.tmp 25) rfl w2.heap.size 0 #[.int .i64 tn, .string Z] rfl rfl hth HI.out HO.out ?_))
      intro w3 hw3
      obtain ⟨hY, hb3⟩ := val_stored (Block.new w2 25 [.int .i64 0, .string ⟨#[]⟩]) hw3 (Nat.le_refl _) (newB w2 _)
      have hB3 := hB2.trans (hb3.mono hB2.size)
      obtain ⟨hf3, hv3, hbw3⟩ := HW.out _ hB3
      have hy3 : w3.cell? ⟨w2.heap.size, 0, none⟩ = some (.int .i64 tn) ∧ w3.cell? ⟨w2.heap.size, 1, none⟩ = some (.string Z) := ⟨hY.cell 0, hY.cell 1⟩
      go_wp2_with (first
        | (go_at_call 8; (with_reducible refine (cr w3 hB3).mono ?_); rintro e w4 ⟨rfl, hB4, hb4⟩; obtain ⟨hf4, hv4, hbw4⟩ := HW.out _ hB4; have hY4 := hY.later hb4; have hy4 : w4.cell? ⟨w2.heap.size, 0, none⟩ = some (.int .i64 tn) ∧ w4.cell? ⟨w2.heap.size, 1, none⟩ = some (.string Z) := ⟨hY4.cell 0, hY4.cell 1⟩)
        | (go_at_call 20; (with_reducible refine (crt w4 hbw4).mono ?_); rintro e w5 ⟨rfl, hb5⟩; have hB5 := hB4.trans (hb5.mono hB4.size); obtain ⟨hf5, hv5, hbw5⟩ := HW.out _ hB5; have hY5 := hY4.later hb5; have hth5 := val_there (Block.new w5 25 [.int .i64 0, .string ⟨#[]⟩]) tn Z)
        | (with_reducible refine wpList_store_named rfl 25 (.tmp 12) (.tmp 58) rfl w5.heap.size 0 #[.int .i64 tn, .string Z] rfl rfl hth5 HI.out HO.out ?_))
      intro w6 hw6
      obtain ⟨hZ, hb6⟩ := val_stored (Block.new w5 25 [.int .i64 0, .string ⟨#[]⟩]) hw6 (Nat.le_refl _) (newB w5 _)
      have hB6 := hB5.trans (hb6.mono hB5.size)
      obtain ⟨hf6, hv6, hbw6⟩ := HW.out _ hB6
      have hY6 := hY5.later hb6
      have hy6 : w6.cell? ⟨w2.heap.size, 0, none⟩ = some (.int .i64 tn) ∧ w6.cell? ⟨w2.heap.size, 1, none⟩ = some (.string Z) := ⟨hY6.cell 0, hY6.cell 1⟩
      have hz6 : w6.cell? ⟨w5.heap.size, 0, none⟩ = some (.int .i64 tn) ∧ w6.cell? ⟨w5.heap.size, 1, none⟩ = some (.string Z) := ⟨hZ.cell 0, hZ.cell 1⟩
      go_wp2_with (first
        | (go_at_call 10; (with_reducible refine (crh w6 hB6).mono ?_); rintro e w8 ⟨rfl, hB8, hb8⟩; obtain ⟨hf8, hv8, hbw8⟩ := HW.out _ hB8)
        | (go_at_call 17; (with_reducible refine (awake_any _).mono ?_); rintro e w9 ⟨rfl, hb9⟩))
      go_ret
      exact ⟨rfl, hbw8.trans (hb9.mono hbw8.size)⟩
  · have cr := fun W (hb : Below (WV f v w).heap.size (WV f v w) W) => both_from (refRight_any f W) hb
    simp only [decide_eq_false h] at cr
    have ct := fun W hb => take_case f a len cap xs w hr hx hc hm 0 [] 0 2 (Fd.take_no h xs) W hb
    rw [show strOf ([] : List Nat) = ⟨#[]⟩ from rfl] at ct
    have hE : f.layE v = 2 := by unfold Fd.layE; rw [if_pos h]
    have hL : f.layB v = [] := by unfold Fd.layB; rw [if_pos (fun k => h k.1)]
    have cl := lay_case f v (WV f v w) [] 2 hL hE
    have HI := hid (val_info 0 ⟨#[]⟩)
    have HO := hid (val_one 0 ⟨#[]⟩)
    clear hE hL h hx hr
    unfold WV at HW cr cl
    unfold LaysAs at cl
    rw [show ([] : List Nat).length = 0 from rfl] at cl
    go_enter Try.func4, Try.ntmps4
    go_wp2_with (first
      | (go_at_call 18; (with_reducible refine cl.mono ?_); rintro e w1 ⟨u, rfl, ho, hb1⟩; obtain ⟨ua, uc, rfl, _⟩ := ownsRow_slice ho; obtain ⟨hf1, hv1, hbw1⟩ := HW.out _ hb1)
      | (go_at_call 19; (with_reducible refine (ct w1 hbw1).mono ?_); rintro e w2 ⟨rfl, hb2⟩; have hB2 := hb1.trans (hb2.mono hb1.size); obtain ⟨hf2, hv2, hbw2⟩ := HW.out _ hB2; have hth := val_there (Block.new w2 25 [.int .i64 0, .string ⟨#[]⟩]) 0 ⟨#[]⟩)
      | (with_reducible refine wpList_store_named rfl 25 (.tmp 9) (.tmp 25) rfl w2.heap.size 0 #[.int .i64 0, .string ⟨#[]⟩] rfl rfl hth HI.out HO.out ?_))
    intro w3 hw3
    obtain ⟨hY, hb3⟩ := val_stored (Block.new w2 25 [.int .i64 0, .string ⟨#[]⟩]) hw3 (Nat.le_refl _) (newB w2 _)
    have hB3 := hB2.trans (hb3.mono hB2.size)
    obtain ⟨hf3, hv3, hbw3⟩ := HW.out _ hB3
    have hy3 : w3.cell? ⟨w2.heap.size, 0, none⟩ = some (.int .i64 0) ∧ w3.cell? ⟨w2.heap.size, 1, none⟩ = some (.string ⟨#[]⟩) := ⟨hY.cell 0, hY.cell 1⟩
    go_wp2_with (first
      | (go_at_call 8; (with_reducible refine (cr w3 hB3).mono ?_); rintro e w4 ⟨rfl, hB4, hb4⟩; obtain ⟨hf4, hv4, hbw4⟩ := HW.out _ hB4; have hY4 := hY.later hb4; have hy4 : w4.cell? ⟨w2.heap.size, 0, none⟩ = some (.int .i64 0) ∧ w4.cell? ⟨w2.heap.size, 1, none⟩ = some (.string ⟨#[]⟩) := ⟨hY4.cell 0, hY4.cell 1⟩)
      | (go_at_call 17; (with_reducible refine (awake_any _).mono ?_); rintro e w9 ⟨rfl, hb9⟩))
    go_ret
    exact ⟨rfl, hbw4.trans (hb9.mono hbw4.size)⟩
theorem walk (f : field.Fd) (v : Va) (a : Option Addr) (len cap : Nat) (xs : List Nat) (w : World) (hf : f.Good w) (hv : v.Good w) (hr : Reads .u8 w a len xs) (hx : ∀ x ∈ xs, x < 256) (hc : len ≤ cap) (hm : cap * 1 ≤ 140737488351232) :
    Calls Try.prog 4 #[f.val, v.val, .slice a len cap] w (Yes w) := walk0 f v a len cap xs w hr hx hc (by omega)
end Go.Proofs.Ythpiffafakoheaa.fieldBytes

