/- StepBytes returns true for every list of steps and every bytes, and each argument reads afterwards as it read before. No condition. -/
import Derived.Test.YtpdnfiofjkbeiaaCmL
import Derived.Test.YtpdnfiofjkbeiaaCmR
import Derived.Test.YtpdnfiofjkbeiaaClHStepBytesA
import Derived.Conc.WalkWords
import Derived.Test.YtpdnfiofjkbeiaaCmA
/- StepBytes returns true. No condition. -/
namespace Go.Proofs.Ytpdnfiofjkbeiaa.stepBytes
open Go.RowKit Go.Proofs.Ytpdnfiofjkbeiaa.pen Go.Proofs.Ytpdnfiofjkbeiaa.step
open Go.Proofs.Ytpdnfiofjkbeiaa.schema (exec_two)
set_option linter.unusedVariables false

section
variable {o : Oper} {a : Act} {w : World} {t' : TypeId} {x y : Operand}
theorem exec_neq_str {s : ByteArray} (ho : o.op = .binOp .neq 9 x y t') (hx : a.eval x = .string s) (hy : a.eval y = .string s) : (execOp a.eval o).run Try.prog w = .ok (.value (.bool false)) w :=
  exec_two ho hx hy (by simp [go_sem]) (by simp [go_sem])
theorem exec_neq_same {n : Int} (ho : o.op = .binOp .neq 3 x y t') (hx : a.eval x = .int .i64 n) (hy : a.eval y = .int .i64 n) : (execOp a.eval o).run Try.prog w = .ok (.value (.bool false)) w :=
  exec_two ho hx hy (by simp [go_sem]) (by simp [go_sem])
theorem exec_eql_no {n : Nat} (ho : o.op = .binOp .eql 36 x y t') (hx : a.eval x = .int .i64 (n : Int)) (hy : a.eval y = .int .i64 0) (h : n ≠ 0) : (execOp a.eval o).run Try.prog w = .ok (.value (.bool false)) w := by
  have hn : ((n : Int) == 0) = false := by rw [beq_eq_false_iff_ne]; omega
  exact exec_two ho hx hy (by simp [go_sem]) (by simp [go_sem, h])
theorem exec_neq_no {n : Nat} (ho : o.op = .binOp .neq 36 x y t') (hx : a.eval x = .int .i64 (n : Int)) (hy : a.eval y = .int .i64 0) (h : n ≠ 0) : (execOp a.eval o).run Try.prog w = .ok (.value (.bool true)) w := by
  have hn : ((n : Int) == 0) = false := by rw [beq_eq_false_iff_ne]; omega
  exact exec_two ho hx hy (by simp [go_sem]) (by simp [go_sem, h])
end
set_option maxRecDepth 20000 in
set_option maxHeartbeats 3200000 in
theorem walk0 (sa : Option Addr) (sc : Nat) (L : List St) (a : Option Addr) (cap : Nat) (xs : List Nat) (w : World) (hf : StL w sa L) (hF : L.length ≤ maxLen) (hr : Reads .u8 w a xs.length xs) (hx : ∀ x ∈ xs, x < 256) (hc : xs.length ≤ cap) (hm : cap ≤ 140737488351232) :
    Calls Try.prog 4 #[.slice sa L.length sc, .slice a xs.length cap] w (Yes w) := by
  have cG := great_any sa sc L w hf hF
  have cA : ∀ w', Calls Try.prog 7 #[] w' (field.Gives (.bool true) w') := fun w' => awake_any w'
  unfold field.Gives at cA cG
  unfold Yes
  by_cases hg : GreatL (sps L)
  · rw [decide_eq_true hg] at cG
    clear hf hr hx hg
    go_enter Try.func4, Try.ntmps4
    go_wp2_with (first
      | (go_at_call 6; ((with_reducible refine cG.mono ?_); clear cG; rintro e w1 ⟨rfl, hb1⟩))
      | (go_at_call 7; ((with_reducible refine (cA _).mono ?_); rintro e w8 ⟨rfl, hb8⟩)))
    go_ret
    exact ⟨rfl, hb1.trans (hb8.mono hb1.size)⟩
  rw [decide_eq_false hg] at cG
  obtain ⟨PL, PE, hP⟩ : ∃ P E, parsed xs = (P, E) := ⟨_, _, rfl⟩
  have cB := fun w' (hb : Below w.heap.size w w') => parse_fix (c := cap) (hr.below hb) hx (by omega) (E := PE) (PE : Int) rfl hP
  have cC := fun w' (hb : Below w.heap.size w w') => refParse_fix (c := cap) (hr.below hb) hc hx (by omega) (E := PE) (PE : Int) rfl hP
  have cSL := fun a c (L : List St) b d (M : List St) w h h' (hL : L.length ≤ 40) (hM : M.length ≤ 40) e1 e2 => same_lists (PL := PL) a c L b d M w h h' (by omega) (by omega) e1 e2
  have cR := fun w' (hb : Below w.heap.size w w') => refRights_any sa sc L w' (hf.below hb) hF
  obtain ⟨E, hE⟩ : ∃ E, rightsE (sps L) = E := ⟨_, rfl⟩
  rw [hE] at cR
  unfold FixAs at cB cC
  unfold field.Gives at cR cSL
  clear hg
  by_cases hE0 : E = 0
  · subst hE0
    have hEE := rightsE_zero hE
    have cP := fun w' (hb : Below w.heap.size w w') => print_zero sa sc L w' (hf.below hb) hE
    have cQ := fun w' (hb : Below w.heap.size w w') => refPrint_any sa sc L w' (hf.below hb) hEE.2 (by rw [← sps_length]; exact hEE.1)
    obtain ⟨Y, hY⟩ : ∃ Y, Hid (listB (sps L) = Y) := ⟨_, hid rfl⟩
    rw [hY.out] at cP cQ
    unfold pen.Gives at cP
    unfold Copies at cQ
    clear hf hr hx hP hE hEE
    go_enter Try.func4, Try.ntmps4
    go_wp2_with (first
      | (go_at_call 6; ((with_reducible refine cG.mono ?_); clear cG; rintro e w1 ⟨rfl, hb1⟩))
      | (go_at_call 12; ((with_reducible refine (cP _ hb1).mono ?_); rintro e w2 ⟨u2, rfl, ho2, hb2⟩; have hb := hb1.trans (hb2.mono hb1.size); obtain ⟨a2, c2, rfl, _⟩ := ownsRow_slice ho2; have hrx := Reads.own (xs := Y) ho2; clear ho2)))
    have hrx := hrx.below (below_drewN (Below.refl w2.heap.size w2) 1)
    have hb := below_drewN hb 1
    refine plan.region (by kernel_rfl) ?_
    refine plan.Rest.first 0 _ (.int .i64 0) rfl (by kernel_rfl) (by kernel_rfl) (by kernel_rfl) (by kernel_rfl) (fun w' hb' => (by kernel_rfl)) ?_
    refine plan.Rest.first 1 _ (.slice sa L.length sc) rfl (by kernel_rfl) (by kernel_rfl) (by kernel_rfl) (by kernel_rfl) (fun w' hb' => (by kernel_rfl)) ?_
    refine plan.Rest.call 2 _ 13 #[.slice sa L.length sc] rfl (by kernel_rfl) (by kernel_rfl) (by kernel_rfl) ((cR w2.drew hb).mono ?_)
    rintro e W1 ⟨rfl, hn⟩
    have hb := hb.trans (hn.mono hb.size)
    have hrx := hrx.below hn
    refine ⟨_, rfl, hn, ?_⟩
    refine plan.Rest.first 3 _ (.bool false) rfl (by kernel_rfl) (by kernel_rfl) (by kernel_rfl) (by kernel_rfl) (fun w' hb' => (by kernel_rfl)) ?_
    refine plan.Rest.first 4 _ (.bool false) rfl (by kernel_rfl) (by kernel_rfl) (by kernel_rfl) (by kernel_rfl) (fun w' hb' => (by kernel_rfl)) ?_
    refine plan.Rest.first 5 _ (.int .i64 0) rfl (by kernel_rfl) (by kernel_rfl) (by kernel_rfl) (by kernel_rfl) (fun w' hb' => (by kernel_rfl)) ?_
    refine plan.Rest.first 6 _ (.bool true) rfl (by kernel_rfl) (by kernel_rfl) (by kernel_rfl) (by kernel_rfl) (fun w' hb' => (by kernel_rfl)) ?_
    refine plan.Rest.first 7 _ (.bool true) rfl (by kernel_rfl) (by kernel_rfl) (by kernel_rfl) (by kernel_rfl) (fun w' hb' => (by kernel_rfl)) ?_
    refine plan.Rest.first 8 _ (.slice a2 Y.length c2) rfl (by kernel_rfl) (by kernel_rfl) (by kernel_rfl) (by kernel_rfl) (fun w' hb' => (by kernel_rfl)) ?_
    refine plan.Rest.first 9 _ (.string (strOf Y)) rfl (by kernel_rfl) (by kernel_rfl) (by kernel_rfl) (by kernel_rfl) (fun w' hb' => plan.exec_convert (v := .slice a2 Y.length c2) rfl (by kernel_rfl) ((hrx.below hb').str (P := Try.prog) 35 5 Try.underlying35 Try.underlying5 c2 9 Try.underlying9)) ?_
    refine plan.Rest.first 10 _ (.slice sa L.length sc) rfl (by kernel_rfl) (by kernel_rfl) (by kernel_rfl) (by kernel_rfl) (fun w' hb' => (by kernel_rfl)) ?_
    refine plan.Rest.call 11 _ 14 #[.slice sa L.length sc] rfl (by kernel_rfl) (by kernel_rfl) (by kernel_rfl) ((cQ W1 hb).mono ?_)
    rintro e W2 ⟨u8, rfl, ho8, hn⟩
    obtain ⟨a8, c8, rfl, _⟩ := ownsRow_slice ho8
    have hr3 := Reads.own (xs := Y) ho8
    have hrx := hrx.below hn
    have hb := hb.trans (hn.mono hb.size)
    refine ⟨_, rfl, hn, ?_⟩
    refine plan.Rest.first 12 _ (.string (strOf Y)) rfl (by kernel_rfl) (by kernel_rfl) (by kernel_rfl) (by kernel_rfl) (fun w' hb' => plan.exec_convert (v := .slice a8 Y.length c8) rfl (by kernel_rfl) ((hr3.below hb').str (P := Try.prog) 35 5 Try.underlying35 Try.underlying5 c8 9 Try.underlying9)) ?_
    refine plan.Rest.first 13 _ (.bool false) rfl (by kernel_rfl) (by kernel_rfl) (by kernel_rfl) (by kernel_rfl) (fun w' hb' => exec_neq_str (s := strOf Y) rfl (by kernel_rfl) (by kernel_rfl)) ?_
    refine plan.Rest.first 14 _ (.bool false) rfl (by kernel_rfl) (by kernel_rfl) (by kernel_rfl) (by kernel_rfl) (fun w' hb' => (by kernel_rfl)) ?_
    refine plan.Rest.first 15 _ (.bool false) rfl (by kernel_rfl) (by kernel_rfl) (by kernel_rfl) (by kernel_rfl) (fun w' hb' => (by kernel_rfl)) ?_
    refine plan.Rest.first 16 _ (.bool false) rfl (by kernel_rfl) (by kernel_rfl) (by kernel_rfl) (by kernel_rfl) (fun w' hb' => (by kernel_rfl)) ?_
    refine plan.Rest.first 17 _ (.int .i64 0) rfl (by kernel_rfl) (by kernel_rfl) (by kernel_rfl) (by kernel_rfl) (fun w' hb' => (by kernel_rfl)) ?_
    refine plan.Rest.first 18 _ (.bool false) rfl (by kernel_rfl) (by kernel_rfl) (by kernel_rfl) (by kernel_rfl) (fun w' hb' => (by kernel_rfl)) ?_
    refine plan.Rest.first 19 _ (.bool false) rfl (by kernel_rfl) (by kernel_rfl) (by kernel_rfl) (by kernel_rfl) (fun w' hb' => (by kernel_rfl)) ?_
    refine plan.Rest.skip 20 _ rfl (by kernel_rfl) (by kernel_rfl) (by kernel_rfl) (by kernel_rfl) ?_
    refine plan.Rest.skip 21 _ rfl (by kernel_rfl) (by kernel_rfl) (by kernel_rfl) (by kernel_rfl) ?_
    refine plan.Rest.skip 22 _ rfl (by kernel_rfl) (by kernel_rfl) (by kernel_rfl) (by kernel_rfl) ?_
    refine plan.Rest.first 23 _ (.bool false) rfl (by kernel_rfl) (by kernel_rfl) (by kernel_rfl) (by kernel_rfl) (fun w' hb' => (by kernel_rfl)) ?_
    refine plan.Rest.first 24 _ (.bool false) rfl (by kernel_rfl) (by kernel_rfl) (by kernel_rfl) (by kernel_rfl) (fun w' hb' => (by kernel_rfl)) ?_
    refine plan.Rest.done (by kernel_rfl) ?_
    walk_nrm
    go_wp2_with (first
      | (go_at_call 15; ((with_reducible refine (cB _ hb).mono ?_); rintro e w5 ⟨a5, c5, P5, rfl, hP5, hm5, hl5, hb5⟩; have hB5 := hb.trans (hb5.mono hb.size)))
      | (go_at_call 16; ((with_reducible refine (cC _ hB5).mono ?_); rintro e w6 ⟨a6, c6, P6, rfl, hP6, hm6, hl6, hb6⟩; have hB6 := hB5.trans (hb6.mono hB5.size); have cS := cSL a5 c5 P5 a6 c6 P6 w6 (hm5.below hb6) hm6 hl5 hl6 hP5 hP6))
      | (go_at_call 17; ((with_reducible refine cS.mono ?_); rintro e w7 ⟨rfl, hb7⟩; have hB7 := hB6.trans (hb7.mono hB6.size)))
      | (go_at_call 7; ((with_reducible refine (cA _).mono ?_); rintro e w8 ⟨rfl, hb8⟩)))
    go_ret
    exact ⟨rfl, hB7.trans (hb8.mono hB7.size)⟩
  · have cP := fun w' (hb : Below w.heap.size w w') => print_bad sa sc L w' (hf.below hb) hF E hE hE0
    have HE0 := hid hE0
    clear hf hr hx hP hE hE0
    go_enter Try.func4, Try.ntmps4
    go_wp2_with (first
      | (go_at_call 6; ((with_reducible refine cG.mono ?_); clear cG; rintro e w1 ⟨rfl, hb1⟩))
      | (go_at_call 12; ((with_reducible refine (cP _ hb1).mono ?_); rintro e w2 ⟨rfl, hb2⟩; have hb := hb1.trans (hb2.mono hb1.size))))
    have hb := below_drewN hb 1
    refine plan.region (by kernel_rfl) ?_
    refine plan.Rest.first 0 _ (.int .i64 (E : Int)) rfl (by kernel_rfl) (by kernel_rfl) (by kernel_rfl) (by kernel_rfl) (fun w' hb' => (by kernel_rfl)) ?_
    refine plan.Rest.first 1 _ (.slice sa L.length sc) rfl (by kernel_rfl) (by kernel_rfl) (by kernel_rfl) (by kernel_rfl) (fun w' hb' => (by kernel_rfl)) ?_
    refine plan.Rest.call 2 _ 13 #[.slice sa L.length sc] rfl (by kernel_rfl) (by kernel_rfl) (by kernel_rfl) ((cR w2.drew hb).mono ?_)
    rintro e W1 ⟨rfl, hn⟩
    have hb := hb.trans (hn.mono hb.size)
    refine ⟨_, rfl, hn, ?_⟩
    refine plan.Rest.first 3 _ (.bool false) rfl (by kernel_rfl) (by kernel_rfl) (by kernel_rfl) (by kernel_rfl) (fun w' hb' => exec_neq_same (n := (E : Int)) rfl (by kernel_rfl) (by kernel_rfl)) ?_
    refine plan.Rest.first 4 _ (.bool false) rfl (by kernel_rfl) (by kernel_rfl) (by kernel_rfl) (by kernel_rfl) (fun w' hb' => (by kernel_rfl)) ?_
    refine plan.Rest.first 5 _ (.int .i64 (E : Int)) rfl (by kernel_rfl) (by kernel_rfl) (by kernel_rfl) (by kernel_rfl) (fun w' hb' => (by kernel_rfl)) ?_
    refine plan.Rest.first 6 _ (.bool false) rfl (by kernel_rfl) (by kernel_rfl) (by kernel_rfl) (by kernel_rfl) (fun w' hb' => exec_eql_no rfl (by kernel_rfl) (by kernel_rfl) HE0.out) ?_
    refine plan.Rest.first 7 _ (.bool false) rfl (by kernel_rfl) (by kernel_rfl) (by kernel_rfl) (by kernel_rfl) (fun w' hb' => (by kernel_rfl)) ?_
    refine plan.Rest.skip 8 _ rfl (by kernel_rfl) (by kernel_rfl) (by kernel_rfl) (by kernel_rfl) ?_
    refine plan.Rest.skip 9 _ rfl (by kernel_rfl) (by kernel_rfl) (by kernel_rfl) (by kernel_rfl) ?_
    refine plan.Rest.skip 10 _ rfl (by kernel_rfl) (by kernel_rfl) (by kernel_rfl) (by kernel_rfl) ?_
    refine plan.Rest.skip 11 _ rfl (by kernel_rfl) (by kernel_rfl) (by kernel_rfl) (by kernel_rfl) ?_
    refine plan.Rest.skip 12 _ rfl (by kernel_rfl) (by kernel_rfl) (by kernel_rfl) (by kernel_rfl) ?_
    refine plan.Rest.skip 13 _ rfl (by kernel_rfl) (by kernel_rfl) (by kernel_rfl) (by kernel_rfl) ?_
    refine plan.Rest.first 14 _ (.bool false) rfl (by kernel_rfl) (by kernel_rfl) (by kernel_rfl) (by kernel_rfl) (fun w' hb' => (by kernel_rfl)) ?_
    refine plan.Rest.first 15 _ (.bool false) rfl (by kernel_rfl) (by kernel_rfl) (by kernel_rfl) (by kernel_rfl) (fun w' hb' => (by kernel_rfl)) ?_
    refine plan.Rest.first 16 _ (.bool false) rfl (by kernel_rfl) (by kernel_rfl) (by kernel_rfl) (by kernel_rfl) (fun w' hb' => (by kernel_rfl)) ?_
    refine plan.Rest.first 17 _ (.int .i64 (E : Int)) rfl (by kernel_rfl) (by kernel_rfl) (by kernel_rfl) (by kernel_rfl) (fun w' hb' => (by kernel_rfl)) ?_
    refine plan.Rest.first 18 _ (.bool true) rfl (by kernel_rfl) (by kernel_rfl) (by kernel_rfl) (by kernel_rfl) (fun w' hb' => exec_neq_no rfl (by kernel_rfl) (by kernel_rfl) HE0.out) ?_
    refine plan.Rest.first 19 _ (.bool true) rfl (by kernel_rfl) (by kernel_rfl) (by kernel_rfl) (by kernel_rfl) (fun w' hb' => (by kernel_rfl)) ?_
    refine plan.Rest.first 20 _ (.slice none 0 0) rfl (by kernel_rfl) (by kernel_rfl) (by kernel_rfl) (by kernel_rfl) (fun w' hb' => (by kernel_rfl)) ?_
    refine plan.Rest.first 21 _ (.int .i64 (0 : Int)) rfl (by kernel_rfl) (by kernel_rfl) (by kernel_rfl) (by kernel_rfl) (fun w' hb' => (by kernel_rfl)) ?_
    refine plan.Rest.first 22 _ (.bool false) rfl (by kernel_rfl) (by kernel_rfl) (by kernel_rfl) (by kernel_rfl) (fun w' hb' => (by kernel_rfl)) ?_
    refine plan.Rest.first 23 _ (.bool false) rfl (by kernel_rfl) (by kernel_rfl) (by kernel_rfl) (by kernel_rfl) (fun w' hb' => (by kernel_rfl)) ?_
    refine plan.Rest.first 24 _ (.bool false) rfl (by kernel_rfl) (by kernel_rfl) (by kernel_rfl) (by kernel_rfl) (fun w' hb' => (by kernel_rfl)) ?_
    refine plan.Rest.done (by kernel_rfl) ?_
    walk_nrm
    go_wp2_with (first
      | (go_at_call 15; ((with_reducible refine (cB _ hb).mono ?_); rintro e w5 ⟨a5, c5, P5, rfl, hP5, hm5, hl5, hb5⟩; have hB5 := hb.trans (hb5.mono hb.size)))
      | (go_at_call 16; ((with_reducible refine (cC _ hB5).mono ?_); rintro e w6 ⟨a6, c6, P6, rfl, hP6, hm6, hl6, hb6⟩; have hB6 := hB5.trans (hb6.mono hB5.size); have cS := cSL a5 c5 P5 a6 c6 P6 w6 (hm5.below hb6) hm6 hl5 hl6 hP5 hP6))
      | (go_at_call 17; ((with_reducible refine cS.mono ?_); rintro e w7 ⟨rfl, hb7⟩; have hB7 := hB6.trans (hb7.mono hB6.size)))
      | (go_at_call 7; ((with_reducible refine (cA _).mono ?_); rintro e w8 ⟨rfl, hb8⟩)))
    go_ret
    exact ⟨rfl, hB7.trans (hb8.mono hB7.size)⟩
theorem walk (sa : Option Addr) (sc : Nat) (L : List St) (a : Option Addr) (len cap : Nat) (xs : List Nat) (w : World) (hs : Sts w sa L) (hg : ∀ p ∈ L, p.Good w) (hl : L.length ≤ sc) (hm0 : sc ≤ maxLen) (hr : Reads .u8 w a len xs) (hx : ∀ x ∈ xs, x < 256) (hc : len ≤ cap) (hm : cap * 1 ≤ 140737488351232) :
    Calls Try.prog 4 #[.slice sa L.length sc, .slice a len cap] w (Yes w) := by
  obtain rfl := hr.1
  exact walk0 sa sc L a cap xs w ⟨hs, fun q hq => (hg q hq).lists⟩ (Nat.le_trans hl hm0) hr hx hc (by omega)
end Go.Proofs.Ytpdnfiofjkbeiaa.stepBytes
/- StepBytes returns true for every list of steps and every bytes, and each argument reads afterwards as it read before. No condition. -/
namespace Go.Proofs.Ytpdnfiofjkbeiaa.stepBytes
open Go.ChangeShapes Go.WideShapes Go.ChangeAt Go.RowKit Go.Proofs.Ytpdnfiofjkbeiaa.step
open Go.ChangeMaps (open_string shut_string)
set_option linter.unusedVariables false
set_option maxRecDepth 100000 in
theorem lifted (os : Os) (started : os.Started) (H : Type) (enc : TypeId × Value → H) :
    ReturnsInHanded {} Try.checked os 4 .any (Rows.stepBytesSpec.pre6 enc Try.prog Try.f4 Rows.stepBytesRow.domain false) (Rows.stepBytesSpec.post enc Try.prog Try.f4 false true false false) := by
  refine returnsInHanded_of_change_sized (C := Try.checked) own started (by kernel_rfl) Try.func4
    (ChangeSpec.witness6 (enc := enc) (C := Try.checked) false ⟨#[], #[.slice none 0 0, .slice none 0 0], []⟩ 8 (by kernel_rfl) (by kernel_rfl) (by kernel_rfl) (by kernel_rfl)) ?_
  intro W base args ds gs before hval0 hW hcnd hsz0 _
  have hsz : (DataW.weightsEach Try.prog (Try.f4.params.toList ++ Rows.stepBytesSpec.plain.varTypes Try.prog) (ds ++ gs)).all (· ≤ reachBytes) = true := hsz0
  clear hsz0
  have hval : ∀ (j : Nat) t v, Try.f4.params[j]? = some t → args[j]? = some v → Value.okWide Try.prog W .any base t v := hval0
  have hW' := hW
  obtain ⟨p, q, hA0, hV, rfl, hfz, hnd⟩ := hW
  have hA : DataW.TrodAll enc Try.prog W 0 (fun _ => true) true Try.f4.params.toList args.toList ds p := hA0
  rw [Try.params4] at hA hval hsz
  obtain ⟨v0, vs0, d0, ds0, p0, q0, hargs, rfl, rfl, h0, r0⟩ := trodAll_cons hA
  obtain ⟨v1, vs1, d1, ds1, p1, q1, rfl, rfl, rfl, h1, r1⟩ := trodAll_cons r0
  obtain ⟨rfl, rfl, rfl⟩ := trodAll_nil r1
  obtain rfl : args = #[v0, v1] := by cases args; simp_all
  obtain ⟨rfl, rfl⟩ := trodVars_none hV
  obtain ⟨a0, len0, cap0, rfl⟩ := okWide_slice Try.underlying31 (hval 0 31 v0 rfl rfl)
  have k0 := h0
  have lt0 : ∀ x ∈ p0, x.block < W.heap.size := by obtain ⟨m, hm⟩ := k0; exact DataW.trod_lt m _ _ _ hm
  obtain ⟨l0, rfl, ac0, fp0, lc0, cm0⟩ := open_Sts Try.underlying31 Go.Proofs.Ytpdnfiofjkbeiaa.step.stType h0
  obtain ⟨a1, len1, cap1, rfl⟩ := okWide_slice Try.underlying35 (hval 1 35 v1 rfl rfl)
  have k1 := h1
  have lt1 : ∀ x ∈ p1, x.block < W.heap.size := by obtain ⟨m, hm⟩ := k1; exact DataW.trod_lt m _ _ _ hm
  obtain ⟨xs1, rd1, xb1, lc1, rs1⟩ := open_uints (j := 1) Try.underlying35 Try.underlying5 (by kernel_rfl) (by kernel_rfl : Try.prog.bytesOf 5 = 1) wf_u8 h1 hsz rfl rfl
  clear hA0 hval0
  refine (walk a0 cap0 l0 a1 len1 cap1 xs1 W ac0 fp0 lc0 cm0 rd1 xb1 lc1 rs1).mono fun e W' ⟨he, bel⟩ => ?_
  subst he
  exact ⟨_, rfl, _, _, _, [], _, [], hW', trodAll_mk1 (shut_bool Try.underlying4 _), (trodAll_cons_mk (Below.trod laidOut (by kernel_rfl) (of_decide_eq_true (by kernel_rfl)) k0 bel lt0) (trodAll_cons_mk (Below.trod laidOut (by kernel_rfl) (of_decide_eq_true (by kernel_rfl)) k1 bel lt1) trodAll_mk0)), rfl, bel.frame _, fun h => by cases h⟩

theorem holds : Rows.StepBytesSaid :=
  OpenClaim.holds_of_wide 4 Try.f4 rfl rfl rfl rfl rfl rfl rfl ⟨rfl, rfl, rfl, rfl, rfl⟩ rfl rfl rfl rfl rfl (by kernel_rfl) Try.func4 (by kernel_rfl)
    (of_decide_eq_true (by kernel_rfl)) (by unfold Func.isWrapper; first | (rw [if_pos (by decide +kernel)]; kernel_rfl) | (rw [if_neg (by decide +kernel)]; exact ⟨rfl, rfl⟩))
    (fun os started H enc _ => lifted os started H enc)
#print axioms holds
end Go.Proofs.Ytpdnfiofjkbeiaa.stepBytes
