
import Derived.Test.YtiajpjkkopdmgaaCmAD
import Derived.Test.YtiajpjkkopdmgaaCmAF
import Derived.Conc.WalkWords
import Derived.Test.YtiajpjkkopdmgaaCmA
import Derived.Test.YtiajpjkkopdmgaaCmD
import Derived.Test.YtiajpjkkopdmgaaCmF

namespace Go.Proofs.Ytiajpjkkopdmgaa.typingOn
open Go.RowKit Go.Proofs.Ytiajpjkkopdmgaa.schema Go.Proofs.Ytiajpjkkopdmgaa.typing
open Go.Proofs.Ytiajpjkkopdmgaa.field (Gives newB gives_from)
open Go.Proofs.Ytiajpjkkopdmgaa.step (Lists St StL sps GreatL)
set_option linter.unusedVariables false

theorem on_small (v : Int) (F : List schema.Form) (s : step.Sp) : (on v F s).2.1.length ≤ 40 := by
  by_cases h0 : (on v F s).2.2 = 0
  · obtain ⟨_, _, hR, _⟩ := on_ok h0
    exact Nat.le_trans hR.2.1 (by decide)
  · have := on_bad h0
    rw [show (on v F s).2.1 = [] from this.2]
    simp
set_option maxRecDepth 20000 in
set_option maxHeartbeats 3200000 in
theorem walkOn (v : Int) (sa : Option Addr) (sc : Nat) (F : List Fm) (s : step.Sp) (ta : Option Addr) (tc : Nat) (la : Option Addr) (lc : Nat) (w : World) (h : FmL w sa F) (hF : F.length ≤ maxLen) (hl : Lists w s ta la) :
    Calls Try.prog 3 #[.agg #[.int .i64 v, .slice sa F.length sc], .agg #[.int .i64 s.op, .int .i64 s.fm, .int .i64 s.fd, .int .i64 s.pl, .int .i64 s.tt, .int .i64 s.a, .int .i64 s.b, .int .i64 s.f.id, .int .i64 s.f.kind, .int .i64 s.f.lo, .int .i64 s.f.hi, .int .i64 s.f.most, .int .i64 s.v.n, .string s.v.s, .slice ta s.t.length tc, .slice la s.l.length lc]] w (Yes w) := by
  have hml : (F.length : Int) ≤ 9223372036854775807 := by unfold maxLen at hF; omega
  have hw : Below w.heap.size w ((w.alloc (.cells #[.int .i64 v, .slice sa F.length sc] 24)).alloc (.cells #[.int .i64 s.op, .int .i64 s.fm, .int .i64 s.fd, .int .i64 s.pl, .int .i64 s.tt, .int .i64 s.a, .int .i64 s.b, .int .i64 s.f.id, .int .i64 s.f.kind, .int .i64 s.f.lo, .int .i64 s.f.hi, .int .i64 s.f.most, .int .i64 s.v.n, .string s.v.s, .slice ta s.t.length tc, .slice la s.l.length lc] 32)) := by
    have h1 := newB w (.cells #[.int .i64 v, .slice sa F.length sc] 24)
    exact h1.alloc h1.size _
  have hA : Block ((w.alloc (.cells #[.int .i64 v, .slice sa F.length sc] 24)).alloc (.cells #[.int .i64 s.op, .int .i64 s.fm, .int .i64 s.fd, .int .i64 s.pl, .int .i64 s.tt, .int .i64 s.a, .int .i64 s.b, .int .i64 s.f.id, .int .i64 s.f.kind, .int .i64 s.f.lo, .int .i64 s.f.hi, .int .i64 s.f.most, .int .i64 s.v.n, .string s.v.s, .slice ta s.t.length tc, .slice la s.l.length lc] 32)) w.heap.size 24 [.int .i64 v, .slice sa F.length sc] := (Block.new w _ _).alloc _
  have hU : Block ((w.alloc (.cells #[.int .i64 v, .slice sa F.length sc] 24)).alloc (.cells #[.int .i64 s.op, .int .i64 s.fm, .int .i64 s.fd, .int .i64 s.pl, .int .i64 s.tt, .int .i64 s.a, .int .i64 s.b, .int .i64 s.f.id, .int .i64 s.f.kind, .int .i64 s.f.lo, .int .i64 s.f.hi, .int .i64 s.f.most, .int .i64 s.v.n, .string s.v.s, .slice ta s.t.length tc, .slice la s.l.length lc] 32)) (w.heap.size + 1) 32 [.int .i64 s.op, .int .i64 s.fm, .int .i64 s.fd, .int .i64 s.pl, .int .i64 s.tt, .int .i64 s.a, .int .i64 s.b, .int .i64 s.f.id, .int .i64 s.f.kind, .int .i64 s.f.lo, .int .i64 s.f.hi, .int .i64 s.f.most, .int .i64 s.v.n, .string s.v.s, .slice ta s.t.length tc, .slice la s.l.length lc] := by
    have := Block.new ((w.alloc (.cells #[.int .i64 v, .slice sa F.length sc] 24))) 32 [.int .i64 s.op, .int .i64 s.fm, .int .i64 s.fd, .int .i64 s.pl, .int .i64 s.tt, .int .i64 s.a, .int .i64 s.b, .int .i64 s.f.id, .int .i64 s.f.kind, .int .i64 s.f.lo, .int .i64 s.f.hi, .int .i64 s.f.most, .int .i64 s.v.n, .string s.v.s, .slice ta s.t.length tc, .slice la s.l.length lc]
    simpa using this
  have hsz : ((w.alloc (.cells #[.int .i64 v, .slice sa F.length sc] 24)).alloc (.cells #[.int .i64 s.op, .int .i64 s.fm, .int .i64 s.fd, .int .i64 s.pl, .int .i64 s.tt, .int .i64 s.a, .int .i64 s.b, .int .i64 s.f.id, .int .i64 s.f.kind, .int .i64 s.f.lo, .int .i64 s.f.hi, .int .i64 s.f.most, .int .i64 s.v.n, .string s.v.s, .slice ta s.t.length tc, .slice la s.l.length lc] 32)).heap.size = w.heap.size + 1 + 1 := by simp
  obtain ⟨W0, hW0⟩ : ∃ x, (w.alloc (.cells #[.int .i64 v, .slice sa F.length sc] 24)).alloc (.cells #[.int .i64 s.op, .int .i64 s.fm, .int .i64 s.fd, .int .i64 s.pl, .int .i64 s.tt, .int .i64 s.a, .int .i64 s.b, .int .i64 s.f.id, .int .i64 s.f.kind, .int .i64 s.f.lo, .int .i64 s.f.hi, .int .i64 s.f.most, .int .i64 s.v.n, .string s.v.s, .slice ta s.t.length tc, .slice la s.l.length lc] 32) = x := ⟨_, rfl⟩
  have HW0 := hid hW0
  rw [hW0] at hA hU hw hsz
  have hf0 := h.below hw
  have hl0 := hl.below hw
  have bR := newB W0 (.cells #[.int .i64 s.op, .int .i64 s.fm, .int .i64 s.fd, .int .i64 s.pl, .int .i64 s.tt, .int .i64 s.a, .int .i64 s.b, .int .i64 s.f.id, .int .i64 s.f.kind, .int .i64 s.f.lo, .int .i64 s.f.hi, .int .i64 s.f.most, .int .i64 s.v.n, .string s.v.s, .slice ta s.t.length tc, .slice la s.l.length lc] 32)
  have hSL : StL (W0.alloc (.cells #[.int .i64 s.op, .int .i64 s.fm, .int .i64 s.fd, .int .i64 s.pl, .int .i64 s.tt, .int .i64 s.a, .int .i64 s.b, .int .i64 s.f.id, .int .i64 s.f.kind, .int .i64 s.f.lo, .int .i64 s.f.hi, .int .i64 s.f.most, .int .i64 s.v.n, .string s.v.s, .slice ta s.t.length tc, .slice la s.l.length lc] 32)) (some ⟨W0.heap.size, 0, none⟩) [⟨s, ta, tc, la, lc⟩] := ⟨one_list ⟨s, ta, tc, la, lc⟩ W0 32, fun p hp => by rw [List.mem_singleton.1 hp]; exact hl0.below bR⟩
  obtain ⟨W1, hW1⟩ : ∃ x, W0.alloc (.cells #[.int .i64 s.op, .int .i64 s.fm, .int .i64 s.fd, .int .i64 s.pl, .int .i64 s.tt, .int .i64 s.a, .int .i64 s.b, .int .i64 s.f.id, .int .i64 s.f.kind, .int .i64 s.f.lo, .int .i64 s.f.hi, .int .i64 s.f.most, .int .i64 s.v.n, .string s.v.s, .slice ta s.t.length tc, .slice la s.l.length lc] 32) = x := ⟨_, rfl⟩
  have HW1 := hid hW1
  rw [hW1] at hSL bR
  have cG := great_any v sa sc F (some ⟨W0.heap.size, 0, none⟩) 1 [⟨s, ta, tc, la, lc⟩] W1 (hf0.below bR) hF hSL (by unfold maxLen; simp)
  obtain ⟨g, hg⟩ : ∃ g : Bool, (greatB (forms F) || decide (GreatL (sps [⟨s, ta, tc, la, lc⟩]))) = g := ⟨_, rfl⟩
  rw [hg] at cG
  replace cG : Calls Try.prog 6 #[.agg #[.int .i64 v, .slice sa F.length sc], .slice (some ⟨w.heap.size + 1 + 1, 0, none⟩) 1 1] W1 (Gives (.bool g) W1) := by rw [← hsz]; exact cG
  have HX : Hid (∀ w', Below W0.heap.size W0 w' → Block w' w.heap.size 24 [.int .i64 v, .slice sa F.length sc] ∧ Block w' (w.heap.size + 1) 32 [.int .i64 s.op, .int .i64 s.fm, .int .i64 s.fd, .int .i64 s.pl, .int .i64 s.tt, .int .i64 s.a, .int .i64 s.b, .int .i64 s.f.id, .int .i64 s.f.kind, .int .i64 s.f.lo, .int .i64 s.f.hi, .int .i64 s.f.most, .int .i64 s.v.n, .string s.v.s, .slice ta s.t.length tc, .slice la s.l.length lc] ∧ Below w.heap.size w w') := hid (fun w' hb => ⟨hA.later hb, hU.later hb, hw.trans (hb.mono hw.size)⟩)
  have HBR := hid bR
  have HIS : Hid ((Try.prog.info? 32).map (·.size) = some ([.int .i64 s.op, .int .i64 s.fm, .int .i64 s.fd, .int .i64 s.pl, .int .i64 s.tt, .int .i64 s.a, .int .i64 s.b, .int .i64 s.f.id, .int .i64 s.f.kind, .int .i64 s.f.lo, .int .i64 s.f.hi, .int .i64 s.f.most, .int .i64 s.v.n, .string s.v.s, .slice ta s.t.length tc, .slice la s.l.length lc] : List Value).length) := hid st_info
  have cA := fun w' => awake_any w'
  clear hW0 hW1
  unfold Yes at cA ⊢
  unfold Gives at cG
  cases g
  rotate_left
  · clear h hl hA hU hw hsz hf0 hl0 bR hSL hg hF
    rw [← HW1.out, ← HW0.out] at cG
    go_enter Try.func3, Try.ntmps3
    go_wp2_with (first
      | (go_at_call 6; ((with_reducible refine cG.mono ?_); clear cG; rintro e w1 ⟨rfl, hb1⟩; rw [HW0.out, HW1.out] at hb1))
      | (go_at_call 7; ((with_reducible refine (cA _).mono ?_); rintro e w8 ⟨rfl, hb8⟩)))
    go_ret
    exact ⟨rfl, (HX.out _ (HBR.out.trans ((hb1.trans (hb8.mono hb1.size)).mono HBR.out.size))).2.2⟩
  obtain ⟨hsm, hll⟩ := small_of h hg
  have hl4 : s.l.length ≤ 40 := hll ⟨s, ta, tc, la, lc⟩ (by simp)
  have cO := fun (w' : World) (hb : Below W0.heap.size W0 w') => on_any v sa sc F s ta tc la lc w' (hf0.below hb) ((hsm.below hw).below hb) (hl0.below hb) hl4
  have cQ := fun (w' : World) (hb : Below W0.heap.size W0 w') => refOn_any v sa sc F s ta tc la lc w' (hf0.below hb) ((hsm.below hw).below hb) (hl0.below hb) hl4
  have hon := on_small v (forms F) s
  generalize on v (forms F) s = R at cO cQ hon
  obtain ⟨v', P, n⟩ := R
  simp only at hon
  unfold OnAs at cO
  unfold OnR at cQ
  have HON := hid hon
  clear h hl hA hU hw hsz hf0 hl0 bR hSL hg hsm hll hl4 hon hF
  rw [← HW1.out, ← HW0.out] at cG
  go_enter Try.func3, Try.ntmps3
  go_wp2_with (first
    | (go_at_call 6; ((with_reducible refine cG.mono ?_); clear cG; rintro e w1 ⟨rfl, hb1⟩; rw [HW0.out, HW1.out] at hb1; have hB2 := HBR.out.trans (hb1.mono HBR.out.size); obtain ⟨k0, k1, hbw1⟩ := HX.out _ hB2; have z0 := k0.cell 0; have z1 := k0.cell 1; have K1 := hid k1; clear k0 k1 hb1))
    | (with_reducible refine wpList_load_mid rfl 32 (.tmp 3) rfl (w.heap.size + 1) 0 rfl [.int .i64 s.op, .int .i64 s.fm, .int .i64 s.fd, .int .i64 s.pl, .int .i64 s.tt, .int .i64 s.a, .int .i64 s.b, .int .i64 s.f.id, .int .i64 s.f.kind, .int .i64 s.f.lo, .int .i64 s.f.hi, .int .i64 s.f.most, .int .i64 s.v.n, .string s.v.s, .slice ta s.t.length tc, .slice la s.l.length lc] _ K1.out.whole Try.underlying32 rfl HIS.out ?_)
    | (go_at_call 8; ((with_reducible refine (cO _ hB2).mono ?_); rintro e w3 ⟨x, xc, G, rfl, hG, hfo, _, hb3⟩; have hB3 := hB2.trans (hb3.mono hB2.size); have hN3 := newB w3 (.cells #[.int .i64 v', .slice x G.length xc] 24); have hB4 := hB3.trans (hN3.mono hB3.size); obtain ⟨k0, k1, hbw4⟩ := HX.out _ hB4; have z0 := k0.cell 0; have z1 := k0.cell 1; have KX := hid (Block.new w3 24 [.int .i64 v', .slice x G.length xc]); have K1 := hid k1; have HG := hid (hG.below hN3); have HGL : Hid (G.length ≤ maxLen) := hid (by have h8 := HON.out; rw [← hfo, forms_length] at h8; unfold maxLen; omega); have HFO := hid hfo; clear k0 k1 hG hfo))
    | (go_at_call 9; ((with_reducible refine (cQ _ hB4).mono ?_); rintro e w5 ⟨y, yc, H, rfl, hH, hfo, _, hb5⟩; have hN5 := newB w5 (.cells #[.int .i64 v', .slice y H.length yc] 24); have hb6 := hb5.trans (hN5.mono hb5.size); have hB6 := hB4.trans (hb6.mono hB4.size); have kx := KX.out.later hb6; have x0 := kx.cell 0; have x1 := kx.cell 1; have KY := Block.new w5 24 [.int .i64 v', .slice y H.length yc]; have y0 := KY.cell 0; have y1 := KY.cell 1; have HG6 := hid (HG.out.below hb6); have HH := hid (hH.below hN5); have HHL : Hid (H.length ≤ maxLen) := hid (by have h8 := HON.out; rw [← hfo, forms_length] at h8; unfold maxLen; omega); have HFO2 := hid hfo; clear kx KY hH hfo))
    | (go_at_call 10; ((with_reducible refine (refSame_any v' x xc G v' y yc H _ HG6.out HH.out HGL.out HHL.out).mono ?_); unfold Gives; rw [decide_eq_true (show v' = v' ∧ forms G = forms H from ⟨rfl, by rw [HFO.out, HFO2.out]⟩)]; rintro e w7 ⟨rfl, hb7⟩; have hB7 := hB6.trans (hb7.mono hB6.size)))
    | (go_at_call 7; ((with_reducible refine (cA _).mono ?_); rintro e w8 ⟨rfl, hb8⟩)))
  go_ret
  exact ⟨rfl, (HX.out _ (hB7.trans (hb8.mono hB7.size))).2.2⟩
theorem walk (p : Sc) (q : St) (w : World) (hp : p.Good w) (hq : q.Good w) : Calls Try.prog 3 #[p.val, q.val] w (Yes w) :=
  walkOn p.ver p.f p.fCap p.fL q.s q.ta q.tc q.la q.lc w ⟨hp.rf, fun y hy => (hp.mf y hy).ok⟩ (Nat.le_trans hp.cf hp.df) hq.lists
end Go.Proofs.Ytiajpjkkopdmgaa.typingOn

namespace Go.Proofs.Ytiajpjkkopdmgaa.typingOn
open Go.ChangeShapes Go.WideShapes Go.ChangeAt Go.RowKit Go.Proofs.Ytiajpjkkopdmgaa.schema Go.Proofs.Ytiajpjkkopdmgaa.step
open Go.ChangeMaps (open_string shut_string)
set_option linter.unusedVariables false
set_option maxRecDepth 100000 in
theorem lifted (os : Os) (started : os.Started) (H : Type) (enc : TypeId × Value → H) :
    ReturnsInHanded {} Try.checked os 3 .any (Rows.typingOnSpec.pre6 enc Try.prog Try.f3 Rows.typingOnRow.domain false) (Rows.typingOnSpec.post enc Try.prog Try.f3 false true false false) := by
  refine returnsInHanded_of_change_sized (C := Try.checked) own started (by kernel_rfl) Try.func3
    (ChangeSpec.witness6 (enc := enc) (C := Try.checked) false ⟨#[], #[.agg #[.int .i64 0, .slice none 0 0], .agg #[.int .i64 0, .int .i64 0, .int .i64 0, .int .i64 0, .int .i64 0, .int .i64 0, .int .i64 0, .int .i64 0, .int .i64 0, .int .i64 0, .int .i64 0, .int .i64 0, .int .i64 0, .string ⟨#[]⟩, .slice none 0 0, .slice none 0 0]], []⟩ 8 (by kernel_rfl) (by kernel_rfl) (by kernel_rfl) (by kernel_rfl)) ?_
  intro W base args ds gs before hval0 hW hcnd hsz0 _
  have hsz : (DataW.weightsEach Try.prog (Try.f3.params.toList ++ Rows.typingOnSpec.plain.varTypes Try.prog) (ds ++ gs)).all (· ≤ reachBytes) = true := hsz0
  clear hsz0
  have hval : ∀ (j : Nat) t v, Try.f3.params[j]? = some t → args[j]? = some v → Value.okWide Try.prog W .any base t v := hval0
  have hW' := hW
  obtain ⟨p, q, hA0, hV, rfl, hfz, hnd⟩ := hW
  have hA : DataW.TrodAll enc Try.prog W 0 (fun _ => true) true Try.f3.params.toList args.toList ds p := hA0
  rw [Try.params3] at hA hval hsz
  obtain ⟨v0, vs0, d0, ds0, p0, q0, hargs, rfl, rfl, h0, r0⟩ := trodAll_cons hA
  obtain ⟨v1, vs1, d1, ds1, p1, q1, rfl, rfl, rfl, h1, r1⟩ := trodAll_cons r0
  obtain ⟨rfl, rfl, rfl⟩ := trodAll_nil r1
  obtain rfl : args = #[v0, v1] := by cases args; simp_all
  obtain ⟨rfl, rfl⟩ := trodVars_none hV
  have k0 := h0
  have lt0 : ∀ x ∈ p0, x.block < W.heap.size := by obtain ⟨m, hm⟩ := k0; exact DataW.trod_lt m _ _ _ hm
  obtain ⟨pc0, fp0, rfl⟩ := open_Sc_arg Try.underlying24 (by kernel_rfl) (by kernel_rfl) (by kernel_rfl) Go.Proofs.Ytiajpjkkopdmgaa.schema.fmRow (hval 0 24 v0 rfl rfl) h0
  have k1 := h1
  have lt1 : ∀ x ∈ p1, x.block < W.heap.size := by obtain ⟨m, hm⟩ := k1; exact DataW.trod_lt m _ _ _ hm
  obtain ⟨pc1, fp1, rfl⟩ := open_St_arg Go.Proofs.Ytiajpjkkopdmgaa.step.stType (hval 1 32 v1 rfl rfl) h1
  clear hA0 hval0
  refine (walk pc0 pc1 W fp0 fp1).mono fun e W' ⟨he, bel⟩ => ?_
  subst he
  exact ⟨_, rfl, _, _, _, [], _, [], hW', trodAll_mk1 (shut_bool Try.underlying4 _), (trodAll_cons_mk (Below.trod laidOut (by kernel_rfl) (of_decide_eq_true (by kernel_rfl)) k0 bel lt0) (trodAll_cons_mk (Below.trod laidOut (by kernel_rfl) (of_decide_eq_true (by kernel_rfl)) k1 bel lt1) trodAll_mk0)), rfl, bel.frame _, fun h => by cases h⟩

theorem holds : Rows.TypingOnSaid :=
  OpenClaim.holds_of_wide 3 Try.f3 rfl rfl rfl rfl rfl rfl rfl ⟨rfl, rfl, rfl, rfl, rfl⟩ rfl rfl rfl rfl rfl (by kernel_rfl) Try.func3 (by kernel_rfl)
    (of_decide_eq_true (by kernel_rfl)) (by unfold Func.isWrapper; first | (rw [if_pos (by decide +kernel)]; kernel_rfl) | (rw [if_neg (by decide +kernel)]; exact ⟨rfl, rfl⟩))
    (fun os started H enc _ => lifted os started H enc)
#print axioms holds
end Go.Proofs.Ytiajpjkkopdmgaa.typingOn
