/- FrameBack: a frame's words are read as it was, whatever stands behind them. No condition. -/
import Derived.Test.YtfgbiafoncaagaaCmC
import Derived.Conc.WalkWords
import Derived.Test.YtfgbiafoncaagaaCmA
/- FrameBack: a frame's words are read as it was, whatever stands behind them. No condition. -/
namespace Go.Proofs.Ytfgbiafoncaagaa.frameBack
open Go.RowKit Go.Proofs.Ytfgbiafoncaagaa.word Go.Proofs.Ytfgbiafoncaagaa.zeros Go.Proofs.Ytfgbiafoncaagaa.frame Go.Proofs.Ytfgbiafoncaagaa.flash
set_option linter.unusedVariables false

set_option maxRecDepth 20000 in
set_option maxHeartbeats 3200000 in
theorem walk (p : FArg) (a1 : Option Addr) (len1 cap1 : Nat) (ms : List Nat) (w : World) (hp : p.Good w)
    (hr1 : Reads .u32 w a1 len1 ms) (hx1 : ∀ x ∈ ms, x < 4294967296) (hlc1 : len1 ≤ cap1) (hcap1 : cap1 * 4 ≤ 140737488351232) :
    Calls Try.prog 4 #[p.val, .slice a1 len1 cap1] w (Yes w) := by
  obtain ⟨i0, hi, hz0, hz1, hz2⟩ := info_parts Tryinfo34
  have HF := hid (cells3 p w)
  have HB := hid (belowNewF p w)
  have hbw : Below w.heap.size w (w.alloc (.cells #[.int .i64 p.k, .int .i64 p.s, .slice p.l p.lLen p.lCap] 24)) := (Below.refl _ _).alloc (Nat.le_refl _) _
  have hp0 := hp.below hbw
  have hr0 := hr1.below hbw
  obtain ⟨w0, hw0⟩ : ∃ x, Hid ((w.alloc (.cells #[.int .i64 p.k, .int .i64 p.s, .slice p.l p.lLen p.lCap] 24)) = x) := ⟨_, rfl⟩
  rw [hw0.out] at HF HB hp0 hr0
  clear hp hr1 hbw
  unfold FArg.val
  by_cases hok : okB p.k p.s p.lLen = true
  · obtain ⟨o1, o2, o3, o4, o5⟩ := okB_true.1 hok
    have hwl := words_len hp0
    have hws := words_small hp0 hok
    have cl := fun W hb => lay_yes_at hp0 hok W hb
    have hrd : ∀ T, readN (p.words ++ T) = some (p.k.toNat, p.s.toNat, p.lW) := fun T => readN_words _ _ _ T (by
      obtain ⟨k, s, hk, hs⟩ := ok_nat hok
      rw [hk, hs, hp0.rl.1, Int.toNat_natCast, Int.toNat_natCast, ← hk, ← hs]; exact hok)
    have HWL := hid hwl
    have HWS := hid hws
    have HRD := hid hrd
    have HP0 := hid hp0
    have HOK := hid hok
    have HX1 := hid hx1
    have H5 := hid o5
    have HLC := hid hlc1
    have HCP := hid hcap1
    clear hwl hws hrd hok hp0 hx1 o1 o2 o3 o4 o5 hlc1 hcap1
    go_enter Try.func4, Try.ntmps4
    go_wp2_with fail
    rw [hw0.out]
    have HL1 : Hid (ms.length = len1) := hid hr0.1
    have HN1 : Hid ((nums .u32 p.words).length = p.lLen + 3) := hid (by rw [nums_length, HWL.out])
    have HN2 : Hid ((nums .u32 ms).length = len1) := hid (by rw [nums_length, HL1.out])
    have A1 : Hid (0 + (p.lLen + 3) ≤ maxLen ∧ (0 + (p.lLen + 3)) * 4 ≤ 140737488355328) := hid (by have := H5.out; unfold maxLen; omega)
    have A2 : Hid (p.lLen + 3 + len1 ≤ maxLen ∧ (p.lLen + 3 + len1) * 4 ≤ 140737488355328) := hid (by have := H5.out; have := HLC.out; have := HCP.out; unfold maxLen; omega)
    have hlt : w.heap.size < w0.heap.size := by rw [← hw0.out]; simp
    have HALL : Hid (∀ x ∈ p.words ++ ms, x < 4294967296) := hid (fun x hx => (List.mem_append.1 hx).elim (HWS.out x) (HX1.out x))
    have cread : ∀ w1 w3 v3, Below w0.heap.size w0 w1 → Below w1.heap.size w1 w3 → w3.ownsRow w1.heap.size 40 1 v3 (p.lLen + 3 + len1) (nums .u32 p.words ++ nums .u32 ms) → ∃ g3 c3, v3 = .slice (some ⟨g3, 0, none⟩) (p.lLen + 3 + len1) c3 ∧
        Calls Try.prog 12 #[.slice (some ⟨g3, 0, none⟩) (p.lLen + 3 + len1) c3] w3 (ReadsP p w3) := fun w1 w3 v3 hb hb3 ho3 => by
      have ho4 : w3.ownsRow w1.heap.size 40 1 v3 (p.lLen + 3 + len1) ((p.words ++ ms).map fun x : Nat => Value.int .u32 (x : Int)) := by
        rw [List.map_append]; exact ho3
      obtain ⟨g3, c3, rfl, hg3a, hrow3⟩ := Row.own ho4 (by omega)
      have rd3 := hrow3.reads
      rw [List.length_append, HWL.out, HL1.out] at rd3
      obtain ⟨_, _, h1, h2⟩ := hrow3
      rw [List.length_append, HWL.out, HL1.out] at h1
      exact ⟨g3, c3, rfl, (read_as (some ⟨g3, 0, none⟩) (p.lLen + 3 + len1) c3 (p.words ++ ms) w3 rd3 HALL.out h1 h2 (HRD.out ms)).mono fun e w' h => readsP HP0.out HOK.out h⟩
    have CREAD := hid cread
    clear cread
    go_wp2_with (first
      | (go_at_call 7; ((with_reducible refine (cl _ (Below.refl _ _)).mono ?_); rintro e w1 ⟨g, cap', rfl, hg, hrow, hb⟩; have rs := hrow.reads; rw [HWL.out] at rs))
      | (at_builtin; refine wpList_append_from rfl _ _ 22 rfl w1.heap.size 40 i0 (.int .u32 0) 4 Try.underlying22 hi hz0 hz1 hz2 rfl (.slice none 0 0) 0 [] rfl (World.ownsRow_nil _ _ _ _) (some ⟨g, 0, none⟩) (p.lLen + 3) cap' (nums .u32 p.words) rfl HN1.out (reads_news rs) (nums_one .u32 p.words) A1.out.1 A1.out.2 (Nat.le_refl _) ?_; intro v2 w2 ho2 hg2; rw [Nat.zero_add, List.nil_append] at ho2; have hb2 : Below w1.heap.size w1 w2 := (Below.refl _ _).grown hg2 (Nat.le_refl _) (fun k hk => (by cases hk)); have hr2 := (hr0.below hb).below hb2)
      | (at_builtin; refine wpList_append_from rfl _ _ 22 rfl w1.heap.size 40 i0 (.int .u32 0) 4 Try.underlying22 hi hz0 hz1 hz2 rfl v2 (p.lLen + 3) (nums .u32 p.words) rfl ho2 a1 len1 cap1 (nums .u32 ms) rfl HN2.out (reads_news hr2) (nums_one .u32 ms) A2.out.1 A2.out.2 hb2.size ?_; intro v3 w3 ho3 hg3; have hb3 : Below w1.heap.size w1 w3 := hb2.grown hg3 hb2.size (fun k hk => (ho2.lt k hk).1); obtain ⟨g3, c3, rfl, cr⟩ := CREAD.out w1 w3 v3 hb hb3 ho3; have hb03 : Below w0.heap.size w0 w3 := hb.trans (hb3.mono hb.size); clear ho2 ho3 hg2 hg3 hr2 rs hb2 hb3)
      | (go_at_call 12; ((with_reducible refine cr.mono ?_); clear cr; rintro e w4 ⟨g4, c4, rfl, hg4, hrow4, hb4⟩; have hb04 := hb03.trans (hb4.mono hb03.size); obtain ⟨f0, f1, f2⟩ := HF.out w4 hb04; have hlt4 : w.heap.size < w4.heap.size := Nat.lt_of_lt_of_le hlt hb04.size; have hbn : Below w4.heap.size w4 (w4.alloc (.cells #[.int .i64 p.k, .int .i64 p.s, .slice (some ⟨g4, 0, none⟩) p.lLen c4] 28)) := (Below.refl _ _).alloc (Nat.le_refl _) _; have cs := sameF_at g4 c4 (hrow4.later hbn) (HP0.out.rl.below (hb04.trans (hbn.mono hb04.size))) H5.out))
      | (go_at_call 14; ((with_reducible refine cs.mono ?_); clear cs; rintro e w5 ⟨rfl, hb5⟩))
      | (go_at_call 15; ((with_reducible refine (awake_any _).mono ?_); rintro e w6 ⟨rfl, hb6⟩)))
    go_ret
    have hb05 := hb04.trans ((hbn.trans (hb5.mono hbn.size)).mono hb04.size)
    exact ⟨rfl, HB.out _ (hb05.trans (hb6.mono hb05.size))⟩
  · rw [Bool.not_eq_true] at hok
    have cl := lay_no_at hok
    have cr := right_at p
    rw [hok] at cr
    clear hok hp0 hr0 hx1
    go_enter Try.func4, Try.ntmps4
    go_wp2_with fail
    rw [hw0.out]
    go_wp2_with (first
      | (go_at_call 7; ((with_reducible refine (cl _).mono ?_); rintro e w1 ⟨rfl, hb1⟩; obtain ⟨f0, f1, f2⟩ := HF.out w1 hb1))
      | (go_at_call 8; ((with_reducible refine (cr _).mono ?_); rintro e w2 ⟨rfl, hb2⟩))
      | (go_at_call 15; ((with_reducible refine (awake_any _).mono ?_); rintro e w3 ⟨rfl, hb3⟩)))
    go_ret
    exact ⟨rfl, HB.out _ (hb1.trans ((hb2.trans (hb3.mono hb2.size)).mono hb1.size))⟩
end Go.Proofs.Ytfgbiafoncaagaa.frameBack
/- FrameBack: a frame's words are read as it was, whatever stands behind them. No condition. -/
namespace Go.Proofs.Ytfgbiafoncaagaa.frameBack
open Go.ChangeShapes Go.WideShapes Go.ChangeAt Go.RowKit Go.Proofs.Ytfgbiafoncaagaa.frame
open Go.ChangeMaps (open_string shut_string)
set_option linter.unusedVariables false
set_option maxRecDepth 100000 in
theorem lifted (os : Os) (started : os.Started) (H : Type) (enc : TypeId × Value → H) :
    ReturnsInHanded {} Try.checked os 4 .any (Rows.frameBackSpec.pre6 enc Try.prog Try.f4 Rows.frameBackRow.domain false) (Rows.frameBackSpec.post enc Try.prog Try.f4 false true false false) := by
  refine returnsInHanded_of_change_sized (C := Try.checked) own started (by kernel_rfl) Try.func4
    (ChangeSpec.witness6 (enc := enc) (C := Try.checked) false ⟨#[], #[.agg #[.int .i64 0, .int .i64 0, .slice none 0 0], .slice none 0 0], []⟩ 8 (by kernel_rfl) (by kernel_rfl) (by kernel_rfl) (by kernel_rfl)) ?_
  intro W base args ds gs before hval0 hW hcnd hsz0 _
  have hsz : (DataW.weightsEach Try.prog (Try.f4.params.toList ++ Rows.frameBackSpec.plain.varTypes Try.prog) (ds ++ gs)).all (· ≤ reachBytes) = true := hsz0
  clear hsz0
  have hval : ∀ (j : Nat) t v, Try.f4.params[j]? = some t → args[j]? = some v → Value.okWide Try.prog W .any base t v := hval0
  have hW' := hW
  obtain ⟨p, q, hA0, hV, rfl, hfz, hnd⟩ := hW
  have hA : DataW.TrodAll enc Try.prog W 0 (fun _ => true) true Try.f4.params.toList args.toList ds p := hA0
  rw [Try.params4] at hA hval hsz
  obtain ⟨v0, vs0, d0, ds0, p0, q0, hargs, rfl, rfl, h0, r0⟩ := trodAll_cons hA
  obtain ⟨v1, vs1, d1, ds1, p1, q1, rfl, rfl, rfl, h1, r1⟩ := trodAll_cons r0
  obtain ⟨rfl, rfl, rfl⟩ := trodAll_nil r1
  obtain rfl : args = #[v0, v1] := by cases args; simp_all
  obtain ⟨rfl, rfl⟩ := trodVars_none hV
  have k0 := h0
  have lt0 : ∀ x ∈ p0, x.block < W.heap.size := by obtain ⟨m, hm⟩ := k0; exact DataW.trod_lt m _ _ _ hm
  obtain ⟨pc0, fp0, rfl⟩ := open_FArg_arg Try.underlying24 (by kernel_rfl) (by kernel_rfl) (by kernel_rfl) (by kernel_rfl) Try.underlying22 Try.underlying40 (by kernel_rfl) (hval 0 24 v0 rfl rfl) h0
  obtain ⟨a1, len1, cap1, rfl⟩ := okWide_slice Try.underlying22 (hval 1 22 v1 rfl rfl)
  have k1 := h1
  have lt1 : ∀ x ∈ p1, x.block < W.heap.size := by obtain ⟨m, hm⟩ := k1; exact DataW.trod_lt m _ _ _ hm
  obtain ⟨xs1, rd1, xb1, lc1, rs1⟩ := open_uints (j := 1) Try.underlying22 Try.underlying40 (by kernel_rfl) (by kernel_rfl : Try.prog.bytesOf 40 = 4) wf_u32 h1 hsz rfl rfl
  clear hA0 hval0
  refine (walk pc0 a1 len1 cap1 xs1 W fp0 rd1 xb1 lc1 rs1).mono fun e W' ⟨he, bel⟩ => ?_
  subst he
  exact ⟨_, rfl, _, _, _, [], _, [], hW', trodAll_mk1 (shut_bool Try.underlying4 _), (trodAll_cons_mk (Below.trod laidOut (by kernel_rfl) (of_decide_eq_true (by kernel_rfl)) k0 bel lt0) (trodAll_cons_mk (Below.trod laidOut (by kernel_rfl) (of_decide_eq_true (by kernel_rfl)) k1 bel lt1) trodAll_mk0)), rfl, bel.frame _, fun h => by cases h⟩

theorem holds : Rows.FrameBackSaid :=
  OpenClaim.holds_of_wide 4 Try.f4 rfl rfl rfl rfl rfl rfl rfl ⟨rfl, rfl, rfl, rfl, rfl⟩ rfl rfl rfl rfl rfl (by kernel_rfl) Try.func4 (by kernel_rfl)
    (of_decide_eq_true (by kernel_rfl)) (by unfold Func.isWrapper; first | (rw [if_pos (by decide +kernel)]; kernel_rfl) | (rw [if_neg (by decide +kernel)]; exact ⟨rfl, rfl⟩))
    (fun os started H enc _ => lifted os started H enc)
#print axioms holds
end Go.Proofs.Ytfgbiafoncaagaa.frameBack
