/- FrameCut: the first words of a frame, fewer than all, the last one of them torn, with ones behind, are read as a frame only if they are all and none was torn. No condition. -/
import Derived.Test.YtfgbiafoncaagaaCmC
import Derived.Conc.WalkWords
import Derived.Test.YtfgbiafoncaagaaCmA
/- FrameCut: the first words of a frame, fewer than all, the last one of them torn, with ones behind, are read as a frame only if they are all and none was torn. No condition. -/
namespace Go.Proofs.Ytfgbiafoncaagaa.frameCut
open Go.RowKit Go.Proofs.Ytfgbiafoncaagaa.word Go.Proofs.Ytfgbiafoncaagaa.zeros Go.Proofs.Ytfgbiafoncaagaa.frame Go.Proofs.Ytfgbiafoncaagaa.flash
set_option linter.unusedVariables false

/-- the call returns some frame, or none, as b says -/
def Says (b : Bool) (w : World) (e : Ending) (w' : World) : Prop :=
  ∃ (k s n : Int) (a : Option Addr) (l c : Nat), e = .returned (.tuple #[.agg #[.int .i64 k, .int .i64 s, .slice a l c], .int .i64 n, .bool b]) ∧ Below w.heap.size w w'
theorem says {r : Option (Nat × Nat × List Nat)} {w w' : World} {e : Ending} (h : ReadsAs r w e w') : Says r.isSome w e w' := by
  match r, h with
  | none, ⟨h1, h2⟩ => exact ⟨0, 0, 0, none, 0, 0, h1, h2⟩
  | some (k, s, L), ⟨g, c, h1, _, _, h2⟩ => exact ⟨k, s, _, _, _, _, h1, h2⟩
def lenOf : Value → Nat
  | .slice _ l _ => l
  | _ => 0
/-- the torn words and j ones -/
def cutL (ss : List Nat) (n m j : Nat) : List Nat := ss.take n ++ [ss.getD n 0 ||| m] ++ List.replicate j 4294967295
theorem cutL_length (ss : List Nat) (n m j : Nat) (h : n ≤ ss.length) : (cutL ss n m j).length = n + 1 + j := by
  unfold cutL
  simp
  omega
theorem cutL_succ (ss : List Nat) (n m j : Nat) : cutL ss n m (j + 1) = cutL ss n m j ++ [4294967295] := by
  unfold cutL
  rw [List.replicate_succ', List.append_assoc, List.append_assoc, List.append_assoc]
theorem nums_cut (ss : List Nat) (n m j : Nat) : nums .u32 (cutL ss n m j) ++ [.int .u32 4294967295] = nums .u32 (cutL ss n m (j + 1)) := by
  rw [cutL_succ]
  simp [nums]
theorem cutL_lt (ss : List Nat) (n m j : Nat) (h : ∀ x ∈ ss, x < 4294967296) (hm : m < 4294967296) : ∀ x ∈ cutL ss n m j, x < 4294967296 := by
  intro x hx
  unfold cutL at hx
  rcases List.mem_append.1 hx with hx | hx
  · rcases List.mem_append.1 hx with hx | hx
    · exact h x (List.mem_of_mem_take hx)
    · rw [List.mem_singleton.1 hx]
      exact Nat.or_lt_two_pow (n := 32) (getD32_lt ss h n) hm
  · rw [List.eq_of_mem_replicate hx]; omega
set_option maxRecDepth 20000 in
set_option maxHeartbeats 6400000 in
theorem walk (p : FArg) (ni : Int) (m : Nat) (w : World) (hp : p.Good w) (hn1 : -9223372036854775808 ≤ ni) (hn2 : ni ≤ 9223372036854775807) (hm : m < 4294967296) :
    Calls Try.prog 6 #[p.val, .int .i64 ni, .int .u32 m] w (Yes w) := by
  obtain ⟨i0, hi, hz0, hz1, hz2⟩ := info_parts Tryinfo34
  have HF := hid (cells3 p w)
  have HB := hid (belowNewF p w)
  have hbw : Below w.heap.size w (w.alloc (.cells #[.int .i64 p.k, .int .i64 p.s, .slice p.l p.lLen p.lCap] 24)) := (Below.refl _ _).alloc (Nat.le_refl _) _
  have hp0 := hp.below hbw
  obtain ⟨w0, hw0⟩ : ∃ x, Hid ((w.alloc (.cells #[.int .i64 p.k, .int .i64 p.s, .slice p.l p.lLen p.lCap] 24)) = x) := ⟨_, rfl⟩
  rw [hw0.out] at HF HB hp0
  clear hp hbw
  unfold FArg.val
  by_cases hok : okB p.k p.s p.lLen = true
  · obtain ⟨o1, o2, o3, o4, o5⟩ := okB_true.1 hok
    have hwl := words_len hp0
    have hws := words_small hp0 hok
    have cl := fun W hb => lay_yes_at hp0 hok W hb
    have hcut : ∀ n, n < p.lLen + 3 → (readN (cutL p.words n m (99 - n))).isSome = decide (n = p.lLen + 2 ∧ p.words.getD n 0 ||| m = p.words.getD n 0) := fun n hn => by
      have h := cut_up p.k.toNat p.s.toNat p.lW n m (by
        obtain ⟨k, s, hk, hs⟩ := ok_nat hok
        rw [hk, hs, hp0.rl.1, Int.toNat_natCast, Int.toNat_natCast, ← hk, ← hs]; exact hok) hp0.ml hm (by rw [hp0.rl.1]; exact hn)
      rw [hp0.rl.1] at h
      exact h
    generalize hss : p.words = ss at *
    obtain ⟨N, hN⟩ : ∃ N, N = p.lLen + 3 := ⟨_, rfl⟩
    have hN4 : N ≤ 59 := by omega
    rw [show p.lLen + 2 = N - 1 by omega] at hcut
    simp only [← hN] at hcut
    rw [← hN] at hwl
    simp only [← hN] at cl
    have h3 : 3 ≤ N := by omega
    have HWL := hid hwl
    have HSL := hid hws
    have HCUT := hid hcut
    have HM := hid hm
    clear hwl hws hcut hok hp0 o1 o2 o3 o4 o5 hN hss
    by_cases hneg : ni < 0 ∨ (N : Int) ≤ ni
    · have hcond : ni < 0 ∨ (¬ ni < 0 ∧ ni ≥ N) := by omega
      clear HCUT hneg hm
      rcases hcond with j1 | ⟨j1, j2⟩
      all_goals
        go_enter Try.func6, Try.ntmps6
        go_wp2_with fail
        rw [hw0.out]
        go_wp2_with (first
          | (go_at_call 7; ((with_reducible refine (cl _ (Below.refl _ _)).mono ?_); rintro e w1 ⟨g, cap', rfl, hg, hrow, hb⟩))
          | (go_at_call 15; ((with_reducible refine (awake_any _).mono ?_); rintro e w6 ⟨rfl, hb6⟩)))
        go_ret
        exact ⟨rfl, HB.out _ (hb.trans (hb6.mono hb.size))⟩
    · obtain ⟨n, rfl⟩ := Int.eq_ofNat_of_zero_le (show 0 ≤ ni by omega)
      have hnN : n < N := by omega
      have j1 : ¬ (n : Int) < 0 := by omega
      have j2 : ¬ (n : Int) ≥ N := by omega
      have hys := getD32_lt ss HSL.out n
      have hor := u32_or_nat (ss.getD n 0) m hys HM.out
      have hcut := HCUT.out n hnN
      have hc0 : cutL ss n m 0 = ss.take n ++ [ss.getD n 0 ||| m] := by unfold cutL; simp
      have hnt : (nums .u32 (ss.take n)).length = n := by rw [nums_length, List.length_take, HWL.out]; omega
      have HNT := hid hnt
      have HC0 := hid hc0
      have HCUT2 := hid hcut
      have hLlt := cutL_lt ss n m (99 - n) HSL.out HM.out
      have hLlen := cutL_length ss n m (99 - n) (by rw [HWL.out]; omega)
      have HLT := hid hLlt
      have HLL := hid hLlen
      have hrow0 : ∀ W g c, Row W 40 .u32 g c ss → W.cell? ⟨g, n, none⟩ = some (.int .u32 ((ss.getD n 0 : Nat) : Int)) := fun W g c h => h.get (by rw [HWL.out]; exact hnN)
      have HROW := hid hrow0
      clear HCUT hneg hm hn1 hn2 hcut hc0 hnt hLlt hLlen hrow0
      generalize hlast : ss.getD n 0 = y at *
      generalize hz : y ||| m = z at *
      have HZ := hid hz
      have HY := hid hlast
      clear hz hlast
      go_enter Try.func6, Try.ntmps6
      go_wp2_with fail
      rw [hw0.out]
      go_wp2_with (first
        | (go_at_call 7; ((with_reducible refine (cl _ (Below.refl _ _)).mono ?_); rintro e w1 ⟨g, cap', rfl, hg, hrow, hb⟩; have rs := readsTake hrow.reads n (by rw [HWL.out]; omega); have cy := HROW.out _ _ _ hrow; have hgs := hrow.lt; obtain ⟨hcp, hcpm⟩ : N ≤ cap' ∧ cap' ≤ maxLen := (by obtain ⟨_, _, h1, h2⟩ := hrow; rw [HWL.out] at h1; exact ⟨h1, h2⟩); have q9 : (n : Int) ≤ cap' := (by omega)))
        | (at_builtin; refine wpList_append_from rfl _ _ 22 rfl w1.heap.size 40 i0 (.int .u32 0) 4 Try.underlying22 hi hz0 hz1 hz2 rfl (.slice none 0 0) 0 [] rfl (World.ownsRow_nil _ _ _ _) (some ⟨g, 0, none⟩) n cap' (nums .u32 (ss.take n)) rfl HNT.out (reads_news rs) (nums_one .u32 _) (by unfold maxLen; omega) (by omega) (Nat.le_refl _) ?_; intro v2 w2 ho2 hg2; rw [Nat.zero_add, List.nil_append] at ho2; have hb2 : Below w1.heap.size w1 w2 := (Below.refl _ _).grown hg2 (Nat.le_refl _) (fun k hk => (by cases hk)); have cy2 := (hb2.cell (p := ⟨g, n, none⟩) hgs).trans cy)
        | (at_builtin; refine wpList_append_own _ rfl _ _ 22 rfl w1.heap.size 40 i0 (.int .u32 0) 1 4 Try.underlying22 hi hz0 hz1 hz2 rfl (by decide) v2 n (nums .u32 (ss.take n)) rfl (ho2.alloc _) ⟨w2.heap.size, 0, none⟩ 1 1 [.int .u32 (z : Int)] rfl rfl (one_new _ _ _) (one_cell rfl) (by unfold maxLen; omega) (by omega) (by have := hb2.size; simp; omega) ?_; intro v3 w3 ho3 hg3 _; have hb3 : Below w1.heap.size w1 w3 := (hb2.alloc hb2.size _).grown hg3 (by have := hb2.size; simp; omega) (fun k hk => (ho2.lt k hk).1); obtain ⟨g3, c3, rfl, hf3⟩ := ownsRow_form ho3 (by omega)))
      have ho4 : w3.ownsRow w1.heap.size 40 1 (.slice (some ⟨g3, 0, none⟩) (n + 1) c3) (n + 1) (nums .u32 (cutL ss n m 0)) := by
        rw [HC0.out]
        unfold nums
        rw [List.map_append]
        exact ho3
      have HO4 := hid ho4
      clear ho2 ho3 ho4 hg2 hg3 hf3 rs cy2 hor
      go_loopw [9] (fun t wr => ∃ J j g3 c3, Hid (J = n + 1 + j) ∧ t = .slice (some ⟨g3, 0, none⟩) J c3 ∧ J ≤ 100 ∧ wr.ownsRow w1.heap.size 40 1 (.slice (some ⟨g3, 0, none⟩) J c3) J (nums .u32 (cutL ss n m j)) ∧ Below w1.heap.size w1 wr)
        (fun t _ => 100 - lenOf t)
      case atStart => exact ⟨n + 1, 0, g3, c3, hid rfl, rfl, by omega, HO4.out, hb3⟩
      case round =>
        obtain ⟨J, j, g3, c3, HJ, rfl, hJ, ho, hbr⟩ := hrel
        by_cases hlt : J < 100
        · as_aux_lemma =>
            have i1 : (J : Int) < 100 := by omega
            have HO := hid ho
            clear ho
            go_wp2_with (at_builtin; refine wpList_append_own _ rfl _ _ 22 rfl w1.heap.size 40 i0 (.int .u32 0) 1 4 Try.underlying22 hi hz0 hz1 hz2 rfl (by decide) (.slice (some ⟨g3, 0, none⟩) J c3) J (nums .u32 (cutL ss n m j)) rfl (HO.out.alloc _) ⟨wr.heap.size, 0, none⟩ 1 1 [.int .u32 4294967295] rfl rfl (one_new _ _ _) (one_cell rfl) (by unfold maxLen; omega) (by omega) (by have := hbr.size; simp; omega) ?_; intro v5 w5 ho5 hg5 _; have hb5 : Below w1.heap.size w1 w5 := (hbr.alloc hbr.size _).grown hg5 (by have := hbr.size; simp; omega) (fun k hk => (HO.out.lt k hk).1); obtain ⟨g5, c5, rfl, hf5⟩ := ownsRow_form ho5 (by omega))
            rw [nums_cut] at ho5
            exact ⟨⟨J + 1, j + 1, g5, c5, hid (by have := HJ.out; omega), rfl, by omega, ho5, hb5⟩, by simp only [lenOf]; omega⟩
        · obtain rfl : J = 100 := by omega
          obtain rfl : j = 99 - n := by have := HJ.out; omega
          have i1 : ¬ ((100 : Nat) : Int) < 100 := by omega
          obtain ⟨g6, c6, he6, hg6, hrow6⟩ := Row.own (k := .u32) (xs := cutL ss n m (99 - n)) ho (by omega)
          cases he6
          have rd6 := hrow6.reads
          rw [HLL.out, show n + 1 + (99 - n) = 100 by omega] at rd6
          have hc6 : 100 ≤ c3 ∧ c3 ≤ maxLen := by
            obtain ⟨_, _, h1, h2⟩ := hrow6
            rw [HLL.out] at h1
            exact ⟨by omega, h2⟩
          have cr := (read_as (some ⟨g3, 0, none⟩) 100 c3 (cutL ss n m (99 - n)) wr rd6 HLT.out hc6.1 hc6.2 rfl).mono fun e w' h => says h
          rw [HCUT2.out] at cr
          have hwr : Below w0.heap.size w0 wr := hb.trans (hbr.mono hb.size)
          have hgr : g < wr.heap.size := Nat.lt_of_lt_of_le hgs hbr.size
          have cy3 := (hbr.cell (p := ⟨g, n, none⟩) hgs).trans cy
          have hcase : (n = N - 1 ∧ z = y) ∨ (n = N - 1 ∧ z ≠ y) ∨ n ≠ N - 1 := by omega
          clear ho rd6 hc6 hrow6 hJ HJ hlt hb3
          rcases hcase with ⟨h1, h2⟩ | ⟨h1, h2⟩ | h1
          · as_aux_lemma =>
              rw [decide_eq_true ⟨h1, h2⟩] at cr
              have q1 : ((n : Int) == (N : Int) - 1) = true := by rw [beq_iff_eq]; omega
              have q2 : ((z : Int) == y) = true := by rw [beq_iff_eq]; omega
              clear h1 h2
              go_wp2_with (first
                | (go_at_call 12; ((with_reducible refine cr.mono ?_); clear cr; rintro e w4 ⟨rk, rs, rn, ra, rl, rc, rfl, hb4⟩; have cy4 := (hb4.cell (p := ⟨g, n, none⟩) hgr).trans cy3; have hgw := Nat.lt_of_lt_of_le hgr hb4.size))
                | (go_at_call 15; ((with_reducible refine (awake_any _).mono ?_); rintro e w6 ⟨rfl, hb6⟩)))
              go_ret
              have hbx := (hwr.trans (hb4.mono hwr.size)).alloc (by have := hwr.size; have := hb4.size; omega) (.cells #[.int .i64 rk, .int .i64 rs, .slice ra rl rc] 28)
              exact ⟨rfl, HB.out _ (hbx.trans (hb6.mono hbx.size))⟩
          · as_aux_lemma =>
              rw [decide_eq_false (fun h => h2 h.2)] at cr
              have q1 : ((n : Int) == (N : Int) - 1) = true := by rw [beq_iff_eq]; omega
              have q2 : ((z : Int) == y) = false := by rw [beq_eq_false_iff_ne]; omega
              clear h1 h2
              go_wp2_with (first
                | (go_at_call 12; ((with_reducible refine cr.mono ?_); clear cr; rintro e w4 ⟨rk, rs, rn, ra, rl, rc, rfl, hb4⟩; have cy4 := (hb4.cell (p := ⟨g, n, none⟩) hgr).trans cy3; have hgw := Nat.lt_of_lt_of_le hgr hb4.size))
                | (go_at_call 15; ((with_reducible refine (awake_any _).mono ?_); rintro e w6 ⟨rfl, hb6⟩)))
              go_ret
              have hbx := (hwr.trans (hb4.mono hwr.size)).alloc (by have := hwr.size; have := hb4.size; omega) (.cells #[.int .i64 rk, .int .i64 rs, .slice ra rl rc] 28)
              exact ⟨rfl, HB.out _ (hbx.trans (hb6.mono hbx.size))⟩
          · as_aux_lemma =>
              rw [decide_eq_false (fun h => h1 h.1)] at cr
              have q1 : ((n : Int) == (N : Int) - 1) = false := by rw [beq_eq_false_iff_ne]; omega
              clear h1
              go_wp2_with (first
                | (go_at_call 12; ((with_reducible refine cr.mono ?_); clear cr; rintro e w4 ⟨rk, rs, rn, ra, rl, rc, rfl, hb4⟩; have cy4 := (hb4.cell (p := ⟨g, n, none⟩) hgr).trans cy3; have hgw := Nat.lt_of_lt_of_le hgr hb4.size))
                | (go_at_call 15; ((with_reducible refine (awake_any _).mono ?_); rintro e w6 ⟨rfl, hb6⟩)))
              go_ret
              have hbx := (hwr.trans (hb4.mono hwr.size)).alloc (by have := hwr.size; have := hb4.size; omega) (.cells #[.int .i64 rk, .int .i64 rs, .slice ra rl rc] 28)
              exact ⟨rfl, HB.out _ (hbx.trans (hb6.mono hbx.size))⟩
  · rw [Bool.not_eq_true] at hok
    have cl := lay_no_at hok
    have cr := right_at p
    rw [hok] at cr
    clear hok hp0
    go_enter Try.func6, Try.ntmps6
    go_wp2_with fail
    rw [hw0.out]
    go_wp2_with (first
      | (go_at_call 7; ((with_reducible refine (cl _).mono ?_); rintro e w1 ⟨rfl, hb1⟩; obtain ⟨f0, f1, f2⟩ := HF.out w1 hb1))
      | (go_at_call 8; ((with_reducible refine (cr _).mono ?_); rintro e w2 ⟨rfl, hb2⟩))
      | (go_at_call 15; ((with_reducible refine (awake_any _).mono ?_); rintro e w3 ⟨rfl, hb3⟩)))
    go_ret
    exact ⟨rfl, HB.out _ (hb1.trans ((hb2.trans (hb3.mono hb2.size)).mono hb1.size))⟩
end Go.Proofs.Ytfgbiafoncaagaa.frameCut
/- FrameCut: the first words of a frame, fewer than all, the last one of them torn, with ones behind, are read as a frame only if they are all and none was torn. No condition. -/
namespace Go.Proofs.Ytfgbiafoncaagaa.frameCut
open Go.ChangeShapes Go.WideShapes Go.ChangeAt Go.RowKit Go.Proofs.Ytfgbiafoncaagaa.frame
open Go.ChangeMaps (open_string shut_string)
set_option linter.unusedVariables false
set_option maxRecDepth 100000 in
theorem lifted (os : Os) (started : os.Started) (H : Type) (enc : TypeId × Value → H) :
    ReturnsInHanded {} Try.checked os 6 .any (Rows.frameCutSpec.pre6 enc Try.prog Try.f6 Rows.frameCutRow.domain false) (Rows.frameCutSpec.post enc Try.prog Try.f6 false true false false) := by
  refine returnsInHanded_of_change_sized (C := Try.checked) own started (by kernel_rfl) Try.func6
    (ChangeSpec.witness6 (enc := enc) (C := Try.checked) false ⟨#[], #[.agg #[.int .i64 0, .int .i64 0, .slice none 0 0], .int .i64 0, .int .u32 0], []⟩ 8 (by kernel_rfl) (by kernel_rfl) (by kernel_rfl) (by kernel_rfl)) ?_
  intro W base args ds gs before hval0 hW hcnd hsz0 _
  have hsz : (DataW.weightsEach Try.prog (Try.f6.params.toList ++ Rows.frameCutSpec.plain.varTypes Try.prog) (ds ++ gs)).all (· ≤ reachBytes) = true := hsz0
  clear hsz0
  have hval : ∀ (j : Nat) t v, Try.f6.params[j]? = some t → args[j]? = some v → Value.okWide Try.prog W .any base t v := hval0
  have hW' := hW
  obtain ⟨p, q, hA0, hV, rfl, hfz, hnd⟩ := hW
  have hA : DataW.TrodAll enc Try.prog W 0 (fun _ => true) true Try.f6.params.toList args.toList ds p := hA0
  rw [Try.params6] at hA hval hsz
  obtain ⟨v0, vs0, d0, ds0, p0, q0, hargs, rfl, rfl, h0, r0⟩ := trodAll_cons hA
  obtain ⟨v1, vs1, d1, ds1, p1, q1, rfl, rfl, rfl, h1, r1⟩ := trodAll_cons r0
  obtain ⟨v2, vs2, d2, ds2, p2, q2, rfl, rfl, rfl, h2, r2⟩ := trodAll_cons r1
  obtain ⟨rfl, rfl, rfl⟩ := trodAll_nil r2
  obtain rfl : args = #[v0, v1, v2] := by cases args; simp_all
  obtain ⟨rfl, rfl⟩ := trodVars_none hV
  have k0 := h0
  have lt0 : ∀ x ∈ p0, x.block < W.heap.size := by obtain ⟨m, hm⟩ := k0; exact DataW.trod_lt m _ _ _ hm
  obtain ⟨pc0, fp0, rfl⟩ := open_FArg_arg Try.underlying24 (by kernel_rfl) (by kernel_rfl) (by kernel_rfl) (by kernel_rfl) Try.underlying22 Try.underlying40 (by kernel_rfl) (hval 0 24 v0 rfl rfl) h0
  obtain ⟨n1, rfl, rfl, rfl, w1⟩ := open_int Try.underlying3 (hval 1 3 v1 rfl rfl) h1
  have y1 := wf_i64 _ w1
  obtain ⟨z2, rfl, rfl, rfl, w2⟩ := open_int Try.underlying40 (hval 2 40 v2 rfl rfl) h2
  have y2 := wf_u32 _ w2
  obtain ⟨n2, rfl⟩ := Int.eq_ofNat_of_zero_le y2.1
  clear hA0 hval0
  refine (walk pc0 n1 n2 W fp0 y1.1 y1.2 (by omega)).mono fun e W' ⟨he, bel⟩ => ?_
  subst he
  exact ⟨_, rfl, _, _, _, [], _, [], hW', trodAll_mk1 (shut_bool Try.underlying4 _), (trodAll_cons_mk (Below.trod laidOut (by kernel_rfl) (of_decide_eq_true (by kernel_rfl)) k0 bel lt0) (trodAll_cons_mk (shut_int Try.underlying3 w1) (trodAll_cons_mk (shut_int Try.underlying40 w2) trodAll_mk0))), rfl, bel.frame _, fun h => by cases h⟩

theorem holds : Rows.FrameCutSaid :=
  OpenClaim.holds_of_wide 6 Try.f6 rfl rfl rfl rfl rfl rfl rfl ⟨rfl, rfl, rfl, rfl, rfl⟩ rfl rfl rfl rfl rfl (by kernel_rfl) Try.func6 (by kernel_rfl)
    (of_decide_eq_true (by kernel_rfl)) (by unfold Func.isWrapper; first | (rw [if_pos (by decide +kernel)]; kernel_rfl) | (rw [if_neg (by decide +kernel)]; exact ⟨rfl, rfl⟩))
    (fun os started H enc _ => lifted os started H enc)
#print axioms holds
end Go.Proofs.Ytfgbiafoncaagaa.frameCut
