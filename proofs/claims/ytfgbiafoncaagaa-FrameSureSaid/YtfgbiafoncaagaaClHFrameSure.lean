/- FrameSure: with bits that went up in a frame's words, whatever stands behind, no frame is read, unless none did. No condition. -/
import Derived.Test.YtfgbiafoncaagaaCmC
import Derived.Conc.WalkWords
import Derived.Test.YtfgbiafoncaagaaCmA
/- FrameSure: with bits that went up in a frame's words, whatever stands behind, no frame is read, unless none did. No condition. -/
namespace Go.Proofs.Ytfgbiafoncaagaa.frameSure
open Go.RowKit Go.Proofs.Ytfgbiafoncaagaa.word Go.Proofs.Ytfgbiafoncaagaa.zeros Go.Proofs.Ytfgbiafoncaagaa.frame Go.Proofs.Ytfgbiafoncaagaa.flash
set_option linter.unusedVariables false

set_option maxRecDepth 20000 in
set_option maxHeartbeats 6400000 in
theorem walk (p : FArg) (a1 : Option Addr) (len1 cap1 : Nat) (us : List Nat) (a2 : Option Addr) (len2 cap2 : Nat) (ms : List Nat) (w : World) (hp : p.Good w)
    (hr1 : Reads .u32 w a1 len1 us) (hx1 : ∀ x ∈ us, x < 4294967296) (hlc1 : len1 ≤ cap1) (hcap1 : cap1 * 4 ≤ 140737488351232)
    (hr2 : Reads .u32 w a2 len2 ms) (hx2 : ∀ x ∈ ms, x < 4294967296) (hlc2 : len2 ≤ cap2) (hcap2 : cap2 * 4 ≤ 140737488351232) :
    Calls Try.prog 5 #[p.val, .slice a1 len1 cap1, .slice a2 len2 cap2] w (Yes w) := by
  obtain ⟨i0, hi, hz0, hz1, hz2⟩ := info_parts Tryinfo34
  have HF := hid (cells3 p w)
  have HB := hid (belowNewF p w)
  have hbw : Below w.heap.size w (w.alloc (.cells #[.int .i64 p.k, .int .i64 p.s, .slice p.l p.lLen p.lCap] 24)) := (Below.refl _ _).alloc (Nat.le_refl _) _
  have hp0 := hp.below hbw
  have hr01 := hr1.below hbw
  have hr02 := hr2.below hbw
  obtain ⟨w0, hw0⟩ : ∃ x, Hid ((w.alloc (.cells #[.int .i64 p.k, .int .i64 p.s, .slice p.l p.lLen p.lCap] 24)) = x) := ⟨_, rfl⟩
  rw [hw0.out] at HF HB hp0 hr01 hr02
  clear hp hr1 hr2 hbw
  unfold FArg.val
  by_cases hok : okB p.k p.s p.lLen = true
  · obtain ⟨o1, o2, o3, o4, o5⟩ := okB_true.1 hok
    have hwl := words_len hp0
    have hws := words_small hp0 hok
    have cl := fun W hb => lay_yes_at hp0 hok W hb
    have hup : ∀ T, readN (orL p.words us ++ T) = if orL p.words us = p.words then some (p.k.toNat, p.s.toNat, p.lW) else none := fun T => readN_up _ _ _ us T (by
      obtain ⟨k, s, hk, hs⟩ := ok_nat hok
      rw [hk, hs, hp0.rl.1, Int.toNat_natCast, Int.toNat_natCast, ← hk, ← hs]; exact hok) hp0.ml hx1
    generalize hss : p.words = ss at *
    obtain ⟨N, hN⟩ : ∃ N, N = p.lLen + 3 := ⟨_, rfl⟩
    have hNi : (N : Int) = (p.lLen : Int) + 3 := by omega
    have HNI := hid hNi
    have HNN := hid hN
    have hN4 : N ≤ 59 := by omega
    rw [← hN] at hwl
    simp only [← hN] at cl
    have HWL := hid hwl
    have HSL := hid hws
    have HUP := hid hup
    have HP0 := hid hp0
    have HOK := hid hok
    have HX1 := hid hx1
    have HX2 := hid hx2
    have H5 := hid o5
    have HN4 := hid hN4
    have A2 : Hid (N + len2 ≤ maxLen ∧ (N + len2) * 4 ≤ 140737488355328) := hid (by unfold maxLen; omega)
    have A1 : Hid (0 + N ≤ maxLen ∧ (0 + N) * 4 ≤ 140737488355328) := hid (by unfold maxLen; omega)
    have HL1 : Hid (us.length = len1) := hid hr01.1
    have HL2 : Hid (ms.length = len2) := hid hr02.1
    have HN1 : Hid ((nums .u32 ss).length = N) := hid (by rw [nums_length, hwl])
    have HN2 : Hid ((nums .u32 ms).length = len2) := hid (by rw [nums_length, HL2.out])
    have hlt : w.heap.size < w0.heap.size := by rw [← hw0.out]; simp
    have HALL : Hid (∀ x ∈ orL ss us ++ ms, x < 4294967296) := hid (fun x hx => (List.mem_append.1 hx).elim (orL_lt _ _ hws hx1 x) (hx2 x))
    have h3 : 3 ≤ N := by omega
    clear hwl hws hup hok hp0 hx1 hx2 o1 o2 o3 o4 o5 hlc1 hcap1 hlc2 hcap2 hN hNi hN4 hss
    go_enter Try.func5, Try.ntmps5
    go_wp2_with fail
    rw [hw0.out]
    go_wp2_with (first
      | (go_at_call 7; ((with_reducible refine (cl _ (Below.refl _ _)).mono ?_); rintro e w1 ⟨g, cap', rfl, hg, hrow, hb⟩; have rs := hrow.reads; rw [HWL.out] at rs))
      | (at_builtin; refine wpList_append_from rfl _ _ 22 rfl w1.heap.size 40 i0 (.int .u32 0) 4 Try.underlying22 hi hz0 hz1 hz2 rfl (.slice none 0 0) 0 [] rfl (World.ownsRow_nil _ _ _ _) (some ⟨g, 0, none⟩) N cap' (nums .u32 ss) rfl HN1.out (reads_news rs) (nums_one .u32 ss) A1.out.1 A1.out.2 (Nat.le_refl _) ?_; intro v2 w2 ho2 hg2; rw [Nat.zero_add, List.nil_append] at ho2; have hb2 : Below w1.heap.size w1 w2 := (Below.refl _ _).grown hg2 (Nat.le_refl _) (fun k hk => (by cases hk)); obtain ⟨g2, k2, rfl, hg2a, hg2s, hk2, hk2m⟩ := ownsRow_form ho2 (by omega)))
    have hu1 := hr01.below hb
    have z1 := hb.size
    have hgs : g < w1.heap.size := hrow.lt
    have HO2 := hid ho2
    clear ho2 hg2 hrow cl
    have hne : g ≠ g2 := by omega
    have hbk : ∀ b, b < w1.heap.size → b ≠ g2 := fun b hb => by omega
    have HBK := hid hbk
    clear hbk
    go_loopw [10, 11] (fun same i wr => ∃ k : Nat, k ≤ N ∧ k ≤ len1 ∧ i = .int .i64 k ∧ same = .bool (decide (orL ss (us.take k) = ss)) ∧
        wr.ownsRow w1.heap.size 40 1 (.slice (some ⟨g2, 0, none⟩) N k2) N ((orL ss (us.take k)).map fun x : Nat => Value.int .u32 (x : Int)) ∧ Below w1.heap.size w1 wr)
      (fun _ i _ => N - (intOf i).toNat)
    case atStart =>
      refine ⟨0, Nat.zero_le _, Nat.zero_le _, rfl, ?_, ?_, hb2⟩
      · rw [List.take_zero, orL_nil]; simp
      · rw [List.take_zero, orL_nil]; exact HO2.out
    case round =>
      obtain ⟨k, hk, hk1', rfl, rfl, ho, hbr⟩ := hrel
      have hd0 : 0 ≤ (k : Int) := by omega
      have hN4 := HN4.out
      by_cases hlts : k < N ∧ k < len1
      · as_aux_lemma =>
          obtain ⟨hltn, hlt1⟩ := hlts
          obtain ⟨b, off, rfl, hbs, hc⟩ := hr01.at hlt1
          have hcu : wr.cell? ⟨b, off + k, none⟩ = some (.int .u32 ((us.getD k 0 : Nat) : Int)) := (hbr.cell (p := ⟨b, off + k, none⟩) (Nat.lt_of_lt_of_le hbs z1)).trans ((hb.cell (p := ⟨b, off + k, none⟩) hbs).trans (hc k hlt1))
          have hcs : wr.cell? ⟨g, k, none⟩ = some (.int .u32 ((ss.getD k 0 : Nat) : Int)) := by
            obtain ⟨b', off', he, _, hc'⟩ := rs.at hltn
            cases he
            exact (hbr.cell (p := ⟨g, k, none⟩) hgs).trans (by have h := hc' k hltn; rwa [Nat.zero_add] at h)
          have hct : wr.cell? ⟨g2, k, none⟩ = some (.int .u32 ((ss.getD k 0 : Nat) : Int)) := by
            rw [ho.cellAt _ (by omega), List.getElem?_map, ← orL_take_getD ss us k (by rw [HWL.out]; exact hltn), List.getD_eq_getElem?_getD, List.getElem?_eq_getElem (by rw [orL_length, HWL.out]; omega)]
            rfl
          have f2 := ho.frozenAt k
          have hys := getD32_lt us HX1.out k
          have hxs := getD32_lt ss HSL.out k
          have hor := u32_or_nat (ss.getD k 0) (us.getD k 0) hxs hys
          have HT := hid (orL_take_succ ss us k (by rw [HWL.out]; omega) (by rw [HL1.out]; omega))
          have HE := hid (set_eq_iff (orL ss (us.take k)) ss k (ss.getD k 0 ||| us.getD k 0) (by rw [HWL.out]; omega) (orL_length _ _) (orL_take_getD ss us k (by rw [HWL.out]; omega)))
          have HO := hid ho
          have i1 : (k : Int) < N := by omega
          have i2 : (k : Int) < len1 := by omega
          have hbg : b ≠ g2 := HBK.out b (by omega)
          clear ho hc
          generalize ss.getD k 0 = x1 at *
          generalize us.getD k 0 = y1 at *
          generalize x1 ||| y1 = y2 at *
          generalize hsm2 : decide (orL ss (us.take k) = ss) = sm at *
          have HSM := hid hsm2
          clear hsm2
          go_wp2
          refine tail.region 12 (by kernel_rfl) (by kernel_rfl) ?_
          simp only [List.take_succ_cons, List.take_zero, List.drop_succ_cons, List.drop_zero]
          repeat (go_big_quiet_step (fail))
          refine wpQuiet_nil ?_
          rintro _ ⟨nq, rfl⟩
          go_wp2
          have hst := (HO.out.drewN nq).stored k (.int .u32 (y2 : Int))
          have hb3 : Below w1.heap.size w1 ((wr.drewN nq).setCell ⟨g2, k, none⟩ (.int .u32 (y2 : Int))) := (below_drewN hbr nq).setCell (by simpa using hg2a) _
          have hs1 : ((wr.drewN nq).setCell ⟨g2, k, none⟩ (.int .u32 (y2 : Int))).ownsRow w1.heap.size 40 1 (.slice (some ⟨g2, 0, none⟩) N k2) N ((orL ss (us.take (k + 1))).map fun x : Nat => Value.int .u32 (x : Int)) := by
            rw [HT.out, List.map_set]; exact hst.1
          clear hst
          generalize (wr.drewN nq).setCell ⟨g2, k, none⟩ (.int .u32 (y2 : Int)) = w3 at *
          have hcs3 : w3.cell? ⟨g, k, none⟩ = some (.int .u32 (x1 : Int)) := by
            rw [← hcs, hb3.cell (p := ⟨g, k, none⟩) hgs, hbr.cell (p := ⟨g, k, none⟩) hgs]
          have hct3 : w3.cell? ⟨g2, k, none⟩ = some (.int .u32 (y2 : Int)) := by
            rw [hs1.cellAt _ (by omega), HT.out, List.map_set, List.getElem?_set_self (by rw [List.length_map, orL_length, HWL.out]; exact hltn)]
          have HR : ∀ b' : Bool, ((orL ss (us.take k) = ss ∧ y2 = x1) ↔ b' = true) → Value.bool b' = Value.bool (decide (orL ss (us.take (k + 1)) = ss)) := fun b' h => by
            rw [HT.out]; congr 1; rw [Bool.eq_iff_iff, decide_eq_true_eq, HE.out]; exact h.symm
          have HRR := hid HR
          have HS1 := hid hs1
          clear HR hs1 hcs hct hcu f2 hor
          cases sm with
          | false =>
            have hno := HSM.out
            rw [decide_eq_false_iff_not] at hno
            have HNO := hid hno
            clear hno
            go_quiet (fail)
            go_wp2
            exact ⟨⟨k + 1, by omega, by omega, by go_num, HRR.out _ ⟨fun h => absurd h.1 HNO.out, fun h => by cases h⟩, HS1.out.drewN _, below_drewN hb3 _⟩, by simp [intOf]; omega⟩
          | true =>
            have hyes := HSM.out
            rw [decide_eq_true_eq] at hyes
            have HYES := hid hyes
            clear hyes
            by_cases hyx : y2 = x1
            · have HYX := hid hyx
              have hq : ((y2 : Int) == x1) = true := by rw [beq_iff_eq]; omega
              clear hyx
              go_quiet (fail)
              go_wp2
              exact ⟨⟨k + 1, by omega, by omega, by go_num, HRR.out _ ⟨fun _ => rfl, fun _ => ⟨HYES.out, HYX.out⟩⟩, HS1.out.drewN _, below_drewN hb3 _⟩, by simp [intOf]; omega⟩
            · have HYX := hid hyx
              have hq : ((y2 : Int) == x1) = false := by rw [beq_eq_false_iff_ne]; omega
              clear hyx
              go_quiet (fail)
              go_wp2
              exact ⟨⟨k + 1, by omega, by omega, by go_num, HRR.out _ ⟨fun h => absurd h.2 HYX.out, fun h => by cases h⟩, HS1.out.drewN _, below_drewN hb3 _⟩, by simp [intOf]; omega⟩
      · have hto : orL ss (us.take k) = orL ss us := by
          by_cases hltn : k < N
          · rw [List.take_of_length_le (by rw [HL1.out]; omega)]
          · exact orL_take_all _ _ _ (by rw [HWL.out]; omega)
        rw [hto] at ho ⊢
        have hm2 := (hr02.below hb).below hbr
        have hbr0 : Below w0.heap.size w0 wr := hb.trans (hbr.mono z1)
        have hup := HUP.out ms
        have HON := hid (show wr.ownsRow w1.heap.size 40 1 (.slice (some ⟨g2, 0, none⟩) N k2) N (nums .u32 (orL ss us)) from ho)
        have HNO1 : Hid ((nums .u32 (orL ss us)).length = N) := hid (by rw [nums_length, orL_length, HWL.out])
        have hcond : ((k : Int) < N ∧ ¬ (k : Int) < len1) ∨ ¬ (k : Int) < N := by omega
        have cread : ∀ r, Hid (readN (orL ss us ++ ms) = r) → ∀ w3 v3, Below w1.heap.size w1 w3 → w3.ownsRow w1.heap.size 40 1 v3 (N + len2) (nums .u32 (orL ss us) ++ nums .u32 ms) → ∃ g3 c3, v3 = .slice (some ⟨g3, 0, none⟩) (N + len2) c3 ∧
            Calls Try.prog 12 #[.slice (some ⟨g3, 0, none⟩) (N + len2) c3] w3 (ReadsAs r w3) := fun r hr w3 v3 hb3 ho3 => by
          have ho4 : w3.ownsRow w1.heap.size 40 1 v3 (N + len2) ((orL ss us ++ ms).map fun x : Nat => Value.int .u32 (x : Int)) := by
            rw [List.map_append]; exact ho3
          obtain ⟨g3, c3, rfl, hg3a, hrow3⟩ := Row.own ho4 (by omega)
          have rd3 := hrow3.reads
          rw [List.length_append, orL_length, HWL.out, HL2.out] at rd3
          obtain ⟨_, _, h1, h2⟩ := hrow3
          rw [List.length_append, orL_length, HWL.out, HL2.out] at h1
          exact ⟨g3, c3, rfl, read_as (some ⟨g3, 0, none⟩) (N + len2) c3 (orL ss us ++ ms) w3 rd3 HALL.out h1 h2 hr.out⟩
        by_cases hE : orL ss us = ss
        · as_aux_lemma =>
            rw [if_pos hE] at hup
            rw [decide_eq_true hE]
            have CREAD := hid (fun w3 v3 h1 h2 => cread _ (hid hup) w3 v3 h1 h2)
            clear cread hup hE ho hto hu1 rs
            rcases hcond with ⟨i1, i2⟩ | i1
            all_goals
              go_wp2_with (first
                | (at_builtin; refine wpList_append_from rfl _ _ 22 rfl w1.heap.size 40 i0 (.int .u32 0) 4 Try.underlying22 hi hz0 hz1 hz2 rfl (.slice (some ⟨g2, 0, none⟩) N k2) N (nums .u32 (orL ss us)) rfl HON.out a2 len2 cap2 (nums .u32 ms) rfl HN2.out (reads_news hm2) (nums_one .u32 ms) A2.out.1 A2.out.2 hbr.size ?_; intro v3 w3 ho3 hg3; have hb3 : Below w1.heap.size w1 w3 := hbr.grown hg3 hbr.size (fun k hk => (HON.out.lt k hk).1); obtain ⟨g3, c3, rfl, cr⟩ := CREAD.out w3 v3 hb3 ho3; have hb03 : Below w0.heap.size w0 w3 := hb.trans (hb3.mono z1); clear ho3 hg3 hb3 hm2)
                | (go_at_call 12; ((with_reducible refine cr.mono ?_); clear cr; intro e w4 hR4; obtain ⟨g4, c4, rfl, hg4, hrow4, hb4⟩ := readsP HP0.out HOK.out hR4; clear hR4; have hb04 := hb03.trans (hb4.mono hb03.size); obtain ⟨f0, f1, f2⟩ := HF.out w4 hb04; have hlt4 : w.heap.size < w4.heap.size := Nat.lt_of_lt_of_le hlt hb04.size; have hbn : Below w4.heap.size w4 (w4.alloc (.cells #[.int .i64 p.k, .int .i64 p.s, .slice (some ⟨g4, 0, none⟩) p.lLen c4] 28)) := (Below.refl _ _).alloc (Nat.le_refl _) _; have cs := sameF_at g4 c4 (hrow4.later hbn) (HP0.out.rl.below (hb04.trans (hbn.mono hb04.size))) H5.out))
                | (go_at_call 14; ((with_reducible refine cs.mono ?_); clear cs; rintro e w5 ⟨rfl, hb5⟩))
                | (go_at_call 15; ((with_reducible refine (awake_any _).mono ?_); rintro e w6 ⟨rfl, hb6⟩)))
              go_ret
              have hb05 := hb04.trans ((hbn.trans (hb5.mono hbn.size)).mono hb04.size)
              exact ⟨rfl, HB.out _ (hb05.trans (hb6.mono hb05.size))⟩
        · as_aux_lemma =>
            rw [if_neg hE] at hup
            rw [decide_eq_false hE]
            have CREAD := hid (fun w3 v3 h1 h2 => cread _ (hid hup) w3 v3 h1 h2)
            clear cread hup hE ho hto hu1 rs
            rcases hcond with ⟨i1, i2⟩ | i1
            all_goals
              go_wp2_with (first
                | (at_builtin; refine wpList_append_from rfl _ _ 22 rfl w1.heap.size 40 i0 (.int .u32 0) 4 Try.underlying22 hi hz0 hz1 hz2 rfl (.slice (some ⟨g2, 0, none⟩) N k2) N (nums .u32 (orL ss us)) rfl HON.out a2 len2 cap2 (nums .u32 ms) rfl HN2.out (reads_news hm2) (nums_one .u32 ms) A2.out.1 A2.out.2 hbr.size ?_; intro v3 w3 ho3 hg3; have hb3 : Below w1.heap.size w1 w3 := hbr.grown hg3 hbr.size (fun k hk => (HON.out.lt k hk).1); obtain ⟨g3, c3, rfl, cr⟩ := CREAD.out w3 v3 hb3 ho3; have hb03 : Below w0.heap.size w0 w3 := hb.trans (hb3.mono z1); clear ho3 hg3 hb3 hm2)
                | (go_at_call 12; ((with_reducible refine cr.mono ?_); clear cr; rintro e w4 ⟨rfl, hb4⟩; have hb04 := hb03.trans (hb4.mono hb03.size)))
                | (go_at_call 15; ((with_reducible refine (awake_any _).mono ?_); rintro e w6 ⟨rfl, hb6⟩)))
              go_ret
              have hbn : Below w4.heap.size w4 (w4.alloc (.cells #[.int .i64 0, .int .i64 0, .slice none 0 0] 28)) := (Below.refl _ _).alloc (Nat.le_refl _) _
              have hb05 := hb04.trans (hbn.mono hb04.size)
              exact ⟨rfl, HB.out _ (hb05.trans (hb6.mono hb05.size))⟩
  · rw [Bool.not_eq_true] at hok
    have cl := lay_no_at hok
    have cr := right_at p
    rw [hok] at cr
    clear hok hp0 hr01 hr02 hx1 hx2
    go_enter Try.func5, Try.ntmps5
    go_wp2_with fail
    rw [hw0.out]
    go_wp2_with (first
      | (go_at_call 7; ((with_reducible refine (cl _).mono ?_); rintro e w1 ⟨rfl, hb1⟩; obtain ⟨f0, f1, f2⟩ := HF.out w1 hb1))
      | (go_at_call 8; ((with_reducible refine (cr _).mono ?_); rintro e w2 ⟨rfl, hb2⟩))
      | (go_at_call 15; ((with_reducible refine (awake_any _).mono ?_); rintro e w3 ⟨rfl, hb3⟩)))
    go_ret
    exact ⟨rfl, HB.out _ (hb1.trans ((hb2.trans (hb3.mono hb2.size)).mono hb1.size))⟩
end Go.Proofs.Ytfgbiafoncaagaa.frameSure
/- FrameSure: with bits that went up in a frame's words, whatever stands behind, no frame is read, unless none did. No condition. -/
namespace Go.Proofs.Ytfgbiafoncaagaa.frameSure
open Go.ChangeShapes Go.WideShapes Go.ChangeAt Go.RowKit Go.Proofs.Ytfgbiafoncaagaa.frame
open Go.ChangeMaps (open_string shut_string)
set_option linter.unusedVariables false
set_option maxRecDepth 100000 in
theorem lifted (os : Os) (started : os.Started) (H : Type) (enc : TypeId × Value → H) :
    ReturnsInHanded {} Try.checked os 5 .any (Rows.frameSureSpec.pre6 enc Try.prog Try.f5 Rows.frameSureRow.domain false) (Rows.frameSureSpec.post enc Try.prog Try.f5 false true false false) := by
  refine returnsInHanded_of_change_sized (C := Try.checked) own started (by kernel_rfl) Try.func5
    (ChangeSpec.witness6 (enc := enc) (C := Try.checked) false ⟨#[], #[.agg #[.int .i64 0, .int .i64 0, .slice none 0 0], .slice none 0 0, .slice none 0 0], []⟩ 8 (by kernel_rfl) (by kernel_rfl) (by kernel_rfl) (by kernel_rfl)) ?_
  intro W base args ds gs before hval0 hW hcnd hsz0 _
  have hsz : (DataW.weightsEach Try.prog (Try.f5.params.toList ++ Rows.frameSureSpec.plain.varTypes Try.prog) (ds ++ gs)).all (· ≤ reachBytes) = true := hsz0
  clear hsz0
  have hval : ∀ (j : Nat) t v, Try.f5.params[j]? = some t → args[j]? = some v → Value.okWide Try.prog W .any base t v := hval0
  have hW' := hW
  obtain ⟨p, q, hA0, hV, rfl, hfz, hnd⟩ := hW
  have hA : DataW.TrodAll enc Try.prog W 0 (fun _ => true) true Try.f5.params.toList args.toList ds p := hA0
  rw [Try.params5] at hA hval hsz
  obtain ⟨v0, vs0, d0, ds0, p0, q0, hargs, rfl, rfl, h0, r0⟩ := trodAll_cons hA
  obtain ⟨v1, vs1, d1, ds1, p1, q1, rfl, rfl, rfl, h1, r1⟩ := trodAll_cons r0
  obtain ⟨v2, vs2, d2, ds2, p2, q2, rfl, rfl, rfl, h2, r2⟩ := trodAll_cons r1
  obtain ⟨rfl, rfl, rfl⟩ := trodAll_nil r2
  obtain rfl : args = #[v0, v1, v2] := by cases args; simp_all
  obtain ⟨rfl, rfl⟩ := trodVars_none hV
  have k0 := h0
  have lt0 : ∀ x ∈ p0, x.block < W.heap.size := by obtain ⟨m, hm⟩ := k0; exact DataW.trod_lt m _ _ _ hm
  obtain ⟨pc0, fp0, rfl⟩ := open_FArg_arg Try.underlying24 (by kernel_rfl) (by kernel_rfl) (by kernel_rfl) (by kernel_rfl) Try.underlying22 Try.underlying40 (by kernel_rfl) (hval 0 24 v0 rfl rfl) h0
  obtain ⟨a1, len1, cap1, rfl⟩ := okWide_slice Try.underlying22 (hval 1 22 v1 rfl rfl)
  have k1 := h1
  have lt1 : ∀ x ∈ p1, x.block < W.heap.size := by obtain ⟨m, hm⟩ := k1; exact DataW.trod_lt m _ _ _ hm
  obtain ⟨xs1, rd1, xb1, lc1, rs1⟩ := open_uints (j := 1) Try.underlying22 Try.underlying40 (by kernel_rfl) (by kernel_rfl : Try.prog.bytesOf 40 = 4) wf_u32 h1 hsz rfl rfl
  obtain ⟨a2, len2, cap2, rfl⟩ := okWide_slice Try.underlying22 (hval 2 22 v2 rfl rfl)
  have k2 := h2
  have lt2 : ∀ x ∈ p2, x.block < W.heap.size := by obtain ⟨m, hm⟩ := k2; exact DataW.trod_lt m _ _ _ hm
  obtain ⟨xs2, rd2, xb2, lc2, rs2⟩ := open_uints (j := 2) Try.underlying22 Try.underlying40 (by kernel_rfl) (by kernel_rfl : Try.prog.bytesOf 40 = 4) wf_u32 h2 hsz rfl rfl
  clear hA0 hval0
  refine (walk pc0 a1 len1 cap1 xs1 a2 len2 cap2 xs2 W fp0 rd1 xb1 lc1 rs1 rd2 xb2 lc2 rs2).mono fun e W' ⟨he, bel⟩ => ?_
  subst he
  exact ⟨_, rfl, _, _, _, [], _, [], hW', trodAll_mk1 (shut_bool Try.underlying4 _), (trodAll_cons_mk (Below.trod laidOut (by kernel_rfl) (of_decide_eq_true (by kernel_rfl)) k0 bel lt0) (trodAll_cons_mk (Below.trod laidOut (by kernel_rfl) (of_decide_eq_true (by kernel_rfl)) k1 bel lt1) (trodAll_cons_mk (Below.trod laidOut (by kernel_rfl) (of_decide_eq_true (by kernel_rfl)) k2 bel lt2) trodAll_mk0))), rfl, bel.frame _, fun h => by cases h⟩

theorem holds : Rows.FrameSureSaid :=
  OpenClaim.holds_of_wide 5 Try.f5 rfl rfl rfl rfl rfl rfl rfl ⟨rfl, rfl, rfl, rfl, rfl⟩ rfl rfl rfl rfl rfl (by kernel_rfl) Try.func5 (by kernel_rfl)
    (of_decide_eq_true (by kernel_rfl)) (by unfold Func.isWrapper; first | (rw [if_pos (by decide +kernel)]; kernel_rfl) | (rw [if_neg (by decide +kernel)]; exact ⟨rfl, rfl⟩))
    (fun os started H enc _ => lifted os started H enc)
#print axioms holds
end Go.Proofs.Ytfgbiafoncaagaa.frameSure
