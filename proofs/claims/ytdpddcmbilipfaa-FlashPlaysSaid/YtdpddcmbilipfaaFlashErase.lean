/- Contract of Erase of layer 7 (flash), for every argument. No condition. -/
import Derived.Test.YtdpddcmbilipfaaFlashProgram
namespace Go.Proofs.Ytdpddcmbilipfaa.flash
open Go.RowKit Go.Proofs.Ytdpddcmbilipfaa.word
set_option linter.unusedVariables false

theorem erase_nil (a : Int) (w : World) : Calls Try.prog 11 #[.pointer none, .int .i64 a] w (Quiet (.int .i64 1) w) := by
  go_enter Try.func11, Try.ntmps11
  go_wp2_with (go_at_call 29; (with_reducible refine (ready_nil _).mono ?_); rintro e w' ⟨rfl, m, rfl⟩)
  go_ret
  exact ⟨rfl, _, rfl⟩
set_option maxHeartbeats 16000000 in
theorem erase_any {S : Nat → Prop} {b : Nat} {F : Fl} {ca cb cm : Value} {bw cw bv cv : Nat} {w : World} (h : At S b F ca cb cm bw cw bv cv w) (ok : F.Ok) (hcount : F.count < 4611686018427387904) (s : Int) :
    Calls Try.prog 11 #[.pointer (some ⟨b, 0, none⟩), .int .i64 s] w (Turned S b (F.erase s).2 bw cw bv cv (.int .i64 (F.erase s).1) w) := by
  obtain ⟨_, _, _, c3, c4, c5, c6, c7⟩ := h.cell
  have hr := ready_any b F.dark w c7
  by_cases hd : F.dark = true
  · have e2 : F.erase s = (10, F) := by rw [Fl.erase, if_pos hd]
    rw [e2]
    rw [if_pos hd] at hr
    have H := hid h
    clear h ok e2 c3 c4 c5 c6 c7 hd
    go_enter Try.func11, Try.ntmps11
    go_wp2_with (go_at_call 29; (with_reducible refine hr.mono ?_); rintro e w' ⟨rfl, m, rfl⟩)
    go_ret
    exact ⟨rfl, _, _, _, H.out.drewN _, (Only.refl _ _).drewN _⟩
  rw [if_neg hd] at hr
  have hs2 := ok.s2
  by_cases h0 : s < 0
  · have e2 : F.erase s = (3, F) := by rw [Fl.erase, if_neg hd, if_pos (.inl h0)]
    rw [e2]
    have H := hid h
    clear h ok e2 c7 hd
    go_enter Try.func11, Try.ntmps11
    go_wp2_with (go_at_call 29; (with_reducible refine hr.mono ?_); rintro e w' ⟨rfl, m, rfl⟩)
    go_ret
    exact ⟨rfl, _, _, _, H.out.drewN _, (Only.refl _ _).drewN _⟩
  by_cases h1 : (F.worn.length : Int) ≤ s
  · have e2 : F.erase s = (3, F) := by rw [Fl.erase, if_neg hd, if_pos (.inr h1)]
    rw [e2]
    have H := hid h
    clear h ok e2 c7 hd
    go_enter Try.func11, Try.ntmps11
    go_wp2_with (go_at_call 29; (with_reducible refine hr.mono ?_); rintro e w' ⟨rfl, m, rfl⟩)
    go_ret
    exact ⟨rfl, _, _, _, H.out.drewN _, (Only.refl _ _).drewN _⟩
  obtain ⟨k, rfl⟩ := Int.eq_ofNat_of_zero_le (show 0 ≤ s by omega)
  have hk : k < F.worn.length := by omega
  have HK := hid hk
  have i1 : (k : Int) < F.worn.length := by omega
  have f6 := h.blk.frozen 6
  have hwv := h.wn.get hk
  have hu : F.worn.getD k 0 ≤ F.count := by
    have := getD_lt (B := F.count + 1) (fun x hx => by have := ok.c x hx; omega) (by omega) (l := F.worn) k
    omega
  have hsec := ok.sector hk
  have HW : Hid (∀ m, At S b { F with worn := F.worn1 k, count := F.count + 1 } ca cb cm bw cw bv cv (((w.drewN m).setCell ⟨b, 6, none⟩ (.int .i64 ((F.count : Int) + 1))).setCell ⟨bv, k, none⟩ (.int .i64 ((F.worn.getD k 0 : Nat) + 1)))) :=
    hid fun m => ((h.drewN m).counted (F.count + 1)).wear hk (F.worn.getD k 0 + 1)
  have HO : Hid (∀ m, Only (at3 b bw bv) w (((w.drewN m).setCell ⟨b, 6, none⟩ (.int .i64 ((F.count : Int) + 1))).setCell ⟨bv, k, none⟩ (.int .i64 ((F.worn.getD k 0 : Nat) + 1)))) :=
    hid fun m => (((Only.refl _ w).drewN _).setCell (.inl (.inl rfl)) _ _).setCell (.inl (.inr (.inr rfl))) _ _
  have ok1 : Hid (Fl.Ok { F with worn := F.worn1 k, count := F.count + 1 }) := hid ⟨ok.l1, ok.l2, by rw [Fl.worn1_length]; exact ok.s1, by rw [Fl.worn1_length]; exact ok.s2, by rw [Fl.worn1_length]; exact ok.n, ok.w, Fl.worn1_le ok k, ok.m⟩
  have n2 : ¬ (bv = b) := fun e => h.n2 e.symm
  have f2 : w.frozen? ⟨bv, k, none⟩ = false := h.wn.frozen k
  have HOK := hid ok
  have hl1 := ok.l1
  have hl2 := ok.l2
  have hwl := ok.ws_le
  have ec : F.erase k = (match tears F.fuse with
      | some M => (10, F.tore (run (tornWord M) (k * F.long) F.long F.ws) (F.worn1 k))
      | none => (0, F.wrote (run blank (k * F.long) F.long F.ws) (F.worn1 k))) := by
    rw [Fl.erase, if_neg hd, if_neg (by omega)]
    cases tears F.fuse <;> rfl
  rw [ec]
  have hpl : (k : Int) * (F.long : Int) = ((k * F.long : Nat) : Int) := by simp
  have hql : ((k : Int) + 1) * (F.long : Int) = ((k * F.long + F.long : Nat) : Int) := by rw [Int.add_mul]; simp
  have hcw : F.ws.length ≤ cw := by obtain ⟨pad, _, h, _⟩ := h.ws; exact h
  generalize hP : k * F.long = p at *
  generalize hQ : p + F.long = q at *
  have hpq : p < q := by omega
  have e3 : q - p = F.long := by omega
  clear h ok c7 hd ec h0
  generalize F.worn.getD k 0 = u at *
  have HH := hid hQ
  clear hQ
  cases ht : tears F.fuse with
  | none =>
    go_enter Try.func11, Try.ntmps11
    go_wp2_with (go_at_call 29; (with_reducible refine hr.mono ?_); clear hr; rintro e w' ⟨rfl, m, rfl⟩)
    have hA := HW.out m
    have hO := HO.out m
    obtain ⟨w4, hw4⟩ : ∃ x, Hid (((w.drewN m).setCell ⟨b, 6, none⟩ (.int .i64 ((F.count : Int) + 1))).setCell ⟨bv, k, none⟩ (.int .i64 ((u : Int) + 1)) = x) := ⟨_, rfl⟩
    rw [hw4.out] at hA hO ⊢
    have d3 : w4.cell? ⟨b, 3, none⟩ = some (.slice (some ⟨bw, 0, none⟩) F.ws.length cw) := hA.cell.2.2.2.1
    have d4 : w4.cell? ⟨b, 4, none⟩ = some (.int .i64 (F.long : Int)) := hA.cell.2.2.2.2.1
    have hte : ∀ n, Calls Try.prog 30 #[.pointer (some ⟨b, 0, none⟩)] (w4.drewN n) (Turned S b { F with worn := F.worn1 k, count := F.count + 1, fuse := burnt F.fuse } bw cw bv cv (.bool false) (w4.drewN n)) := fun n => tears_no (hA.drewN n) ok1.out ht
    have HA := hid hA
    have HO4 := hid hO
    have hq1 : (p : Int) ≤ q := by omega
    have hq2 : (q : Int) ≤ cw := by omega
    have hq3 : ¬ (cw = p) := by omega
    clear hA hO ht HW HO ok1 c3 c4 c5 c6 hwv f6 f2 hcount hu hw4 i1
    go_quiet (fail)
    go_wp2_with (go_at_call 30; (with_reducible refine (hte _).mono ?_); rintro e w5 ⟨rfl, ca', cb', cm', hA, hO⟩)
    have HA5 : Hid (At S b (F.wrote (run blank p 0 F.ws) (F.worn1 k)) ca' cb' cm' bw cw bv cv w5) := hid hA
    have HO5 := hid ((HO4.out.drewN nq).trans hO)
    clear hA hO hte HA HO4 d3 d4
    go_loopw [86] (fun i wr => ∃ j : Nat, j ≤ F.long ∧ i = .int .i64 (j : Int) ∧ Hid (At S b (F.wrote (run blank p j F.ws) (F.worn1 k)) ca' cb' cm' bw cw bv cv wr) ∧ Hid (Only (at3 b bw bv) w wr)) (fun i _ => F.long - (intOf i).toNat)
    case atStart => exact ⟨0, Nat.zero_le _, rfl, HA5, HO5⟩
    case round =>
      obtain ⟨j, hj, rfl, hA, hO⟩ := hrel
      by_cases hlt : j < F.long
      · have hpj : p + j < (F.wrote (run blank p j F.ws) (F.worn1 k)).ws.length := by
          show p + j < (run blank p j F.ws).length
          rw [run_length]; have := HH.out; omega
        have hcell := hA.out.ws.get hpj
        generalize (F.wrote (run blank p j F.ws) (F.worn1 k)).ws.getD (p + j) 0 = z at hcell
        have hfz := hA.out.ws.frozen (p + j)
        have i1 : (j : Int) < F.long := by omega
        go_wp2
        exact ⟨⟨j + 1, by omega, by go_num, hid (hA.out.word hpj 4294967295), hid (hO.out.setCell (.inl (.inr (.inl rfl))) _ _)⟩, by simp [intOf]; omega⟩
      · obtain rfl : j = F.long := by omega
        go_wp2
        go_ret
        exact ⟨rfl, ca', cb', cm', hA.out, hO.out⟩
  | some M =>
    obtain ⟨hfu, hM⟩ := F.tears_m HOK.out ht
    go_enter Try.func11, Try.ntmps11
    go_wp2_with (go_at_call 29; (with_reducible refine hr.mono ?_); clear hr; rintro e w' ⟨rfl, m, rfl⟩)
    have hA := HW.out m
    have hO := HO.out m
    obtain ⟨w4, hw4⟩ : ∃ x, Hid (((w.drewN m).setCell ⟨b, 6, none⟩ (.int .i64 ((F.count : Int) + 1))).setCell ⟨bv, k, none⟩ (.int .i64 ((u : Int) + 1)) = x) := ⟨_, rfl⟩
    rw [hw4.out] at hA hO ⊢
    have d3 : w4.cell? ⟨b, 3, none⟩ = some (.slice (some ⟨bw, 0, none⟩) F.ws.length cw) := hA.cell.2.2.2.1
    have d4 : w4.cell? ⟨b, 4, none⟩ = some (.int .i64 (F.long : Int)) := hA.cell.2.2.2.2.1
    have hte : ∀ n, Calls Try.prog 30 #[.pointer (some ⟨b, 0, none⟩)] (w4.drewN n) (Quiet (.bool true) (w4.drewN n)) := fun n => tears_yes (hA.drewN n) M hfu
    have HA := hid hA
    have HO4 := hid hO
    have HM := hid hM
    have HFU := hid hfu
    have hq1 : (p : Int) ≤ q := by omega
    have hq2 : (q : Int) ≤ cw := by omega
    have hq3 : ¬ (cw = p) := by omega
    clear hA hO ht HW HO ok1 c3 c4 c5 c6 hwv f6 f2 hcount hu hw4 i1 hM hfu
    go_quiet (fail)
    go_wp2_with (go_at_call 30; (with_reducible refine (hte _).mono ?_); rintro e w5 ⟨rfl, n2, rfl⟩)
    have HA5 : Hid (At S b { F with worn := F.worn1 k, count := F.count + 1, ws := run (tornWord M) p 0 F.ws } ca cb cm bw cw bv cv (w4.drewN (nq + n2))) := hid (HA.out.drewN _)
    have HO5 := hid (HO4.out.drewN (nq + n2))
    clear hte HA HO4 d3 d4
    go_loopw [66] (fun i wr => ∃ j : Nat, j ≤ F.long ∧ i = .int .i64 (j : Int) ∧ Hid (At S b { F with worn := F.worn1 k, count := F.count + 1, ws := run (tornWord M) p j F.ws } ca cb cm bw cw bv cv wr) ∧ Hid (Only (at3 b bw bv) w wr)) (fun i _ => F.long - (intOf i).toNat)
    case atStart => exact ⟨0, Nat.zero_le _, rfl, HA5, HO5⟩
    case round =>
      obtain ⟨j, hj, rfl, hA, hO⟩ := hrel
      by_cases hlt : j < F.long
      · have hpj : p + j < (run (tornWord M) p j F.ws).length := by
          rw [run_length]; have := HH.out; omega
        have hcell := hA.out.ws.get hpj
        have hz : (run (tornWord M) p j F.ws).getD (p + j) 0 = F.ws.getD (p + j) 0 := by
          rw [run_getD _ _ _ _ _ (by have := HH.out; omega), if_neg (by omega)]
        rw [hz] at hcell
        have hzl : F.ws.getD (p + j) 0 < 4294967296 := getD_lt HOK.out.w (by decide) _
        have hml := maskAt_lt M j HM.out
        have hra := fun w' => raised_any (F.ws.getD (p + j) 0) (maskAt M j) hzl hml w'
        have hx : run (tornWord M) p (j + 1) F.ws = (run (tornWord M) p j F.ws).set (p + j) (F.ws.getD (p + j) 0 ||| maskAt M j) := rfl
        have HX := hid hx
        have d2 : wr.cell? ⟨b, 2, none⟩ = some cm := hA.out.cell.2.2.1
        have fu := hA.out.fuse
        rw [show Fl.fuse { F with worn := F.worn1 k, count := F.count + 1, ws := run (tornWord M) p j F.ws } = some (0, M) from HFU.out] at fu
        have hma := mask_any (b := b) (i := j) fu.2.2 d2 hlt hl2 HM.out
        clear hx hz fu
        generalize (F.ws.getD (p + j) 0 ||| maskAt M j) = y at *
        generalize maskAt M j = y2 at *
        generalize F.ws.getD (p + j) 0 = z at *
        have hfz := hA.out.ws.frozen (p + j)
        have i1 : (j : Int) < F.long := by omega
        go_wp2_with (first
          | (go_at_call 32; (with_reducible refine hma.mono ?_); rintro e w' ⟨rfl, n3, rfl⟩)
          | (go_at_call 31; (with_reducible refine (hra _).mono ?_); rintro e w' ⟨rfl, n4, rfl⟩))
        refine ⟨⟨j + 1, by omega, by go_num, ?_, hid ((hO.out.drewN _).setCell (.inl (.inr (.inl rfl))) _ _)⟩, by simp [intOf]; omega⟩
        rw [HX.out]
        exact hid ((hA.out.drewN _).word hpj y)
      · obtain rfl : j = F.long := by omega
        have hfa := fail_any hA.out
        go_wp2_with (go_at_call 33; (with_reducible refine hfa.mono ?_); rintro e w' ⟨rfl, ca', cb', cm', hA', hO'⟩)
        go_ret
        exact ⟨rfl, ca', cb', cm', hA', hO.out.trans hO'⟩
end Go.Proofs.Ytdpddcmbilipfaa.flash
