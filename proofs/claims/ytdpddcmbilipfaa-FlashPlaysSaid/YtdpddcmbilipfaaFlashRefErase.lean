/- Contract of the reference's Erase of layer 7, for every argument. No condition. -/
import Derived.Test.YtdpddcmbilipfaaFlashRefProgram
namespace Go.Proofs.Ytdpddcmbilipfaa.flash
open Go.RowKit Go.Proofs.Ytdpddcmbilipfaa.word
set_option linter.unusedVariables false

set_option maxHeartbeats 16000000 in
theorem refErase_any {S : Nat → Prop} {g : Nat} {F : Fl} {cm : Value} {gW cW gV cV : Nat} {w : World} (h : RAt S g F cm gW cW gV cV w) (ok : F.Ok) (hcount : F.count < 4611686018427387904) (s : Int) :
    Calls Try.prog 34 #[.pointer (some ⟨g, 0, none⟩), .int .i64 s] w (RDid S g (F.erase s).2 (.int .i64 (F.erase s).1) w) := by
  obtain ⟨c0, c1, c2, _, c4, _, _⟩ := h.cell
  have H := hid h
  by_cases hd : F.dark = true
  · have e2 : F.erase s = (10, F) := by rw [Fl.erase, if_pos hd]
    rw [e2]
    rw [hd] at c4
    clear h ok e2 c0 c1 c2 hd
    go_enter Try.func34, Try.ntmps34
    go_wp2
    go_ret
    exact Quiet.rdid H.out ⟨rfl, 0, rfl⟩
  have hd' : F.dark = false := by simpa using hd
  rw [hd'] at c4
  have hs2 := ok.s2
  by_cases h0 : s < 0
  · have e2 : F.erase s = (3, F) := by rw [Fl.erase, if_neg hd, if_pos (.inl h0)]
    rw [e2]
    clear h ok e2 hd hd'
    go_enter Try.func34, Try.ntmps34
    go_wp2
    go_ret
    exact Quiet.rdid H.out ⟨rfl, 0, rfl⟩
  by_cases h1 : (F.worn.length : Int) ≤ s
  · have e2 : F.erase s = (3, F) := by rw [Fl.erase, if_neg hd, if_pos (.inr h1)]
    rw [e2]
    clear h ok e2 hd hd'
    go_enter Try.func34, Try.ntmps34
    go_wp2
    go_ret
    exact Quiet.rdid H.out ⟨rfl, 0, rfl⟩
  obtain ⟨k, rfl⟩ := Int.eq_ofNat_of_zero_le (show 0 ≤ s by omega)
  have hk : k < F.worn.length := by omega
  have i1 : (k : Int) < F.worn.length := by omega
  have hwv := h.wn.get hk
  have hu : F.worn.getD k 0 ≤ F.count := by
    have := getD_lt (B := F.count + 1) (fun x hx => by have := ok.c x hx; omega) (by omega) (l := F.worn) k
    omega
  have hsec := ok.sector hk
  have hA1 : RAt S g { F with worn := F.worn1 k } cm gW cW gV cV (w.setCell ⟨gV, k, none⟩ (.int .i64 ((F.worn.getD k 0 : Nat) + 1))) := h.wear hk (F.worn.getD k 0 + 1)
  have HO : Hid (Only (at3 g gW gV) w (w.setCell ⟨gV, k, none⟩ (.int .i64 ((F.worn.getD k 0 : Nat) + 1)))) := hid ((Only.refl _ w).setCell (.inl (.inr (.inr rfl))) _ _)
  have ok1 : Hid (Fl.Ok { F with worn := F.worn1 k, count := F.count + 1 }) := hid ⟨ok.l1, ok.l2, by rw [Fl.worn1_length]; exact ok.s1, by rw [Fl.worn1_length]; exact ok.s2, by rw [Fl.worn1_length]; exact ok.n, ok.w, Fl.worn1_le ok k, ok.m⟩
  have f2 : w.frozen? ⟨gV, k, none⟩ = false := h.wn.frozen k
  have HOK := hid ok
  have hl1 := ok.l1
  have hl2 := ok.l2
  have hwl := ok.ws_le
  have ec : F.erase k = (match tears F.fuse with
      | some M => (10, F.tore (run (tornWord M) (k * F.long) F.long F.ws) (F.worn1 k))
      | none => (0, F.wrote (run blank (k * F.long) F.long F.ws) (F.worn1 k))) := by
    rw [Fl.erase, if_neg hd, if_neg (by omega)]
    cases tears F.fuse <;> rfl
  rw [ec]
  have hpl : (k : Int) * (F.long : Int) = ((k * F.long : Nat) : Int) := by simp
  generalize hP : k * F.long = p at *
  have HS := hid hsec
  cases ht : tears F.fuse with
  | none =>
    have hte : Calls Try.prog 43 #[.pointer (some ⟨g, 0, none⟩)] (w.setCell ⟨gV, k, none⟩ (.int .i64 ((F.worn.getD k 0 : Nat) + 1))) (RTurned S g { F with worn := F.worn1 k, count := F.count + 1, fuse := burnt F.fuse } cm gW cW gV cV (.bool false) (w.setCell ⟨gV, k, none⟩ (.int .i64 ((F.worn.getD k 0 : Nat) + 1)))) :=
      torn_no hA1 (fun n M h => (ok.m n M h).1) hd' hcount ht
    clear h ok hd hd' ec h0 hA1 ok1
    generalize F.worn.getD k 0 = u at *
    go_enter Try.func34, Try.ntmps34
    go_wp2_with (go_at_call 43; (with_reducible refine hte.mono ?_); clear hte; rintro e w4 ⟨rfl, hA, hO⟩)
    have HA4 : Hid (RAt S g (F.wrote (run blank p 0 F.ws) (F.worn1 k)) cm gW cW gV cV w4) := hid hA
    have HO4 := hid (HO.out.trans hO)
    clear hA hO HO c0 c1 c2 c4 hwv f2 hcount hu i1
    go_loopw [6] (fun i wr => ∃ j : Nat, j ≤ F.long ∧ i = .int .i64 (j : Int) ∧ Hid (RAt S g (F.wrote (run blank p j F.ws) (F.worn1 k)) cm gW cW gV cV wr) ∧ Hid (Only (at3 g gW gV) w wr)) (fun i _ => F.long - (intOf i).toNat)
    case atStart => exact ⟨0, Nat.zero_le _, rfl, HA4, HO4⟩
    case round =>
      obtain ⟨j, hj, rfl, hA, hO⟩ := hrel
      have d1 : wr.cell? ⟨g, 1, none⟩ = some (.int .i64 (F.long : Int)) := hA.out.cell.2.1
      by_cases hlt : j < F.long
      · have hpj : p + j < (F.wrote (run blank p j F.ws) (F.worn1 k)).ws.length := by
          show p + j < (run blank p j F.ws).length
          rw [run_length]; have := HS.out; omega
        have d0 : wr.cell? ⟨g, 0, none⟩ = some (.slice (some ⟨gW, 0, none⟩) F.ws.length cW) := by
          have := hA.out.cell.1
          rwa [show (F.wrote (run blank p j F.ws) (F.worn1 k)).ws.length = F.ws.length from run_length _ _ _ _] at this
        have hcell := hA.out.ws.get hpj
        generalize (F.wrote (run blank p j F.ws) (F.worn1 k)).ws.getD (p + j) 0 = z at hcell
        have hfz := hA.out.ws.frozen (p + j)
        have i1 : (j : Int) < F.long := by omega
        have i2 : (p : Int) + j < F.ws.length := by have := HS.out; omega
        go_wp2
        exact ⟨⟨j + 1, by omega, by go_num, hid (hA.out.word hpj 4294967295), hid (hO.out.setCell (.inl (.inr (.inl rfl))) _ _)⟩, by simp [intOf]; omega⟩
      · obtain rfl : j = F.long := by omega
        go_wp2
        go_ret
        exact RTurned.did H.out ⟨rfl, hA.out, hO.out⟩
  | some M =>
    obtain ⟨hfu, hM⟩ := F.tears_m HOK.out ht
    have hMl := (HOK.out.m _ _ hfu).2.1
    have hte := torn_yes hA1 hcount M hfu
    have HM := hid hM
    clear h ok hd hd' ec h0 hA1 ok1 hfu hM ht
    generalize F.worn.getD k 0 = u at *
    go_enter Try.func34, Try.ntmps34
    go_wp2_with (go_at_call 43; (with_reducible refine hte.mono ?_); clear hte; rintro e w4 ⟨⟨rfl, hA, hO⟩, hMA⟩)
    have HA4 : Hid (RAt S g (F.tore (run (tornWord M) p 0 F.ws) (F.worn1 k)) cm gW cW gV cV w4) := hid hA
    have HO4 := hid (HO.out.trans hO)
    have HMA := hid hMA
    clear hA hO HO hMA c0 c1 c2 c4 hwv f2 hcount hu i1
    go_loopw [6] (fun i wr => ∃ j : Nat, j ≤ F.long ∧ i = .int .i64 (j : Int) ∧ Hid (RAt S g (F.tore (run (tornWord M) p j F.ws) (F.worn1 k)) cm gW cW gV cV wr) ∧ Hid (MasksAt S (at3 g gW gV) M.length M cm wr) ∧ Hid (Only (at3 g gW gV) w wr)) (fun i _ => F.long - (intOf i).toNat)
    case atStart => exact ⟨0, Nat.zero_le _, rfl, HA4, HMA, HO4⟩
    case round =>
      obtain ⟨j, hj, rfl, hA, hMA, hO⟩ := hrel
      have d1 : wr.cell? ⟨g, 1, none⟩ = some (.int .i64 (F.long : Int)) := hA.out.cell.2.1
      by_cases hlt : j < F.long
      · have hpj : p + j < (run (tornWord M) p j F.ws).length := by
          rw [run_length]; have := HS.out; omega
        have d0 : wr.cell? ⟨g, 0, none⟩ = some (.slice (some ⟨gW, 0, none⟩) F.ws.length cW) := by
          have := hA.out.cell.1
          rwa [show (F.tore (run (tornWord M) p j F.ws) (F.worn1 k)).ws.length = F.ws.length from run_length _ _ _ _] at this
        have hcell : wr.cell? ⟨gW, p + j, none⟩ = some (.int .u32 (((run (tornWord M) p j F.ws).getD (p + j) 0 : Nat) : Int)) := hA.out.ws.get hpj
        have hz : (run (tornWord M) p j F.ws).getD (p + j) 0 = F.ws.getD (p + j) 0 := by
          rw [run_getD _ _ _ _ _ (by have := HS.out; omega), if_neg (by omega)]
        rw [hz] at hcell
        have hzl : F.ws.getD (p + j) 0 < 4294967296 := getD_lt HOK.out.w (by decide) _
        have hml := maskAt_lt M j HM.out
        have hra := fun w' => refRaised_any (F.ws.getD (p + j) 0) (maskAt M j) hzl hml w'
        have HX : Hid (run (tornWord M) p (j + 1) F.ws = (run (tornWord M) p j F.ws).set (p + j) (F.ws.getD (p + j) 0 ||| maskAt M j)) := hid rfl
        have hma : ∀ n, Calls Try.prog 44 #[.pointer (some ⟨g, 0, none⟩), .int .i64 (j : Int)] (wr.drewN n) (Quiet (.int .u32 (maskAt M j : Nat)) (wr.drewN n)) :=
          fun n => refMask_any (hMA.out.only ((Only.refl (fun _ => False) wr).drewN n) (fun _ h _ => h.elim)) hA.out.cell.2.2.2.2.2.2 j (by omega) hMl
        clear hz
        generalize (F.ws.getD (p + j) 0 ||| maskAt M j) = y at *
        generalize maskAt M j = y2 at *
        generalize F.ws.getD (p + j) 0 = z at *
        have hfz := hA.out.ws.frozen (p + j)
        have i1 : (j : Int) < F.long := by omega
        have i2 : (p : Int) + j < F.ws.length := by have := HS.out; omega
        go_wp2
        refine tail.region 16 (by kernel_rfl) (by kernel_rfl) ?_
        simp only [List.take_succ_cons, List.take_zero, List.drop_succ_cons, List.drop_zero]
        repeat (go_big_quiet_step (first
          | (go_at_call 44; (with_reducible exact quietAt (hma _)))
          | (go_at_call 21; (with_reducible exact quietAt (hra _)))))
        refine wpQuiet_nil ?_
        rintro _ ⟨nq, rfl⟩
        go_wp2
        refine ⟨⟨j + 1, by omega, by go_num, ?_, ?_, hid ((hO.out.drewN nq).setCell (.inl (.inr (.inl rfl))) _ _)⟩, by simp [intOf]; omega⟩
        · rw [HX.out]
          exact hid ((hA.out.drewN nq).word hpj y)
        · exact hid (hMA.out.only (((Only.refl (fun x => x = gW) wr).drewN nq).setCell (.inl rfl) _ _) (by rintro x rfl _; exact .inr (.inl rfl)))
      · obtain rfl : j = F.long := by omega
        go_wp2
        go_ret
        exact RTurned.did H.out ⟨rfl, hA.out, hO.out⟩
end Go.Proofs.Ytdpddcmbilipfaa.flash
