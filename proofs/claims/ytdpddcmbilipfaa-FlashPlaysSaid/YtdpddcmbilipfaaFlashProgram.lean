/- Contract of Program of layer 7 (flash), for every argument. No condition. -/
import Derived.Test.YtdpddcmbilipfaaFlashWrite
import Derived.Test.YtdpddcmbilipfaaTail
namespace Go.Proofs.Ytdpddcmbilipfaa.flash
open Go.RowKit Go.Proofs.Ytdpddcmbilipfaa.word
set_option linter.unusedVariables false

theorem program_nil (a : Int) (x : Nat) (w : World) : Calls Try.prog 25 #[.pointer none, .int .i64 a, .int .u32 x] w (Quiet (.int .i64 1) w) := by
  go_enter Try.func25, Try.ntmps25
  go_wp2_with (go_at_call 22; (with_reducible refine (read_nil _ _).mono ?_); rintro e w' ⟨rfl, m, rfl⟩)
  go_ret
  exact ⟨rfl, _, rfl⟩
theorem At.drewN {S : Nat → Prop} {b : Nat} {F : Fl} {ca cb cm : Value} {bw cw bv cv : Nat} {w : World} (h : At S b F ca cb cm bw cw bv cv w) (n : Nat) : At S b F ca cb cm bw cw bv cv (w.drewN n) := h.later (below_drewN (Below.refl _ _) n)
/-- Program, where Read answers an error -/
theorem program_err {S : Nat → Prop} {b : Nat} {F : Fl} {ca cb cm : Value} {bw cw bv cv : Nat} {w : World} (h : At S b F ca cb cm bw cw bv cv w) (a : Int) (x : Nat) (z : Int) (hz : z = 3 ∨ z = 10)
    (hr : Calls Try.prog 22 #[.pointer (some ⟨b, 0, none⟩), .int .i64 a] w (Quiet (.tuple #[.int .u32 0, .int .i64 z]) w)) :
    Calls Try.prog 25 #[.pointer (some ⟨b, 0, none⟩), .int .i64 a, .int .u32 x] w (Turned S b F bw cw bv cv (.int .i64 z) w) := by
  have H := hid h
  clear h
  rcases hz with rfl | rfl
  all_goals
    go_enter Try.func25, Try.ntmps25
    go_wp2_with (go_at_call 22; (with_reducible refine hr.mono ?_); rintro e w' ⟨rfl, m, rfl⟩)
    go_ret
    exact ⟨rfl, _, _, _, H.out.drewN _, (Only.refl _ _).drewN _⟩
theorem program_any {S : Nat → Prop} {b : Nat} {F : Fl} {ca cb cm : Value} {bw cw bv cv : Nat} {w : World} (h : At S b F ca cb cm bw cw bv cv w) (ok : F.Ok) (hcount : F.count < 4611686018427387904) (a : Int) (x : Nat) (hx : x < 4294967296) :
    Calls Try.prog 25 #[.pointer (some ⟨b, 0, none⟩), .int .i64 a, .int .u32 x] w (Turned S b (F.program a x).2 bw cw bv cv (.int .i64 (F.program a x).1) w) := by
  have hr := read_any h ok a
  by_cases hd : F.dark = true
  · have e1 : F.read a = (0, 10) := by rw [Fl.read, if_pos hd]
    have e2 : F.program a x = (10, F) := by rw [Fl.program, if_pos hd]
    rw [e1] at hr
    rw [e2]
    exact program_err h a x 10 (.inr rfl) hr
  by_cases h0 : a < 0 ∨ (F.ws.length : Int) ≤ a
  · have e1 : F.read a = (0, 3) := by rw [Fl.read, if_neg hd, if_pos h0]
    have e2 : F.program a x = (3, F) := by rw [Fl.program, if_neg hd, if_pos h0]
    rw [e1] at hr
    rw [e2]
    exact program_err h a x 3 (.inl rfl) hr
  obtain ⟨k, rfl⟩ := Int.eq_ofNat_of_zero_le (show 0 ≤ a by omega)
  have hk : k < F.ws.length := by omega
  have e1 : F.read k = (F.ws.getD k 0, 0) := by rw [Fl.read, if_neg hd, if_neg h0, Int.toNat_natCast]
  rw [e1] at hr
  have hu : F.ws.getD k 0 < 4294967296 := getD_lt ok.w (by decide) k
  have hwi := fun w' => within_any x (F.ws.getD k 0) hx hu w'
  have HK : Hid ((k : Int) < F.ws.length) := hid (by omega)
  by_cases hcl : clr x (F.ws.getD k 0) ≠ 0
  · have e2 : F.program k x = (11, F) := by rw [Fl.program, if_neg hd, if_neg h0, Int.toNat_natCast, if_pos hcl]
    rw [e2]
    have hq : (clr x (F.ws.getD k 0) == 0) = false := by simpa using hcl
    rw [hq] at hwi
    have H := hid h
    clear h ok e1 e2 hcl h0 hd hq
    generalize F.ws.getD k 0 = u at *
    go_enter Try.func25, Try.ntmps25
    go_wp2_with (first
      | (go_at_call 22; (with_reducible refine hr.mono ?_); rintro e w' ⟨rfl, m, rfl⟩)
      | (go_at_call 40; (with_reducible refine (hwi _).mono ?_); rintro e w' ⟨rfl, m2, rfl⟩))
    go_ret
    exact ⟨rfl, _, _, _, (H.out.drewN _), (Only.refl _ _).drewN _⟩
  have hcl' : clr x (F.ws.getD k 0) = 0 := by simpa using hcl
  rw [hcl'] at hwi
  have hq : ((0 : Nat) == 0) = true := rfl
  rw [hq] at hwi
  obtain ⟨_, _, _, _, _, _, c6, _⟩ := h.cell
  have f6 := h.blk.frozen 6
  have hcnt : ∀ m, At S b { F with count := F.count + 1 } ca cb cm bw cw bv cv ((w.drewN m).setCell ⟨b, 6, none⟩ (.int .i64 ((F.count : Int) + 1))) := fun m => (h.drewN m).counted (F.count + 1)
  have hO6 : ∀ m, Only (at3 b bw bv) w ((w.drewN m).setCell ⟨b, 6, none⟩ (.int .i64 ((F.count : Int) + 1))) := fun m => ((Only.refl _ w).drewN _).setCell (.inl (.inl rfl)) _ _
  have HC := hid hcnt
  have HO6 := hid hO6
  have ok1 : Fl.Ok { F with count := F.count + 1 } := ⟨ok.l1, ok.l2, ok.s1, ok.s2, ok.n, ok.w, fun x hx => by have := ok.c x hx; show x ≤ F.count + 1; omega, ok.m⟩
  have HK1 := hid ok1
  have HOK := hid ok
  have H := hid h
  cases ht : tears F.fuse with
  | some M =>
    have e2 : F.program k x = (10, F.tore (F.ws.set k (clr (F.ws.getD k 0) (clr (maskAt M 0) x))) F.worn) := by rw [Fl.program, if_neg hd, if_neg h0, Int.toNat_natCast, if_neg hcl, ht]
    rw [e2]
    obtain ⟨hfu, hM⟩ := F.tears_m ok ht
    have HT : Hid ({ F with count := F.count + 1 }.fuse = some (0, M)) := hfu
    have HM := hid hM
    have hml := maskAt_lt M 0 hM
    have hto := fun w' => torn_any (F.ws.getD k 0) x (maskAt M 0) hu hx hml w'
    have HL := hid ok.l1
    have HL2 := hid ok.l2
    have hn := ok.ws_le
    have hte : ∀ m, Calls Try.prog 30 #[.pointer (some ⟨b, 0, none⟩)] ((w.drewN m).setCell ⟨b, 6, none⟩ (.int .i64 ((F.count : Int) + 1))) (Quiet (.bool true) ((w.drewN m).setCell ⟨b, 6, none⟩ (.int .i64 ((F.count : Int) + 1)))) := fun m => tears_yes (hcnt m) M hfu
    have hma : ∀ w', MasksAt S (at3 b bw bv) F.long M cm w' → w'.cell? ⟨b, 2, none⟩ = some cm → Calls Try.prog 32 #[.pointer (some ⟨b, 0, none⟩), .int .i64 0] w' (Quiet (.int .u32 (maskAt M 0 : Nat)) w') := fun w' hm hc => mask_any hm hc 0 ok.l1 ok.l2 hM
    clear h ok e1 e2 hcl hcl' h0 hd hq hfu hM ht hcnt hO6 ok1
    generalize hv : clr (F.ws.getD k 0) (clr (maskAt M 0) x) = v at *
    have HV := hid hv
    clear hv
    generalize hu' : F.ws.getD k 0 = u at *
    have HU := hid hu'
    clear hu'
    generalize hm' : maskAt M 0 = m0 at *
    have HM0 := hid hm'
    clear hm'
    go_enter Try.func25, Try.ntmps25
    go_wp2_with (first
      | (go_at_call 22; (with_reducible refine hr.mono ?_); clear hr; rintro e w' ⟨rfl, m, rfl⟩)
      | (go_at_call 40; (with_reducible refine (hwi _).mono ?_); rintro e w' ⟨rfl, m2, rfl⟩)
      | (go_at_call 30; (with_reducible refine (hte _).mono ?_); rintro e w' ⟨rfl, m3, rfl⟩))
    have hA := (HC.out (m + m2)).drewN m3
    have hO := (HO6.out (m + m2)).drewN m3
    obtain ⟨w4, hw4⟩ : ∃ x, Hid (((w.drewN (m + m2)).setCell ⟨b, 6, none⟩ (.int .i64 ((F.count : Int) + 1))).drewN m3 = x) := ⟨_, rfl⟩
    rw [hw4.out] at hA hO ⊢
    have d2 : w4.cell? ⟨b, 2, none⟩ = some cm := hA.cell.2.2.1
    have d3 : w4.cell? ⟨b, 3, none⟩ = some (.slice (some ⟨bw, 0, none⟩) F.ws.length cw) := hA.cell.2.2.2.1
    have fu := hA.fuse
    rw [HT.out] at fu
    have hma' := fun n => hma (w4.drewN n) (fu.2.2.only ((Only.refl (fun _ => False) w4).drewN n) (fun _ h _ => h.elim)) d2
    have hk : k < F.ws.length := by have := HK.out; omega
    have i1 := HK.out
    have HA := hid hA
    have HO := hid hO
    have hcell : w4.cell? ⟨bw, k, none⟩ = some (.int .u32 (u : Int)) := by rw [hA.ws.get hk]; exact congrArg (fun x : Nat => some (Value.int .u32 (x : Int))) HU.out
    have hfz := hA.ws.frozen k
    clear hma HT fu hA hO
    refine tail.region 12 (by kernel_rfl) (by kernel_rfl) ?_
    simp only [List.take_succ_cons, List.take_zero, List.drop_succ_cons, List.drop_zero]
    repeat (go_big_quiet_step (first
      | (go_at_call 32; (with_reducible exact quietAt (hma' _)))
      | (go_at_call 41; (with_reducible exact quietAt (hto _)))))
    refine wpQuiet_nil ?_
    rintro _ ⟨nq, rfl⟩
    have hfa := fail_any ((HA.out.drewN nq).word hk v)
    go_wp2_with (go_at_call 33; (with_reducible refine hfa.mono ?_); rintro e w' ⟨rfl, ca', cb', cm', hA', hO'⟩)
    go_ret
    exact ⟨rfl, ca', cb', cm', hA', ((HO.out.drewN nq).setCell (.inl (.inr (.inl rfl))) _ _).trans hO'⟩
  | none =>
    have e2 : F.program k x = (0, F.wrote (F.ws.set k x) F.worn) := by rw [Fl.program, if_neg hd, if_neg h0, Int.toNat_natCast, if_neg hcl, ht]
    rw [e2]
    have hn := ok.ws_le
    have hte : ∀ m, Calls Try.prog 30 #[.pointer (some ⟨b, 0, none⟩)] ((w.drewN m).setCell ⟨b, 6, none⟩ (.int .i64 ((F.count : Int) + 1))) (Turned S b { F with count := F.count + 1, fuse := burnt F.fuse } bw cw bv cv (.bool false) ((w.drewN m).setCell ⟨b, 6, none⟩ (.int .i64 ((F.count : Int) + 1)))) := fun m => tears_no (hcnt m) ok1 ht
    clear h ok e1 e2 hcl hcl' h0 hd hq ht hcnt hO6 ok1
    generalize hu' : F.ws.getD k 0 = u at *
    have HU := hid hu'
    clear hu'
    go_enter Try.func25, Try.ntmps25
    go_wp2_with (first
      | (go_at_call 22; (with_reducible refine hr.mono ?_); clear hr; rintro e w' ⟨rfl, m, rfl⟩)
      | (go_at_call 40; (with_reducible refine (hwi _).mono ?_); rintro e w' ⟨rfl, m2, rfl⟩)
      | (go_at_call 30; (with_reducible refine (hte _).mono ?_); rintro e w4 ⟨rfl, ca', cb', cm', hA, hO⟩;
          have d3 : w4.cell? ⟨b, 3, none⟩ = some (.slice (some ⟨bw, 0, none⟩) F.ws.length cw) := hA.cell.2.2.2.1;
          have hk : k < F.ws.length := (by have := HK.out; omega);
          have hcell : w4.cell? ⟨bw, k, none⟩ = some (.int .u32 (u : Int)) := (by rw [hA.ws.get hk]; exact congrArg (fun x : Nat => some (Value.int .u32 (x : Int))) HU.out);
          have hfz := hA.ws.frozen k; have i1 := HK.out; have HA := hid hA; have HO := hid ((HO6.out (m + m2)).trans hO); clear hA hO))
    go_ret
    exact ⟨rfl, ca', cb', cm', HA.out.word hk x, HO.out.setCell (.inl (.inr (.inl rfl))) _ _⟩
end Go.Proofs.Ytdpddcmbilipfaa.flash
