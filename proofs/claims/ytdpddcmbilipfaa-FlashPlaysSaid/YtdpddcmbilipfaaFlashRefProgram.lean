/- Contracts of the reference's Program and Arm of layer 7. No condition but masks of at most 2^45. -/
import Derived.Test.YtdpddcmbilipfaaFlashRef
import Derived.Test.YtdpddcmbilipfaaFlashStep
import Derived.Test.YtdpddcmbilipfaaWordRefBits
import Derived.Test.YtdpddcmbilipfaaTail
namespace Go.Proofs.Ytdpddcmbilipfaa.flash
open Go.RowKit Go.Proofs.Ytdpddcmbilipfaa.word
set_option linter.unusedVariables false

/-- the call answers v; the reference's flash becomes F; only what it had in S turns -/
def RDid (S : Nat → Prop) (g : Nat) (F : Fl) (v : Value) (w : World) (e : Ending) (w' : World) : Prop :=
  e = .returned v ∧ ∃ S', RefAt S' g F w' ∧ (∀ x, S' x → x < w'.heap.size ∧ (S x ∨ w.heap.size ≤ x)) ∧ Only S w w'
section
variable {S : Nat → Prop} {g : Nat} {F G : Fl} {cm : Value} {gW cW gV cV : Nat} {w w' : World} {v : Value} {e : Ending}
theorem RTurned.did (h : RAt S g F cm gW cW gV cV w) (k : RTurned S g G cm gW cW gV cV v w e w') : RDid S g G v w e w' := by
  obtain ⟨he, hA, hO⟩ := k
  exact ⟨he, _, ⟨_, _, _, _, _, hA.clip⟩, fun x hx => ⟨hx.2, .inl hx.1⟩, hO.mono fun x hx _ => h.mem x hx⟩
theorem Quiet.rdid (h : RAt S g F cm gW cW gV cV w) (k : Quiet v w e w') : RDid S g F v w e w' := by
  obtain ⟨he, n, rfl⟩ := k
  exact ⟨he, _, ⟨_, _, _, _, _, (h.drewN n).clip⟩, fun x hx => ⟨hx.2, .inl hx.1⟩, (Only.refl _ _).drewN n⟩
end
theorem refProgram_err {S : Nat → Prop} {g : Nat} {F : Fl} {cm : Value} {gW cW gV cV : Nat} {w : World} (h : RAt S g F cm gW cW gV cV w) (a : Int) (x : Nat) (z : Int) (hz : z = 3 ∨ z = 10)
    (hr : Calls Try.prog 35 #[.pointer (some ⟨g, 0, none⟩), .int .i64 a] w (Quiet (.tuple #[.int .u32 0, .int .i64 z]) w)) :
    Calls Try.prog 38 #[.pointer (some ⟨g, 0, none⟩), .int .i64 a, .int .u32 x] w (RDid S g F (.int .i64 z) w) := by
  have H := hid h
  clear h
  rcases hz with rfl | rfl
  all_goals
    go_enter Try.func38, Try.ntmps38
    go_wp2_with (go_at_call 35; (with_reducible refine hr.mono ?_); rintro e w' ⟨rfl, m, rfl⟩)
    go_ret
    exact Quiet.rdid H.out ⟨rfl, _, rfl⟩
set_option maxHeartbeats 1600000 in
theorem refProgram_any {S : Nat → Prop} {g : Nat} {F : Fl} {cm : Value} {gW cW gV cV : Nat} {w : World} (h : RAt S g F cm gW cW gV cV w) (ok : F.Ok) (hcount : F.count < 4611686018427387904) (a : Int) (x : Nat) (hx : x < 4294967296) :
    Calls Try.prog 38 #[.pointer (some ⟨g, 0, none⟩), .int .i64 a, .int .u32 x] w (RDid S g (F.program a x).2 (.int .i64 (F.program a x).1) w) := by
  have hr := refRead_any h ok a
  by_cases hd : F.dark = true
  · have e1 : F.read a = (0, 10) := by rw [Fl.read, if_pos hd]
    have e2 : F.program a x = (10, F) := by rw [Fl.program, if_pos hd]
    rw [e1] at hr
    rw [e2]
    exact refProgram_err h a x 10 (.inr rfl) hr
  by_cases h0 : a < 0 ∨ (F.ws.length : Int) ≤ a
  · have e1 : F.read a = (0, 3) := by rw [Fl.read, if_neg hd, if_pos h0]
    have e2 : F.program a x = (3, F) := by rw [Fl.program, if_neg hd, if_pos h0]
    rw [e1] at hr
    rw [e2]
    exact refProgram_err h a x 3 (.inl rfl) hr
  obtain ⟨k, rfl⟩ := Int.eq_ofNat_of_zero_le (show 0 ≤ a by omega)
  have hk : k < F.ws.length := by omega
  have e1 : F.read k = (F.ws.getD k 0, 0) := by rw [Fl.read, if_neg hd, if_neg h0, Int.toNat_natCast]
  rw [e1] at hr
  have hu : F.ws.getD k 0 < 4294967296 := getD_lt ok.w (by decide) k
  have hwi := fun w' => refClr_any x (F.ws.getD k 0) hx hu w'
  have HK : Hid ((k : Int) < F.ws.length) := hid (by omega)
  have H := hid h
  by_cases hcl : clr x (F.ws.getD k 0) ≠ 0
  · have e2 : F.program k x = (11, F) := by rw [Fl.program, if_neg hd, if_neg h0, Int.toNat_natCast, if_pos hcl]
    rw [e2]
    have hq : (((clr x (F.ws.getD k 0) : Nat) : Int) != 0) = true := by rw [bne_iff_ne]; omega
    have hq2 : ¬ (((clr x (F.ws.getD k 0) : Nat) : Int) = 0) := by omega
    clear h ok e1 e2 hcl h0 hd
    generalize clr x (F.ws.getD k 0) = cl at *
    generalize F.ws.getD k 0 = u at *
    go_enter Try.func38, Try.ntmps38
    go_wp2_with (first
      | (go_at_call 35; (with_reducible refine hr.mono ?_); rintro e w' ⟨rfl, m, rfl⟩)
      | (go_at_call 21; (with_reducible refine (hwi _).mono ?_); rintro e w' ⟨rfl, m2, rfl⟩))
    go_ret
    exact Quiet.rdid H.out ⟨rfl, _, rfl⟩
  have hcl' : clr x (F.ws.getD k 0) = 0 := by simpa using hcl
  rw [hcl'] at hwi
  have hwi' : ∀ w', Calls Try.prog 21 #[.int .u32 (x : Int), .int .u32 ((F.ws.getD k 0 : Nat) : Int), .int .u32 0, .int .i64 0] w' (Quiet (.int .u32 0) w') := hwi
  clear hwi
  have HOK := hid ok
  cases ht : tears F.fuse with
  | some M =>
    have e2 : F.program k x = (10, F.tore (F.ws.set k (clr (F.ws.getD k 0) (clr (maskAt M 0) x))) F.worn) := by rw [Fl.program, if_neg hd, if_neg h0, Int.toNat_natCast, if_neg hcl, ht]
    rw [e2]
    obtain ⟨hfu, hM⟩ := F.tears_m ok ht
    have hml := maskAt_lt M 0 hM
    have hMl := (ok.m _ _ hfu).2.1
    have hto := fun w' => refTorn_any (F.ws.getD k 0) x (maskAt M 0) hu hx hml w'
    have hn := ok.ws_le
    have hte : ∀ m, Calls Try.prog 43 #[.pointer (some ⟨g, 0, none⟩)] (w.drewN m) fun e w' => RTurned S g { F with count := F.count + 1, dark := true, fuse := none } cm gW cW gV cV (.bool true) (w.drewN m) e w' ∧ MasksAt S (at3 g gW gV) M.length M cm w' := fun m => torn_yes (h.drewN m) hcount M hfu
    have HMK : Hid (∀ w', MasksAt S (at3 g gW gV) M.length M cm w' → w'.cell? ⟨g, 6, none⟩ = some cm → ∀ n, Calls Try.prog 44 #[.pointer (some ⟨g, 0, none⟩), .int .i64 0] (w'.drewN n) (Quiet (.int .u32 (maskAt M 0 : Nat)) (w'.drewN n))) :=
      hid fun w' hm hc n => refMask_any (hm.only ((Only.refl (fun _ => False) w').drewN n) (fun _ h _ => h.elim)) hc 0 (by omega) hMl
    clear h ok e1 e2 hcl hcl' h0 hd hfu hM ht
    generalize hv : clr (F.ws.getD k 0) (clr (maskAt M 0) x) = v at *
    have HV := hid hv
    clear hv
    generalize hu' : F.ws.getD k 0 = u at *
    have HU := hid hu'
    clear hu'
    generalize hm' : maskAt M 0 = m0 at *
    clear hm'
    go_enter Try.func38, Try.ntmps38
    go_wp2_with (first
      | (go_at_call 35; (with_reducible refine hr.mono ?_); clear hr; rintro e w' ⟨rfl, m, rfl⟩)
      | (go_at_call 21; (with_reducible refine (hwi' _).mono ?_); rintro e w' ⟨rfl, m2, rfl⟩)
      | (go_at_call 43; (with_reducible refine (hte _).mono ?_); rintro e w4 ⟨⟨rfl, hA, hO⟩, hMA⟩; have d0 : w4.cell? ⟨g, 0, none⟩ = some (.slice (some ⟨gW, 0, none⟩) F.ws.length cW) := hA.cell.1; have hma := HMK.out w4 hMA hA.cell.2.2.2.2.2.2; have hk' : k < F.ws.length := (by have := HK.out; omega); have i1 := HK.out; have hcell : w4.cell? ⟨gW, k, none⟩ = some (.int .u32 (u : Int)) := (by rw [hA.ws.get hk']; exact congrArg (fun x : Nat => some (Value.int .u32 (x : Int))) HU.out); have hfz := hA.ws.frozen k; have HA := hid hA; have HO := hid hO; clear hA hO hMA hte))
    refine tail.region 10 (by kernel_rfl) (by kernel_rfl) ?_
    simp only [List.take_succ_cons, List.take_zero, List.drop_succ_cons, List.drop_zero]
    repeat (go_big_quiet_step (first
      | (go_at_call 44; (with_reducible exact quietAt (hma _)))
      | (go_at_call 21; (with_reducible exact quietAt (hto _)))))
    refine wpQuiet_nil ?_
    rintro _ ⟨nq, rfl⟩
    go_wp2
    go_ret
    exact RTurned.did H.out ⟨rfl, (HA.out.drewN nq).word hk' v, ((((Only.refl (at3 g gW gV) w).drewN _).trans HO.out).drewN nq).setCell (.inl (.inr (.inl rfl))) _ _⟩
  | none =>
    have e2 : F.program k x = (0, F.wrote (F.ws.set k x) F.worn) := by rw [Fl.program, if_neg hd, if_neg h0, Int.toNat_natCast, if_neg hcl, ht]
    rw [e2]
    have hn := ok.ws_le
    have hte : ∀ m, Calls Try.prog 43 #[.pointer (some ⟨g, 0, none⟩)] (w.drewN m) (RTurned S g { F with count := F.count + 1, fuse := burnt F.fuse } cm gW cW gV cV (.bool false) (w.drewN m)) := fun m => torn_no (h.drewN m) (fun n M h => (ok.m n M h).1) (by simpa using hd) hcount ht
    clear h ok e1 e2 hcl hcl' h0 hd ht
    generalize hu' : F.ws.getD k 0 = u at *
    have HU := hid hu'
    clear hu'
    go_enter Try.func38, Try.ntmps38
    go_wp2_with (first
      | (go_at_call 35; (with_reducible refine hr.mono ?_); clear hr; rintro e w' ⟨rfl, m, rfl⟩)
      | (go_at_call 21; (with_reducible refine (hwi' _).mono ?_); rintro e w' ⟨rfl, m2, rfl⟩)
      | (go_at_call 43; (with_reducible refine (hte _).mono ?_); rintro e w4 ⟨rfl, hA, hO⟩; have d0 : w4.cell? ⟨g, 0, none⟩ = some (.slice (some ⟨gW, 0, none⟩) F.ws.length cW) := hA.cell.1; have hk' : k < F.ws.length := (by have := HK.out; omega); have i1 := HK.out; have hcell : w4.cell? ⟨gW, k, none⟩ = some (.int .u32 (u : Int)) := (by rw [hA.ws.get hk']; exact congrArg (fun x : Nat => some (Value.int .u32 (x : Int))) HU.out); have hfz := hA.ws.frozen k; have HA := hid hA; have HO := hid hO; clear hA hO hte))
    go_ret
    exact RTurned.did H.out ⟨rfl, HA.out.word hk' x, (((Only.refl (at3 g gW gV) w).drewN _).trans HO.out).setCell (.inl (.inr (.inl rfl))) _ _⟩
end Go.Proofs.Ytdpddcmbilipfaa.flash
