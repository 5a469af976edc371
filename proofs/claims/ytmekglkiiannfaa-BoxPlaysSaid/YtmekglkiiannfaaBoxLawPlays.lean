/- BoxPlays: whatever is done with two boxes of whatever rooms, each answer is as the document says. No condition but that the list is one. -/
import Derived.Test.YtmekglkiiannfaaBoxPlay
import Derived.Test.YtmekglkiiannfaaBoxAwake
import Derived.Test.YtmekglkiiannfaaArgs
import Derived.Test.YtmekglkiiannfaaFour
import Derived.BigQuiet
import Derived.Deep.RegionHeld3
import Derived.Handy
namespace Go.Proofs.Ytmekglkiiannfaa.boxPlays
open Go.RowKit Go.Proofs.Ytmekglkiiannfaa.box
set_option linter.unusedVariables false

theorem quiet_of_same {f : FuncId} {args : Array Value} {w : World} {v : Value} (h : Calls Try.prog f args w fun e w' => e = .returned v ∧ w' = w) : Calls Try.prog f args w (Quiet v w) :=
  h.mono fun e w' ⟨he, hw⟩ => ⟨he, 0, hw⟩
theorem roomOf_le (n : Int) : roomOf n ≤ 64 := by unfold roomOf; omega
theorem new_some (n : Int) (w : World) : Calls Try.prog 7 #[.int .i64 n] w fun e w' => ∃ b c, e = .returned (.pointer (some ⟨b, 0, none⟩)) ∧ BoxAt 51 3 b c (roomOf n) (([] : List Int).map (Value.int .i64)) w' ∧ Below w.heap.size w w' ∧ w.heap.size ≤ c ∧ c < w'.heap.size :=
  (new_any n w).mono fun e w' ⟨he, h1, h2⟩ => ⟨_, _, he, h1, h2, Nat.le_refl _, h1.lt.2⟩
theorem two_cells {w w' : World} {g t : Nat} {u v : Value} (h : Block w g t [u, v]) (hb : Below w.heap.size w w') : w'.cell? ⟨g, 0, none⟩ = some u ∧ w'.cell? ⟨g, 1, none⟩ = some v :=
  ⟨by rw [(h.later hb).cell]; rfl, by rw [(h.later hb).cell]; rfl⟩
set_option maxHeartbeats 16000000 in
set_option maxRecDepth 20000 in
theorem walk (x0 y0 : Int) (a : Option Addr) (cap : Nat) (l : List (Int × Int)) (w : World) (bx : -9223372036854775808 ≤ x0 ∧ x0 ≤ 9223372036854775807) (bY : -9223372036854775808 ≤ y0 ∧ y0 ≤ 9223372036854775807)
    (hv : Pairs w a l) (hlc : l.length ≤ cap) (hcm : cap ≤ maxLen) :
    Calls Try.prog 3 #[.agg #[.int .i64 x0, .int .i64 y0], .slice a l.length cap] w (Yes w) := by
  clear bx bY hcm
  by_cases hbig : 300 < l.length
  · have hb : (300 : Int) < (l.length : Int) := by omega
    clear hv
    go_enter Try.func3, Try.ntmps3
    go_wp2_with (go_at_call 6; (with_reducible refine (awake_any _).mono ?_); rintro e w11 ⟨rfl, hb11⟩)
    go_ret
    exact ⟨rfl, Below.trans ((Below.refl _ w).alloc (Nat.le_refl _) _) (hb11.mono (by simp))⟩
  · have hb : ¬ ((300 : Int) < (l.length : Int)) := by omega
    have HV := hid hv
    clear hv
    go_enter Try.func3, Try.ntmps3
    go_wp2
    have hA := Block.new w 22 [.int .i64 x0, .int .i64 y0]
    have hW0 : Below w.heap.size w (w.alloc (.cells #[.int .i64 x0, .int .i64 y0] 22)) := (Below.refl _ _).alloc (Nat.le_refl _) _
    obtain ⟨h0, hh0⟩ : ∃ h0, Hid (w.heap.size = h0) := ⟨_, rfl⟩
    rw [show (w.alloc (.cells [.int .i64 x0, .int .i64 y0].toArray 22)) = (w.alloc (.cells #[.int .i64 x0, .int .i64 y0] 22)) from rfl] at hA
    generalize hW1 : (w.alloc (.cells #[.int .i64 x0, .int .i64 y0] 22)) = W1 at *
    clear hW1
    have HA := hid hA
    have HW0 := hid hW0
    have hc01 := (two_cells hA (Below.refl _ _)).1
    have hc02 := (two_cells hA (Below.refl _ _)).2
    have f01 := hA.frozen 0
    have f02 := hA.frozen 1
    clear hA hW0
    go_region_held3 (fun w' => w'.cell? ⟨w.heap.size, 0, none⟩ = some (.int .i64 x0) ∧ w'.cell? ⟨w.heap.size, 1, none⟩ = some (.int .i64 y0)) (first | assumption | go_keep) (first
      | (go_at_call 7; (with_reducible refine (new_some x0 _).mono ?_); rintro e w3 ⟨b1, c1, rfl, hB1, hb1, hc1, hl1⟩; have hq1 : Below W1.heap.size W1 w3 := Below.trans (below_drewN (Below.refl _ _) 1) hb1; have hk3 := two_cells HA.out hq1)
      | (go_at_call 7; (with_reducible refine (new_some y0 _).mono ?_); rintro e w4 ⟨b2, c2, rfl, hB2, hb2, hc2, hl2⟩; have hq2 : Below W1.heap.size W1 w4 := Below.trans hq1 (hb2.mono hq1.size); have hk4 := two_cells HA.out hq2))
    have HB1 := hid (hB1.later hb2)
    have HB2 := hid hB2
    have Hq := hid hq2
    have hne : c1 ≠ c2 := by omega
    have hc1' : w.heap.size ≤ c1 := by have := HW0.out.size; have : W1.drew.heap.size = W1.heap.size := rfl; omega
    have hc2' : w.heap.size ≤ c2 := by have := HW0.out.size; have := hq1.size; omega
    obtain ⟨d1, d2⟩ := hk4
    have HBW := hid (HA.out.later hq2)
    have e1 := HBW.out.frozen 0
    have e2 := HBW.out.frozen 1
    clear hB1 hB2 hq1 hq2 hb1 hb2 hk3 hc1 hc2 hl1 hl2 hc01 hc02 f01 f02 HA
    go_wp2
    refine plan.region (by kernel_rfl) ?_
    refine plan.Rest.first 0 _ (.pointer (some ⟨w.heap.size, 0, none⟩)) rfl (by kernel_rfl) (by kernel_rfl) (by kernel_rfl) (by kernel_rfl) (fun _ _ => by kernel_rfl) ?_
    refine plan.Rest.first 3 _ (.pointer (some ⟨w.heap.size, 1, none⟩)) rfl (by kernel_rfl) (by kernel_rfl) (by kernel_rfl) (by kernel_rfl) (fun _ _ => by kernel_rfl) ?_
    refine plan.Rest.first 1 _ (.int .i64 x0) rfl (by kernel_rfl) (by kernel_rfl) (by kernel_rfl) (by kernel_rfl) (fun w' hb' => ?_) ?_
    · have hc := (two_cells HBW.out (Below.trans (below_drewN (Below.refl _ _) 1) hb' : Below w4.heap.size w4 w')).1
      exact plan.exec_load_int rfl (by kernel_rfl) hc (fun _ => by kernel_rfl)
    refine plan.Rest.first 4 _ (.int .i64 y0) rfl (by kernel_rfl) (by kernel_rfl) (by kernel_rfl) (by kernel_rfl) (fun w' hb' => ?_) ?_
    · have hc := (two_cells HBW.out (Below.trans (below_drewN (Below.refl _ _) 1) hb' : Below w4.heap.size w4 w')).2
      exact plan.exec_load_int rfl (by kernel_rfl) hc (fun _ => by kernel_rfl)
    refine plan.Rest.to4 38 41 7 8 (by kernel_rfl) (by kernel_rfl) (by kernel_rfl) ?_
    refine plan.four _ w4.drew 29 [.slice none 0 0, .int .i64 0] (.agg #[.slice none 0 0, .int .i64 (roomOf x0)]) (.agg #[.slice none 0 0, .int .i64 (roomOf y0)]) 38 41 7 8 _ _ _ _ 8 #[.int .i64 x0] #[.int .i64 y0]
      (by decide) (by decide) (by decide) (by decide) (by decide) (by decide) rfl rfl rfl rfl rfl rfl rfl rfl rfl rfl rfl rfl ?hready (fun _ _ _ _ _ => by kernel_rfl) (fun _ _ _ _ _ => by kernel_rfl) (fun _ _ _ _ _ => by kernel_rfl) (fun _ _ _ _ _ => by kernel_rfl) (fun w1 => refNew_any x0 w1) (fun w1 => refNew_any y0 w1) ?rest 4 false false false false undef undef undef undef _ (by simp) (by rfl) ?inv
    case hready =>
      intro b2 b5 b6 b7 h1 h2
      cases b2 <;> cases b5 <;> cases b6 <;> cases b7 <;> first | (simp at h1; done) | (simp at h2; done) | kernel_rfl
    case inv => exact ⟨Below.refl _ _, by simp, by simp, by simp, by simp, by simp⟩
    intro g g' w7 hg hg' hgne hB7 hB7' hb7
    refine plan.store _ 8 _ 29 (.tmp 7) (.tmp 38) g 29 [.slice none 0 0, .int .i64 0] #[.slice none 0 0, .int .i64 (roomOf x0)] rfl rfl rfl rfl (by kernel_rfl) (by kernel_rfl) (by kernel_rfl) hB7 rfl (by kernel_rfl) (by simp [Value.oneCell']) hb7 hg (fun w8 hb8 hB8 hk8 => ?_)
    have hB8' := hk8 g' _ _ (fun e => hgne e.symm) hB7'
    refine plan.store _ 9 _ 29 (.tmp 8) (.tmp 41) g' 29 [.slice none 0 0, .int .i64 0] #[.slice none 0 0, .int .i64 (roomOf y0)] rfl rfl rfl rfl (by kernel_rfl) (by kernel_rfl) (by kernel_rfl) hB8' rfl (by kernel_rfl) (by simp [Value.oneCell']) hb8 hg' (fun w9 hb9 hB9' hk9 => ?_)
    have hB9 := hk9 g _ _ hgne hB8
    refine ⟨by kernel_rfl, NoPanic.normal ?_⟩
    have hq9 : Below w4.heap.size w4 w9 := Below.trans (below_drewN (Below.refl _ _) 1) hb9
    have hsz : w.heap.size ≤ w4.heap.size := Nat.le_trans HW0.out.size Hq.out.size
    have hP : Play ⟨b1, c1, b2, c2, g, g', roomOf x0, roomOf y0⟩ w [] [] [] [] w9 := by
      refine ⟨HB1.out.later hq9, HB2.out.later hq9, ⟨none, 0, hB9, Nat.le_refl _, Vals.nil, fun x hx => by cases hx⟩, ⟨none, 0, hB9', Nat.le_refl _, Vals.nil, fun x hx => by cases hx⟩, ?_⟩
      exact (HW0.out.trans (Hq.out.mono HW0.out.size)).trans (hq9.mono hsz)
    have hOk : Spot.Ok ⟨b1, c1, b2, c2, g, g', roomOf x0, roomOf y0⟩ w.heap.size :=
      ⟨hc1', hc2', Nat.le_trans hsz hg, Nat.le_trans hsz hg', hne, hgne, roomOf_le x0, roomOf_le y0⟩
    have HP := hid hP
    have HOk := hid hOk
    have hN : roomOf x0 ≤ 64 := roomOf_le x0
    have hM : roomOf y0 ≤ 64 := roomOf_le y0
    clear hP hOk hq9 hsz hB9 hk9 hB9' hb9 hB8' hk8 hB8 hb8 hB7 hB7' hb7 hg hg' hgne HB1 HB2 Hq HW0 hne hc1' hc2' d1 d2 HBW e1 e2
    generalize roomOf x0 = N at *
    generalize roomOf y0 = M at *
    -- the rounds
    simp only [plan.at4]
    walk_nrm
    go_wp2
    go_loopw [9] (fun u wr => ∃ (k : Nat) (xs ys : List Int), u = .int .i64 k ∧ k ≤ l.length ∧ xs.length ≤ N ∧ ys.length ≤ M ∧ Play ⟨b1, c1, b2, c2, g, g', N, M⟩ w xs ys xs ys wr)
      (fun u _ => l.length - (intOf u).toNat)
    case atStart => exact ⟨0, [], [], rfl, Nat.zero_le _, Nat.zero_le _, Nat.zero_le _, HP.out⟩
    case round =>
      clear HP
      obtain ⟨k, xs, ys, rfl, hk, hxs, hys, hP⟩ := hrel
      by_cases hlt : k < l.length
      · obtain ⟨gg, off, ⟨kd, n⟩, rfl, hgg, _, e0, e1⟩ := HV.out.at hlt
        have HK : Hid (∀ w', Below w.heap.size w w' → w'.cell? ⟨gg, off + k * 2 + 1, none⟩ = some (.int .i64 n)) := fun w' hb => (hb.cell (p := ⟨gg, off + k * 2 + 1, none⟩) hgg).trans e1
        have hk0 : wr.cell? ⟨gg, off + k * 2, none⟩ = some (.int .i64 kd) := (hP.below.cell (p := ⟨gg, off + k * 2, none⟩) hgg).trans e0
        have hk1 := HK.out wr hP.below
        have hki : (k : Int) < (l.length : Int) := by omega
        have HT := hid hP
        clear hP HV e0 e1 hgg
        by_cases h0 : kd = 0
        · have q0 : (kd == 0) = true := by rw [beq_iff_eq]; exact h0
          clear h0
          as_aux_lemma =>
            have d1 : ∀ w1, Play ⟨b1, c1, b2, c2, g, g', N, M⟩ w xs ys xs ys w1 → Calls Try.prog 9 #[.pointer (some ⟨b1, 0, none⟩), .int .i64 n] w1 fun e w' => e = .returned (.bool (decide (xs.length < N))) ∧ Play ⟨b1, c1, b2, c2, g, g', N, M⟩ w (if xs.length < N then xs ++ [n] else xs) ys xs ys w' := fun w1 h => (put_any b1 c1 N xs n w1 h.a).mono fun e w' ⟨he, h1, h2⟩ => ⟨he, h.turnA HOk.out rfl h1 h2⟩
            have d2 : ∀ w1, Play ⟨b1, c1, b2, c2, g, g', N, M⟩ w (if xs.length < N then xs ++ [n] else xs) ys xs ys w1 → Calls Try.prog 10 #[.pointer (some ⟨g, 0, none⟩), .int .i64 n] w1 fun e w' => e = .returned (.bool (decide (xs.length < N))) ∧ Play ⟨b1, c1, b2, c2, g, g', N, M⟩ w (if xs.length < N then xs ++ [n] else xs) ys (if xs.length < N then xs ++ [n] else xs) ys w' := fun w1 h => (refPut_any g N xs n w1 h.x hxs (by omega)).mono fun e w' ⟨he, h1, h2⟩ => ⟨he, h.turnX HOk.out rfl h1 h2⟩
            have hl' : (if xs.length < N then xs ++ [n] else xs).length ≤ N := by split <;> (try simp) <;> omega
            generalize (if xs.length < N then xs ++ [n] else xs) = zs at *
            generalize decide (xs.length < N) = K at *
            have hTd : Play ⟨b1, c1, b2, c2, g, g', N, M⟩ w xs ys xs ys wr.drew := HT.out.drewN 1
            go_wp2
            go_region_held3 (fun w' => w'.cell? ⟨gg, off + k * 2 + 1, none⟩ = some (.int .i64 n)) (first | assumption | go_keep) (first
              | (go_at_call 9; (with_reducible refine (d1 _ hTd).mono ?_); rintro e w3 ⟨rfl, hh3⟩; have hk3 := HK.out w3 hh3.below)
              | (go_at_call 10; (with_reducible refine (d2 _ hh3).mono ?_); rintro e w4 ⟨rfl, hh4⟩; have hk4 := HK.out w4 hh4.below))
            clear d1 d2 hTd hk0 hk1 hk3 hk4 hh3
            have H2 := hid hh4
            clear hh4
            obtain ⟨ax, kx, hbx, _, _, _⟩ := H2.out.x
            obtain ⟨ay, ky, hby, _, _, _⟩ := H2.out.y
            have tx := two_cells hbx (Below.refl _ _)
            have ty := two_cells hby (Below.refl _ _)
            have cLA : ∀ m, Calls Try.prog 15 #[.pointer (some ⟨b1, 0, none⟩)] (w4.drewN m) (Quiet (.int .i64 ((zs).length : Int)) (w4.drewN m)) := fun m => quiet_of_same (by have := len_any b1 c1 N _ _ (H2.out.drewN m).a; simpa using this)
            have cLB : ∀ m, Calls Try.prog 15 #[.pointer (some ⟨b2, 0, none⟩)] (w4.drewN m) (Quiet (.int .i64 ((ys).length : Int)) (w4.drewN m)) := fun m => quiet_of_same (by have := len_any b2 c2 M _ _ (H2.out.drewN m).b; simpa using this)
            have cRA : ∀ m, Calls Try.prog 16 #[.pointer (some ⟨b1, 0, none⟩)] (w4.drewN m) (Quiet (.int .i64 (N : Int)) (w4.drewN m)) := fun m => quiet_of_same (room_any b1 c1 N _ _ (H2.out.drewN m).a)
            have cRB : ∀ m, Calls Try.prog 16 #[.pointer (some ⟨b2, 0, none⟩)] (w4.drewN m) (Quiet (.int .i64 (M : Int)) (w4.drewN m)) := fun m => quiet_of_same (room_any b2 c2 M _ _ (H2.out.drewN m).b)
            obtain ⟨tx0, tx1⟩ := tx
            obtain ⟨ty0, ty1⟩ := ty
            clear hbx hby
            go_wp2
            go_quiet (first
              | (go_at_call 15; (with_reducible exact quietAt (cLA _)))
              | (go_at_call 15; (with_reducible exact quietAt (cLB _)))
              | (go_at_call 16; (with_reducible exact quietAt (cRA _)))
              | (go_at_call 16; (with_reducible exact quietAt (cRB _))))
            go_wp2
            exact ⟨⟨k + 1, zs, ys, by go_num, by omega, hl', hys, H2.out.drewN _⟩, by simp [intOf]; omega⟩
        · have q0 : (kd == 0) = false := by rw [beq_eq_false_iff_ne]; exact h0
          by_cases h1 : kd = 1
          · have q1 : (kd == 1) = true := by rw [beq_iff_eq]; exact h1
            clear h1
            as_aux_lemma =>
              have d1 : ∀ w1, Play ⟨b1, c1, b2, c2, g, g', N, M⟩ w xs ys xs ys w1 → Calls Try.prog 9 #[.pointer (some ⟨b2, 0, none⟩), .int .i64 n] w1 fun e w' => e = .returned (.bool (decide (ys.length < M))) ∧ Play ⟨b1, c1, b2, c2, g, g', N, M⟩ w xs (if ys.length < M then ys ++ [n] else ys) xs ys w' := fun w1 h => (put_any b2 c2 M ys n w1 h.b).mono fun e w' ⟨he, h1, h2⟩ => ⟨he, h.turnB HOk.out rfl h1 h2⟩
              have d2 : ∀ w1, Play ⟨b1, c1, b2, c2, g, g', N, M⟩ w xs (if ys.length < M then ys ++ [n] else ys) xs ys w1 → Calls Try.prog 10 #[.pointer (some ⟨g', 0, none⟩), .int .i64 n] w1 fun e w' => e = .returned (.bool (decide (ys.length < M))) ∧ Play ⟨b1, c1, b2, c2, g, g', N, M⟩ w xs (if ys.length < M then ys ++ [n] else ys) xs (if ys.length < M then ys ++ [n] else ys) w' := fun w1 h => (refPut_any g' M ys n w1 h.y hys (by omega)).mono fun e w' ⟨he, h1, h2⟩ => ⟨he, h.turnY HOk.out rfl h1 h2⟩
              have hl' : (if ys.length < M then ys ++ [n] else ys).length ≤ M := by split <;> (try simp) <;> omega
              generalize (if ys.length < M then ys ++ [n] else ys) = zs at *
              generalize decide (ys.length < M) = K at *
              have hTd : Play ⟨b1, c1, b2, c2, g, g', N, M⟩ w xs ys xs ys wr.drew := HT.out.drewN 1
              go_wp2
              go_region_held3 (fun w' => w'.cell? ⟨gg, off + k * 2 + 1, none⟩ = some (.int .i64 n)) (first | assumption | go_keep) (first
                | (go_at_call 9; (with_reducible refine (d1 _ hTd).mono ?_); rintro e w3 ⟨rfl, hh3⟩; have hk3 := HK.out w3 hh3.below)
                | (go_at_call 10; (with_reducible refine (d2 _ hh3).mono ?_); rintro e w4 ⟨rfl, hh4⟩; have hk4 := HK.out w4 hh4.below))
              clear d1 d2 hTd hk0 hk1 hk3 hk4 hh3
              have H2 := hid hh4
              clear hh4
              obtain ⟨ax, kx, hbx, _, _, _⟩ := H2.out.x
              obtain ⟨ay, ky, hby, _, _, _⟩ := H2.out.y
              have tx := two_cells hbx (Below.refl _ _)
              have ty := two_cells hby (Below.refl _ _)
              have cLA : ∀ m, Calls Try.prog 15 #[.pointer (some ⟨b1, 0, none⟩)] (w4.drewN m) (Quiet (.int .i64 ((xs).length : Int)) (w4.drewN m)) := fun m => quiet_of_same (by have := len_any b1 c1 N _ _ (H2.out.drewN m).a; simpa using this)
              have cLB : ∀ m, Calls Try.prog 15 #[.pointer (some ⟨b2, 0, none⟩)] (w4.drewN m) (Quiet (.int .i64 ((zs).length : Int)) (w4.drewN m)) := fun m => quiet_of_same (by have := len_any b2 c2 M _ _ (H2.out.drewN m).b; simpa using this)
              have cRA : ∀ m, Calls Try.prog 16 #[.pointer (some ⟨b1, 0, none⟩)] (w4.drewN m) (Quiet (.int .i64 (N : Int)) (w4.drewN m)) := fun m => quiet_of_same (room_any b1 c1 N _ _ (H2.out.drewN m).a)
              have cRB : ∀ m, Calls Try.prog 16 #[.pointer (some ⟨b2, 0, none⟩)] (w4.drewN m) (Quiet (.int .i64 (M : Int)) (w4.drewN m)) := fun m => quiet_of_same (room_any b2 c2 M _ _ (H2.out.drewN m).b)
              obtain ⟨tx0, tx1⟩ := tx
              obtain ⟨ty0, ty1⟩ := ty
              clear hbx hby
              go_wp2
              go_quiet (first
                | (go_at_call 15; (with_reducible exact quietAt (cLA _)))
                | (go_at_call 15; (with_reducible exact quietAt (cLB _)))
                | (go_at_call 16; (with_reducible exact quietAt (cRA _)))
                | (go_at_call 16; (with_reducible exact quietAt (cRB _))))
              go_wp2
              exact ⟨⟨k + 1, xs, zs, by go_num, by omega, hxs, hl', H2.out.drewN _⟩, by simp [intOf]; omega⟩
          · have q1 : (kd == 1) = false := by rw [beq_eq_false_iff_ne]; exact h1
            by_cases h2 : kd = 2
            · have q2 : (kd == 2) = true := by rw [beq_iff_eq]; exact h2
              clear h2
              as_aux_lemma =>
                have d1 := (take_any b1 c1 N xs wr HT.out.a).mono fun e w' h => (show _ ∧ Play ⟨b1, c1, b2, c2, g, g', N, M⟩ w xs.tail ys xs ys w' from ⟨h.1, HT.out.turnA HOk.out rfl h.2.1 h.2.2⟩)
                have d2 : ∀ w1, Play ⟨b1, c1, b2, c2, g, g', N, M⟩ w xs.tail ys xs ys w1 → Calls Try.prog 12 #[.pointer (some ⟨g, 0, none⟩)] w1 fun e w' => e = .returned (.tuple #[.int .i64 (xs.head?.getD 0), .bool (!xs.isEmpty)]) ∧ Play ⟨b1, c1, b2, c2, g, g', N, M⟩ w xs.tail ys xs.tail ys w' := fun w1 h => (refTake_any g N xs w1 h.x).mono fun e w' ⟨he, h1, h2⟩ => ⟨he, h.turnX HOk.out rfl h1 h2⟩
                have hl' : xs.tail.length ≤ N := by rw [List.length_tail]; omega
                generalize xs.tail = zs at *
                generalize xs.head?.getD 0 = V at *
                generalize (!xs.isEmpty) = K at *
                go_wp2_with (first
                  | (go_at_call 11; (with_reducible refine d1.mono ?_); rintro e w3 ⟨rfl, hh3⟩; have HH3 := hid hh3; clear hh3)
                  | (go_at_call 12; (with_reducible refine (d2 _ HH3.out).mono ?_); rintro e w4 ⟨rfl, hh4⟩; have H2 := hid hh4; clear hh4))
                clear d1 d2 hk0 hk1 HH3
                obtain ⟨ax, kx, hbx, _, _, _⟩ := H2.out.x
                obtain ⟨ay, ky, hby, _, _, _⟩ := H2.out.y
                have tx := two_cells hbx (Below.refl _ _)
                have ty := two_cells hby (Below.refl _ _)
                have cLA : ∀ m, Calls Try.prog 15 #[.pointer (some ⟨b1, 0, none⟩)] (w4.drewN m) (Quiet (.int .i64 ((zs).length : Int)) (w4.drewN m)) := fun m => quiet_of_same (by have := len_any b1 c1 N _ _ (H2.out.drewN m).a; simpa using this)
                have cLB : ∀ m, Calls Try.prog 15 #[.pointer (some ⟨b2, 0, none⟩)] (w4.drewN m) (Quiet (.int .i64 ((ys).length : Int)) (w4.drewN m)) := fun m => quiet_of_same (by have := len_any b2 c2 M _ _ (H2.out.drewN m).b; simpa using this)
                have cRA : ∀ m, Calls Try.prog 16 #[.pointer (some ⟨b1, 0, none⟩)] (w4.drewN m) (Quiet (.int .i64 (N : Int)) (w4.drewN m)) := fun m => quiet_of_same (room_any b1 c1 N _ _ (H2.out.drewN m).a)
                have cRB : ∀ m, Calls Try.prog 16 #[.pointer (some ⟨b2, 0, none⟩)] (w4.drewN m) (Quiet (.int .i64 (M : Int)) (w4.drewN m)) := fun m => quiet_of_same (room_any b2 c2 M _ _ (H2.out.drewN m).b)
                obtain ⟨tx0, tx1⟩ := tx
                obtain ⟨ty0, ty1⟩ := ty
                clear hbx hby
                go_wp2
                go_quiet (first
                  | (go_at_call 15; (with_reducible exact quietAt (cLA _)))
                  | (go_at_call 15; (with_reducible exact quietAt (cLB _)))
                  | (go_at_call 16; (with_reducible exact quietAt (cRA _)))
                  | (go_at_call 16; (with_reducible exact quietAt (cRB _))))
                go_wp2
                exact ⟨⟨k + 1, zs, ys, by go_num, by omega, hl', hys, H2.out.drewN _⟩, by simp [intOf]; omega⟩
            · have q2 : (kd == 2) = false := by rw [beq_eq_false_iff_ne]; exact h2
              by_cases h3 : kd = 3
              · have q3 : (kd == 3) = true := by rw [beq_iff_eq]; exact h3
                clear h3
                as_aux_lemma =>
                  have d1 := (take_any b2 c2 M ys wr HT.out.b).mono fun e w' h => (show _ ∧ Play ⟨b1, c1, b2, c2, g, g', N, M⟩ w xs ys.tail xs ys w' from ⟨h.1, HT.out.turnB HOk.out rfl h.2.1 h.2.2⟩)
                  have d2 : ∀ w1, Play ⟨b1, c1, b2, c2, g, g', N, M⟩ w xs ys.tail xs ys w1 → Calls Try.prog 12 #[.pointer (some ⟨g', 0, none⟩)] w1 fun e w' => e = .returned (.tuple #[.int .i64 (ys.head?.getD 0), .bool (!ys.isEmpty)]) ∧ Play ⟨b1, c1, b2, c2, g, g', N, M⟩ w xs ys.tail xs ys.tail w' := fun w1 h => (refTake_any g' M ys w1 h.y).mono fun e w' ⟨he, h1, h2⟩ => ⟨he, h.turnY HOk.out rfl h1 h2⟩
                  have hl' : ys.tail.length ≤ M := by rw [List.length_tail]; omega
                  generalize ys.tail = zs at *
                  generalize ys.head?.getD 0 = V at *
                  generalize (!ys.isEmpty) = K at *
                  go_wp2_with (first
                    | (go_at_call 11; (with_reducible refine d1.mono ?_); rintro e w3 ⟨rfl, hh3⟩; have HH3 := hid hh3; clear hh3)
                    | (go_at_call 12; (with_reducible refine (d2 _ HH3.out).mono ?_); rintro e w4 ⟨rfl, hh4⟩; have H2 := hid hh4; clear hh4))
                  clear d1 d2 hk0 hk1 HH3
                  obtain ⟨ax, kx, hbx, _, _, _⟩ := H2.out.x
                  obtain ⟨ay, ky, hby, _, _, _⟩ := H2.out.y
                  have tx := two_cells hbx (Below.refl _ _)
                  have ty := two_cells hby (Below.refl _ _)
                  have cLA : ∀ m, Calls Try.prog 15 #[.pointer (some ⟨b1, 0, none⟩)] (w4.drewN m) (Quiet (.int .i64 ((xs).length : Int)) (w4.drewN m)) := fun m => quiet_of_same (by have := len_any b1 c1 N _ _ (H2.out.drewN m).a; simpa using this)
                  have cLB : ∀ m, Calls Try.prog 15 #[.pointer (some ⟨b2, 0, none⟩)] (w4.drewN m) (Quiet (.int .i64 ((zs).length : Int)) (w4.drewN m)) := fun m => quiet_of_same (by have := len_any b2 c2 M _ _ (H2.out.drewN m).b; simpa using this)
                  have cRA : ∀ m, Calls Try.prog 16 #[.pointer (some ⟨b1, 0, none⟩)] (w4.drewN m) (Quiet (.int .i64 (N : Int)) (w4.drewN m)) := fun m => quiet_of_same (room_any b1 c1 N _ _ (H2.out.drewN m).a)
                  have cRB : ∀ m, Calls Try.prog 16 #[.pointer (some ⟨b2, 0, none⟩)] (w4.drewN m) (Quiet (.int .i64 (M : Int)) (w4.drewN m)) := fun m => quiet_of_same (room_any b2 c2 M _ _ (H2.out.drewN m).b)
                  obtain ⟨tx0, tx1⟩ := tx
                  obtain ⟨ty0, ty1⟩ := ty
                  clear hbx hby
                  go_wp2
                  go_quiet (first
                    | (go_at_call 15; (with_reducible exact quietAt (cLA _)))
                    | (go_at_call 15; (with_reducible exact quietAt (cLB _)))
                    | (go_at_call 16; (with_reducible exact quietAt (cRA _)))
                    | (go_at_call 16; (with_reducible exact quietAt (cRB _))))
                  go_wp2
                  exact ⟨⟨k + 1, xs, zs, by go_num, by omega, hxs, hl', H2.out.drewN _⟩, by simp [intOf]; omega⟩
              · have q3 : (kd == 3) = false := by rw [beq_eq_false_iff_ne]; exact h3
                by_cases h4 : kd = 4
                · have q4 : (kd == 4) = true := by rw [beq_iff_eq]; exact h4
                  clear h4
                  as_aux_lemma =>
                    cases xs with
                    | cons x xs' =>
                      have d1 := (first_a b1 c1 N (.pointer (some ⟨b2, 0, none⟩)) x xs' wr HT.out.a).mono fun e w' h => (show _ ∧ Play ⟨b1, c1, b2, c2, g, g', N, M⟩ w xs' ys (x :: xs') ys w' from ⟨h.1, HT.out.turnA HOk.out rfl h.2.1 h.2.2⟩)
                      have d2 : ∀ w1, Play ⟨b1, c1, b2, c2, g, g', N, M⟩ w xs' ys (x :: xs') ys w1 → Calls Try.prog 12 #[.pointer (some ⟨g, 0, none⟩)] w1 fun e w' => e = .returned (.tuple #[.int .i64 x, .bool true]) ∧ Play ⟨b1, c1, b2, c2, g, g', N, M⟩ w xs' ys xs' ys w' := fun w1 h => (refTake_any g N (x :: xs') w1 h.x).mono fun e w' ⟨he, h1, h2⟩ => ⟨he, h.turnX HOk.out rfl h1 h2⟩
                      have hl' : xs'.length ≤ N := by simp at hxs; omega
                      go_wp2_with (first
                        | (go_at_call 13; (with_reducible refine d1.mono ?_); rintro e w3 ⟨rfl, hh3⟩; have HH3 := hid hh3; clear hh3)
                        | (go_at_call 12; (with_reducible refine (d2 _ HH3.out).mono ?_); rintro e w4 ⟨rfl, hh4⟩; have H2 := hid hh4; clear hh4))
                      clear d1 d2 hk0 hk1 HH3
                      obtain ⟨ax, kx, hbx, _, _, _⟩ := H2.out.x
                      obtain ⟨ay, ky, hby, _, _, _⟩ := H2.out.y
                      have tx := two_cells hbx (Below.refl _ _)
                      have ty := two_cells hby (Below.refl _ _)
                      have cLA : ∀ m, Calls Try.prog 15 #[.pointer (some ⟨b1, 0, none⟩)] (w4.drewN m) (Quiet (.int .i64 ((xs').length : Int)) (w4.drewN m)) := fun m => quiet_of_same (by have := len_any b1 c1 N _ _ (H2.out.drewN m).a; simpa using this)
                      have cLB : ∀ m, Calls Try.prog 15 #[.pointer (some ⟨b2, 0, none⟩)] (w4.drewN m) (Quiet (.int .i64 ((ys).length : Int)) (w4.drewN m)) := fun m => quiet_of_same (by have := len_any b2 c2 M _ _ (H2.out.drewN m).b; simpa using this)
                      have cRA : ∀ m, Calls Try.prog 16 #[.pointer (some ⟨b1, 0, none⟩)] (w4.drewN m) (Quiet (.int .i64 (N : Int)) (w4.drewN m)) := fun m => quiet_of_same (room_any b1 c1 N _ _ (H2.out.drewN m).a)
                      have cRB : ∀ m, Calls Try.prog 16 #[.pointer (some ⟨b2, 0, none⟩)] (w4.drewN m) (Quiet (.int .i64 (M : Int)) (w4.drewN m)) := fun m => quiet_of_same (room_any b2 c2 M _ _ (H2.out.drewN m).b)
                      obtain ⟨tx0, tx1⟩ := tx
                      obtain ⟨ty0, ty1⟩ := ty
                      clear hbx hby
                      go_wp2
                      go_quiet (first
                        | (go_at_call 15; (with_reducible exact quietAt (cLA _)))
                        | (go_at_call 15; (with_reducible exact quietAt (cLB _)))
                        | (go_at_call 16; (with_reducible exact quietAt (cRA _)))
                        | (go_at_call 16; (with_reducible exact quietAt (cRB _))))
                      go_wp2
                      exact ⟨⟨k + 1, xs', ys, by go_num, by omega, hl', hys, H2.out.drewN _⟩, by simp [intOf]; omega⟩
                    | nil =>
                      cases ys with
                      | cons y ys' =>
                        have d1 := (first_b b1 c1 N b2 c2 M y ys' wr HT.out.a HT.out.b).mono fun e w' h => (show _ ∧ Play ⟨b1, c1, b2, c2, g, g', N, M⟩ w [] ys' [] (y :: ys') w' from ⟨h.1, HT.out.turnB HOk.out rfl h.2.1 h.2.2⟩)
                        have d2 : ∀ w1, Play ⟨b1, c1, b2, c2, g, g', N, M⟩ w [] ys' [] (y :: ys') w1 → Calls Try.prog 12 #[.pointer (some ⟨g, 0, none⟩)] w1 fun e w' => e = .returned (.tuple #[.int .i64 0, .bool false]) ∧ Play ⟨b1, c1, b2, c2, g, g', N, M⟩ w [] ys' [] (y :: ys') w' := fun w1 h => (refTake_any g N [] w1 h.x).mono fun e w' ⟨he, h1, h2⟩ => ⟨he, h.turnX HOk.out rfl h1 h2⟩
                        have d3 : ∀ w1, Play ⟨b1, c1, b2, c2, g, g', N, M⟩ w [] ys' [] (y :: ys') w1 → Calls Try.prog 12 #[.pointer (some ⟨g', 0, none⟩)] w1 fun e w' => e = .returned (.tuple #[.int .i64 y, .bool true]) ∧ Play ⟨b1, c1, b2, c2, g, g', N, M⟩ w [] ys' [] ys' w' := fun w1 h => (refTake_any g' M (y :: ys') w1 h.y).mono fun e w' ⟨he, h1, h2⟩ => ⟨he, h.turnY HOk.out rfl h1 h2⟩
                        have hl' : ys'.length ≤ M := by simp at hys; omega
                        go_wp2_with (first
                          | (go_at_call 13; (with_reducible refine d1.mono ?_); rintro e w3 ⟨rfl, hh3⟩; have HH3 := hid hh3; clear hh3)
                          | (go_at_call 12; (with_reducible refine (d2 _ HH3.out).mono ?_); clear d2; rintro e w4 ⟨rfl, hh4⟩; have HH4 := hid hh4; clear hh4)
                          | (go_at_call 12; (with_reducible refine (d3 _ HH4.out).mono ?_); clear d3; rintro e w5 ⟨rfl, hh5⟩; have H2 := hid hh5; clear hh5))
                        clear d1 hk0 hk1 HH3 HH4
                        obtain ⟨ax, kx, hbx, _, _, _⟩ := H2.out.x
                        obtain ⟨ay, ky, hby, _, _, _⟩ := H2.out.y
                        have tx := two_cells hbx (Below.refl _ _)
                        have ty := two_cells hby (Below.refl _ _)
                        have cLA : ∀ m, Calls Try.prog 15 #[.pointer (some ⟨b1, 0, none⟩)] (w5.drewN m) (Quiet (.int .i64 ((([] : List Int)).length : Int)) (w5.drewN m)) := fun m => quiet_of_same (by have := len_any b1 c1 N _ _ (H2.out.drewN m).a; simpa using this)
                        have cLB : ∀ m, Calls Try.prog 15 #[.pointer (some ⟨b2, 0, none⟩)] (w5.drewN m) (Quiet (.int .i64 ((ys').length : Int)) (w5.drewN m)) := fun m => quiet_of_same (by have := len_any b2 c2 M _ _ (H2.out.drewN m).b; simpa using this)
                        have cRA : ∀ m, Calls Try.prog 16 #[.pointer (some ⟨b1, 0, none⟩)] (w5.drewN m) (Quiet (.int .i64 (N : Int)) (w5.drewN m)) := fun m => quiet_of_same (room_any b1 c1 N _ _ (H2.out.drewN m).a)
                        have cRB : ∀ m, Calls Try.prog 16 #[.pointer (some ⟨b2, 0, none⟩)] (w5.drewN m) (Quiet (.int .i64 (M : Int)) (w5.drewN m)) := fun m => quiet_of_same (room_any b2 c2 M _ _ (H2.out.drewN m).b)
                        obtain ⟨tx0, tx1⟩ := tx
                        obtain ⟨ty0, ty1⟩ := ty
                        clear hbx hby
                        go_wp2
                        go_quiet (first
                          | (go_at_call 15; (with_reducible exact quietAt (cLA _)))
                          | (go_at_call 15; (with_reducible exact quietAt (cLB _)))
                          | (go_at_call 16; (with_reducible exact quietAt (cRA _)))
                          | (go_at_call 16; (with_reducible exact quietAt (cRB _))))
                        go_wp2
                        exact ⟨⟨k + 1, ([] : List Int), ys', by go_num, by omega, hxs, hl', H2.out.drewN _⟩, by simp [intOf]; omega⟩
                      | nil =>
                        have d1 := (first_none 0 0 wr _ _ (take_empty b1 c1 N wr HT.out.a) (take_empty b2 c2 M wr HT.out.b)).mono fun e w' h => (show _ ∧ Play ⟨b1, c1, b2, c2, g, g', N, M⟩ w [] [] [] [] w' from ⟨h.1, h.2 ▸ HT.out⟩)
                        have d2 : ∀ w1, Play ⟨b1, c1, b2, c2, g, g', N, M⟩ w [] [] [] [] w1 → Calls Try.prog 12 #[.pointer (some ⟨g, 0, none⟩)] w1 fun e w' => e = .returned (.tuple #[.int .i64 0, .bool false]) ∧ Play ⟨b1, c1, b2, c2, g, g', N, M⟩ w [] [] [] [] w' := fun w1 h => (refTake_any g N [] w1 h.x).mono fun e w' ⟨he, h1, h2⟩ => ⟨he, h.turnX HOk.out rfl h1 h2⟩
                        have d3 : ∀ w1, Play ⟨b1, c1, b2, c2, g, g', N, M⟩ w [] [] [] [] w1 → Calls Try.prog 12 #[.pointer (some ⟨g', 0, none⟩)] w1 fun e w' => e = .returned (.tuple #[.int .i64 0, .bool false]) ∧ Play ⟨b1, c1, b2, c2, g, g', N, M⟩ w [] [] [] [] w' := fun w1 h => (refTake_any g' M [] w1 h.y).mono fun e w' ⟨he, h1, h2⟩ => ⟨he, h.turnY HOk.out rfl h1 h2⟩
                        go_wp2_with (first
                          | (go_at_call 13; (with_reducible refine d1.mono ?_); rintro e w3 ⟨rfl, hh3⟩; have HH3 := hid hh3; clear hh3)
                          | (go_at_call 12; (with_reducible refine (d2 _ HH3.out).mono ?_); clear d2; rintro e w4 ⟨rfl, hh4⟩; have HH4 := hid hh4; clear hh4)
                          | (go_at_call 12; (with_reducible refine (d3 _ HH4.out).mono ?_); clear d3; rintro e w5 ⟨rfl, hh5⟩; have H2 := hid hh5; clear hh5))
                        clear d1 hk0 hk1 HH3 HH4
                        obtain ⟨ax, kx, hbx, _, _, _⟩ := H2.out.x
                        obtain ⟨ay, ky, hby, _, _, _⟩ := H2.out.y
                        have tx := two_cells hbx (Below.refl _ _)
                        have ty := two_cells hby (Below.refl _ _)
                        have cLA : ∀ m, Calls Try.prog 15 #[.pointer (some ⟨b1, 0, none⟩)] (w5.drewN m) (Quiet (.int .i64 ((([] : List Int)).length : Int)) (w5.drewN m)) := fun m => quiet_of_same (by have := len_any b1 c1 N _ _ (H2.out.drewN m).a; simpa using this)
                        have cLB : ∀ m, Calls Try.prog 15 #[.pointer (some ⟨b2, 0, none⟩)] (w5.drewN m) (Quiet (.int .i64 ((([] : List Int)).length : Int)) (w5.drewN m)) := fun m => quiet_of_same (by have := len_any b2 c2 M _ _ (H2.out.drewN m).b; simpa using this)
                        have cRA : ∀ m, Calls Try.prog 16 #[.pointer (some ⟨b1, 0, none⟩)] (w5.drewN m) (Quiet (.int .i64 (N : Int)) (w5.drewN m)) := fun m => quiet_of_same (room_any b1 c1 N _ _ (H2.out.drewN m).a)
                        have cRB : ∀ m, Calls Try.prog 16 #[.pointer (some ⟨b2, 0, none⟩)] (w5.drewN m) (Quiet (.int .i64 (M : Int)) (w5.drewN m)) := fun m => quiet_of_same (room_any b2 c2 M _ _ (H2.out.drewN m).b)
                        obtain ⟨tx0, tx1⟩ := tx
                        obtain ⟨ty0, ty1⟩ := ty
                        clear hbx hby
                        go_wp2
                        go_quiet (first
                          | (go_at_call 15; (with_reducible exact quietAt (cLA _)))
                          | (go_at_call 15; (with_reducible exact quietAt (cLB _)))
                          | (go_at_call 16; (with_reducible exact quietAt (cRA _)))
                          | (go_at_call 16; (with_reducible exact quietAt (cRB _))))
                        go_wp2
                        exact ⟨⟨k + 1, ([] : List Int), ([] : List Int), by go_num, by omega, hxs, hys, H2.out.drewN _⟩, by simp [intOf]; omega⟩
                · have q4 : (kd == 4) = false := by rw [beq_eq_false_iff_ne]; exact h4
                  as_aux_lemma =>
                    have d1 := (all_any b2 c2 M ys (by omega) wr HT.out.b).mono fun e w' h => (show ∃ a3 k3, e = .returned (.slice a3 ys.length k3) ∧ Vals w' a3 ys.length (ys.map (Value.int .i64)) ∧ Play ⟨b1, c1, b2, c2, g, g', N, M⟩ w xs [] xs ys w' from let ⟨a3, k3, he, hv, h1, h2⟩ := h; ⟨a3, k3, he, hv, HT.out.turnB HOk.out rfl h1 h2⟩)
                    have hW : ∀ w1, Play ⟨b1, c1, b2, c2, g, g', N, M⟩ w xs [] xs ys w1 → ∃ ay ky, w1.cell? ⟨g', 0, none⟩ = some (.slice ay ys.length ky) ∧ Vals w1 ay ys.length (ys.map (Value.int .i64)) := fun w1 h => let ⟨ay, ky, hb, _, hv, _⟩ := h.y; ⟨ay, ky, (two_cells hb (Below.refl _ _)).1, hv⟩
                    go_wp2_with (go_at_call 14; (with_reducible refine d1.mono ?_); clear d1; rintro e w3 ⟨a3, k3, rfl, hv3, hh3⟩; have HV3 := hid hv3; have HH3 := hid hh3; obtain ⟨ay, ky, cy, _⟩ := hW _ hh3; clear hv3 hh3)
                    go_loopw [10, 25] (fun s u wr => ∃ j : Nat, s = .bool true ∧ u = .int .i64 j ∧ j ≤ ys.length ∧ Play ⟨b1, c1, b2, c2, g, g', N, M⟩ w xs [] xs ys wr ∧ Vals wr a3 ys.length (ys.map (Value.int .i64)))
                      (fun _ u _ => ys.length - (intOf u).toNat)
                    case atStart => exact ⟨0, by simp, rfl, Nat.zero_le _, HH3.out, HV3.out⟩
                    case round =>
                      clear HH3 HV3 cy hk0 hk1 HT
                      obtain ⟨j, rfl, rfl, hj, hh, hv3⟩ := hrel
                      obtain ⟨ay, ky, cy, hvy⟩ := hW _ hh
                      clear hW
                      by_cases hlj : j < ys.length
                      · obtain ⟨ga, oa, rfl, _, ca⟩ := hv3.at hlj
                        obtain ⟨gb, ob, rfl, _, cb⟩ := hvy.at hlj
                        have hx : (ys.map (Value.int .i64))[j]? = some (.int .i64 (ys[j]'hlj)) := by rw [List.getElem?_map, List.getElem?_eq_getElem hlj]; rfl
                        have ca1 := ca j _ hx
                        have cb1 := cb j _ hx
                        have hji : (j : Int) < (ys.length : Int) := by omega
                        have HH := hid hh
                        have HVV := hid hv3
                        clear hh hv3 hvy ca cb hx
                        generalize (ys[j]'hlj) = V at *
                        go_wp2
                        go_quiet (fail)
                        go_wp2
                        exact ⟨⟨j + 1, by simp, by go_num, by omega, HH.out.drewN _, HVV.out.drewN _⟩, by simp [intOf]; omega⟩
                      · obtain rfl : j = ys.length := by omega
                        obtain ⟨_, _, hby2, _, _, _⟩ := hh.y
                        have f0 := hby2.frozen 0
                        have hS := (But.refl wr.heap.size g' wr).setCell 0 (.slice none 0 0)
                        have hR : RefAt g' M [] (wr.setCell ⟨g', 0, none⟩ (.slice none 0 0)) := ⟨none, 0, hby2.setCell 0 _, Nat.le_refl _, Vals.nil, fun x hx => by cases hx⟩
                        have H2 := hid (hh.turnY HOk.out rfl hR hS)
                        have g1 := (two_cells hby2 (Below.refl _ _)).2
                        obtain ⟨_, _, hbx2, _, _, _⟩ := hh.x
                        have g2 := (two_cells hbx2 (Below.refl _ _)).1
                        have g3 := (two_cells hbx2 (Below.refl _ _)).2
                        clear hR hS hby2 hbx2 hh hv3 hvy
                        obtain ⟨ax, kx, hbx, _, _, _⟩ := H2.out.x
                        obtain ⟨ay, ky, hby, _, _, _⟩ := H2.out.y
                        have tx := two_cells hbx (Below.refl _ _)
                        have ty := two_cells hby (Below.refl _ _)
                        have cLA : ∀ m, Calls Try.prog 15 #[.pointer (some ⟨b1, 0, none⟩)] ((wr.setCell ⟨g', 0, none⟩ (.slice none 0 0)).drewN m) (Quiet (.int .i64 ((xs).length : Int)) ((wr.setCell ⟨g', 0, none⟩ (.slice none 0 0)).drewN m)) := fun m => quiet_of_same (by have := len_any b1 c1 N _ _ (H2.out.drewN m).a; simpa using this)
                        have cLB : ∀ m, Calls Try.prog 15 #[.pointer (some ⟨b2, 0, none⟩)] ((wr.setCell ⟨g', 0, none⟩ (.slice none 0 0)).drewN m) (Quiet (.int .i64 ((([] : List Int)).length : Int)) ((wr.setCell ⟨g', 0, none⟩ (.slice none 0 0)).drewN m)) := fun m => quiet_of_same (by have := len_any b2 c2 M _ _ (H2.out.drewN m).b; simpa using this)
                        have cRA : ∀ m, Calls Try.prog 16 #[.pointer (some ⟨b1, 0, none⟩)] ((wr.setCell ⟨g', 0, none⟩ (.slice none 0 0)).drewN m) (Quiet (.int .i64 (N : Int)) ((wr.setCell ⟨g', 0, none⟩ (.slice none 0 0)).drewN m)) := fun m => quiet_of_same (room_any b1 c1 N _ _ (H2.out.drewN m).a)
                        have cRB : ∀ m, Calls Try.prog 16 #[.pointer (some ⟨b2, 0, none⟩)] ((wr.setCell ⟨g', 0, none⟩ (.slice none 0 0)).drewN m) (Quiet (.int .i64 (M : Int)) ((wr.setCell ⟨g', 0, none⟩ (.slice none 0 0)).drewN m)) := fun m => quiet_of_same (room_any b2 c2 M _ _ (H2.out.drewN m).b)
                        obtain ⟨tx0, tx1⟩ := tx
                        obtain ⟨ty0, ty1⟩ := ty
                        clear hbx hby
                        go_wp2
                        go_quiet (first
                          | (go_at_call 15; (with_reducible exact quietAt (cLA _)))
                          | (go_at_call 15; (with_reducible exact quietAt (cLB _)))
                          | (go_at_call 16; (with_reducible exact quietAt (cRA _)))
                          | (go_at_call 16; (with_reducible exact quietAt (cRB _))))
                        go_wp2
                        exact ⟨⟨k + 1, xs, ([] : List Int), by go_num, by omega, hxs, (Nat.zero_le _), H2.out.drewN _⟩, by simp [intOf]; omega⟩
      · obtain rfl : k = l.length := by omega
        have Hb := hid hP.below
        clear hP HV hk
        go_wp2_with (go_at_call 6; (with_reducible refine (awake_any _).mono ?_); rintro e w11 ⟨rfl, hb11⟩)
        go_ret
        exact ⟨rfl, Hb.out.trans (hb11.mono Hb.out.size)⟩
      end Go.Proofs.Ytmekglkiiannfaa.boxPlays
