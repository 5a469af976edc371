/- The law ItemKeys, walked. No condition. -/
import Derived.Test.YtccaibdklgkgeaaItemAwake
import Derived.Test.YtccaibdklgkgeaaItemRefKeys
import Derived.Test.YtccaibdklgkgeaaItemRefTold
namespace Go.Proofs.Ytccaibdklgkgeaa.itemKeys
open Go.RowKit Go.Proofs.Ytccaibdklgkgeaa.item
set_option linter.unusedVariables false

theorem boxes (x y z : Int) (w : World) : ∃ W0, Hid ((w.alloc (.cells #[.int .i64 x, .int .i64 y, .int .i64 z] 22)) = W0) ∧ Below w.heap.size w W0 ∧ Hid (∀ w', Below W0.heap.size W0 w' → w'.cell? ⟨w.heap.size, 0, none⟩ = some (.int .i64 x) ∧ w'.cell? ⟨w.heap.size, 1, none⟩ = some (.int .i64 y) ∧ w'.cell? ⟨w.heap.size, 2, none⟩ = some (.int .i64 z) ∧ Below w.heap.size w w') := by
  have hw := newB w (.cells #[.int .i64 x, .int .i64 y, .int .i64 z] 22)
  exact ⟨_, hid rfl, hw, hid (fun w' hb => by
    have hB := (Block.new w 22 [.int .i64 x, .int .i64 y, .int .i64 z]).later hb
    exact ⟨hB.cell 0, hB.cell 1, hB.cell 2, hw.trans (hb.mono hw.size)⟩)⟩
def K3 (k : Nat) (a b c : Int) : Prop := ((k / 16777216 : Nat) - 1 : Int) = a ∧ ((k % 16777216 / 65536 : Nat) : Int) = b ∧ ((k % 65536 : Nat) : Int) = c
theorem told_k' (k : Nat) (hk : k < 4294967296) : ∃ a b c : Int, Hid (∀ w, Calls Try.prog 8 #[.int .u32 (k : Int)] w fun e w' => e = .returned (.tuple #[.int .i64 a, .int .i64 b, .int .i64 c]) ∧ Below w.heap.size w w') ∧
    Hid (∀ w, Calls Try.prog 9 #[.int .u32 (k : Int)] w fun e w' => e = .returned (.tuple #[.int .i64 a, .int .i64 b, .int .i64 c]) ∧ Below w.heap.size w w') :=
  ⟨_, _, _, hid (fun w => told_any k w hk), hid (fun w => refTold_any k w hk)⟩
set_option maxRecDepth 20000 in
set_option maxHeartbeats 1600000 in
theorem walk_no (x y z : Int) (k : Nat) (hk : k < 4294967296) (w : World) (hf : ¬ fits y z) : Calls Try.prog 3 #[.agg #[.int .i64 x, .int .i64 y, .int .i64 z], .int .u32 (k : Int)] w (Yes w) := by
  obtain ⟨W0, HW0, hw, HX⟩ := boxes x y z w
  obtain ⟨t1, t2, t3, HT, HR⟩ := told_k' k hk
  have cM := main_no y z W0 hf
  have cS := fun w' => side_no x y z w' (fun h => hf h.1)
  have cF := fun w' => refFits_any y z w'
  rw [decide_eq_false hf] at cF
  have cA := fun w' => awake_any w'
  unfold Yes at cA ⊢
  unfold Gives noKey at cM cS
  unfold Gives at cF
  rw [← HW0.out] at cM
  clear hk hf hw
  go_enter Try.func3, Try.ntmps3
  go_wp2_with (first
    | (go_at_call 6; ((with_reducible refine cM.mono ?_); clear cM; rintro e w1 ⟨rfl, hb1⟩; rw [HW0.out] at hb1; obtain ⟨z0, z1, z2, kb⟩ := HX.out _ hb1; clear kb))
    | (go_at_call 7; ((with_reducible refine (cS _).mono ?_); rintro e w2 ⟨rfl, hb2⟩; have hB2 := hb1.trans (hb2.mono hb1.size); clear z0 z1 z2; obtain ⟨z0, z1, z2, kb⟩ := HX.out _ hB2; clear kb))
    | (go_at_call 8; ((with_reducible refine (HT.out _).mono ?_); rintro e w3 ⟨rfl, hb3⟩; have hB3 := hB2.trans (hb3.mono hB2.size)))
    | (go_at_call 9; ((with_reducible refine (HR.out _).mono ?_); rintro e w4 ⟨rfl, hb4⟩; have hB4 := hB3.trans (hb4.mono hB3.size); clear z0 z1 z2; obtain ⟨z0, z1, z2, kb⟩ := HX.out _ hB4; clear kb))
    | (go_at_call 10; ((with_reducible refine (cF _).mono ?_); rintro e w5 ⟨rfl, hb5⟩; have hB5 := hB4.trans (hb5.mono hB4.size)))
    | (go_at_call 11; ((with_reducible refine (cA _).mono ?_); rintro e w9 ⟨rfl, hb9⟩)))
  go_ret
  exact ⟨rfl, (HX.out _ (hB5.trans (hb9.mono hB5.size))).2.2.2⟩
set_option maxRecDepth 20000 in
set_option maxHeartbeats 1600000 in
theorem walk_main (x : Int) (f i k : Nat) (hk : k < 4294967296) (w : World) (hf : f ≤ 200) (hi : i ≤ 65535) (hx : ¬ (0 ≤ x ∧ x ≤ 199)) : Calls Try.prog 3 #[.agg #[.int .i64 x, .int .i64 (f : Int), .int .i64 (i : Int)], .int .u32 (k : Int)] w (Yes w) := by
  obtain ⟨W0, HW0, hw, HX⟩ := boxes x f i w
  obtain ⟨t1, t2, t3, HT, HR⟩ := told_k' k hk
  have cM := main_yes f i W0 hf hi
  have cS := fun w' => side_no x f i w' (fun h => hx h.2)
  have cF := fun w' => refFits_any f i w'
  rw [decide_eq_true (show fits f i from ⟨by omega, by omega, by omega, by omega⟩)] at cF
  have cN := fun w' => told_main f i w' hf hi
  have cRM := fun w' => refMain_any f i w' hf hi
  have cA := fun w' => awake_any w'
  obtain ⟨m, hm⟩ : ∃ m : Nat, f * 65536 + i = m := ⟨_, rfl⟩
  rw [hm] at cM cN cRM
  unfold Yes at cA ⊢
  unfold Gives noKey at cS
  unfold Gives key at cM
  unfold Gives at cF cRM
  rw [← HW0.out] at cM
  have hd : (decide (x < 0) || decide (199 < x)) = true := by simp; omega
  obtain ⟨d1, h1⟩ : ∃ d : Bool, decide (x < 0) = d := ⟨_, rfl⟩
  obtain ⟨d2, h2⟩ : ∃ d : Bool, decide (199 < x) = d := ⟨_, rfl⟩
  rw [h1, h2] at hd
  have hcase : (d1 = true) ∨ (d1 = false ∧ d2 = true) := by cases d1 <;> simp_all
  clear hk hf hi hw hm hx hd
  rcases hcase with rfl | ⟨rfl, rfl⟩
  all_goals
    go_enter Try.func3, Try.ntmps3
    go_wp2_with (first
      | (go_at_call 6; ((with_reducible refine cM.mono ?_); clear cM; rintro e w1 ⟨rfl, hb1⟩; rw [HW0.out] at hb1; obtain ⟨z0, z1, z2, kb⟩ := HX.out _ hb1; clear kb))
      | (go_at_call 7; ((with_reducible refine (cS _).mono ?_); clear cS; rintro e w2 ⟨rfl, hb2⟩; have hB2 := hb1.trans (hb2.mono hb1.size); clear z0 z1 z2; obtain ⟨z0, z1, z2, kb⟩ := HX.out _ hB2; clear kb))
      | (go_at_call 8; ((with_reducible refine (HT.out _).mono ?_); clear HT; rintro e w3 ⟨rfl, hb3⟩; have hB3 := hB2.trans (hb3.mono hB2.size)))
      | (go_at_call 9; ((with_reducible refine (HR.out _).mono ?_); rintro e w4 ⟨rfl, hb4⟩; have hB4 := hB3.trans (hb4.mono hB3.size); clear z0 z1 z2; obtain ⟨z0, z1, z2, kb⟩ := HX.out _ hB4; clear kb))
      | (go_at_call 10; ((with_reducible refine (cF _).mono ?_); rintro e w5 ⟨rfl, hb5⟩; have hB5 := hB4.trans (hb5.mono hB4.size)))
      | (go_at_call 8; ((with_reducible refine (cN _).mono ?_); rintro e w6 ⟨rfl, hb6⟩; have hB6 := hB5.trans (hb6.mono hB5.size); clear z0 z1 z2; obtain ⟨z0, z1, z2, kb⟩ := HX.out _ hB6; clear kb))
      | (go_at_call 12; ((with_reducible refine (cRM _).mono ?_); rintro e w7 ⟨rfl, hb7⟩; have hB7 := hB6.trans (hb7.mono hB6.size); clear z0 z1 z2; obtain ⟨z0, z1, z2, kb⟩ := HX.out _ hB7; clear kb))
      | (go_at_call 11; ((with_reducible refine (cA _).mono ?_); rintro e w9 ⟨rfl, hb9⟩)))
    go_ret
    exact ⟨rfl, (HX.out _ (hB7.trans (hb9.mono hB7.size))).2.2.2⟩
set_option maxRecDepth 20000 in
set_option maxHeartbeats 1600000 in
theorem walk_side (n f i k : Nat) (hk : k < 4294967296) (w : World) (hn : n ≤ 199) (hf : f ≤ 200) (hi : i ≤ 65535) : Calls Try.prog 3 #[.agg #[.int .i64 (n : Int), .int .i64 (f : Int), .int .i64 (i : Int)], .int .u32 (k : Int)] w (Yes w) := by
  obtain ⟨W0, HW0, hw, HX⟩ := boxes n f i w
  obtain ⟨t1, t2, t3, HT, HR⟩ := told_k' k hk
  have cM := main_yes f i W0 hf hi
  have cS := fun w' => side_yes n f i w' hn hf hi
  have cF := fun w' => refFits_any f i w'
  rw [decide_eq_true (show fits f i from ⟨by omega, by omega, by omega, by omega⟩)] at cF
  have cN := fun w' => told_main f i w' hf hi
  have cD := fun w' => told_side n f i w' hn hf hi
  have cRM := fun w' => refMain_any f i w' hf hi
  have cRS := fun w' => refSide_any n f i w' hn hf hi
  have cA := fun w' => awake_any w'
  obtain ⟨s, hs⟩ : ∃ s : Nat, (n + 1) * 16777216 + (f * 65536 + i) = s := ⟨_, rfl⟩
  rw [hs] at cD cRS
  have cS : ∀ w', Calls Try.prog 7 #[.int .i64 (n : Int), .int .i64 (f : Int), .int .i64 (i : Int)] w' (Gives (key s) w') := fun w' => by rw [← hs]; exact cS w'
  obtain ⟨m, hm⟩ : ∃ m : Nat, f * 65536 + i = m := ⟨_, rfl⟩
  rw [hm] at cM cN cRM
  unfold Yes at cA ⊢
  unfold Gives key at cM cS
  unfold Gives at cF cRM cRS
  rw [← HW0.out] at cM
  have h2 : decide ((199 : Int) < n) = false := decide_eq_false (by omega)
  have h3 : decide (199 < n) = false := decide_eq_false (by omega)
  clear hk hf hi hw hm hs hn
  go_enter Try.func3, Try.ntmps3
  go_wp2_with (first
    | (go_at_call 6; ((with_reducible refine cM.mono ?_); clear cM; rintro e w1 ⟨rfl, hb1⟩; rw [HW0.out] at hb1; obtain ⟨z0, z1, z2, kb⟩ := HX.out _ hb1; clear kb))
    | (go_at_call 7; ((with_reducible refine (cS _).mono ?_); clear cS; rintro e w2 ⟨rfl, hb2⟩; have hB2 := hb1.trans (hb2.mono hb1.size); clear z0 z1 z2; obtain ⟨z0, z1, z2, kb⟩ := HX.out _ hB2; clear kb))
    | (go_at_call 8; ((with_reducible refine (HT.out _).mono ?_); clear HT; rintro e w3 ⟨rfl, hb3⟩; have hB3 := hB2.trans (hb3.mono hB2.size)))
    | (go_at_call 9; ((with_reducible refine (HR.out _).mono ?_); rintro e w4 ⟨rfl, hb4⟩; have hB4 := hB3.trans (hb4.mono hB3.size); clear z0 z1 z2; obtain ⟨z0, z1, z2, kb⟩ := HX.out _ hB4; clear kb))
    | (go_at_call 10; ((with_reducible refine (cF _).mono ?_); rintro e w5 ⟨rfl, hb5⟩; have hB5 := hB4.trans (hb5.mono hB4.size)))
    | (go_at_call 8; ((with_reducible refine (cN _).mono ?_); clear cN; rintro e w6 ⟨rfl, hb6⟩; have hB6 := hB5.trans (hb6.mono hB5.size); clear z0 z1 z2; obtain ⟨z0, z1, z2, kb⟩ := HX.out _ hB6; clear kb))
    | (go_at_call 12; ((with_reducible refine (cRM _).mono ?_); rintro e w7 ⟨rfl, hb7⟩; have hB7 := hB6.trans (hb7.mono hB6.size); clear z0 z1 z2; obtain ⟨z0, z1, z2, kb⟩ := HX.out _ hB7; clear kb))
    | (go_at_call 8; ((with_reducible refine (cD _).mono ?_); clear cD; rintro e w8 ⟨rfl, hb8⟩; have hB8 := hB7.trans (hb8.mono hB7.size); clear z0 z1 z2; obtain ⟨z0, z1, z2, kb⟩ := HX.out _ hB8; clear kb))
    | (go_at_call 13; ((with_reducible refine (cRS _).mono ?_); rintro e w10 ⟨rfl, hb10⟩; have hB10 := hB8.trans (hb10.mono hB8.size); clear z0 z1 z2; obtain ⟨z0, z1, z2, kb⟩ := HX.out _ hB10; clear kb))
    | (go_at_call 11; ((with_reducible refine (cA _).mono ?_); rintro e w9 ⟨rfl, hb9⟩)))
  go_ret
  exact ⟨rfl, (HX.out _ (hB10.trans (hb9.mono hB10.size))).2.2.2⟩
theorem walk (x y z : Int) (k : Nat) (w : World) (bx : -9223372036854775808 ≤ x ∧ x ≤ 9223372036854775807) (b_y : -9223372036854775808 ≤ y ∧ y ≤ 9223372036854775807) (bz : -9223372036854775808 ≤ z ∧ z ≤ 9223372036854775807) (hk : k < 4294967296) : Calls Try.prog 3 #[.agg #[.int .i64 x, .int .i64 y, .int .i64 z], .int .u32 (k : Int)] w (Yes w) := by
  by_cases hf : fits y z
  · obtain ⟨f, rfl⟩ := Int.eq_ofNat_of_zero_le hf.1
    obtain ⟨i, rfl⟩ := Int.eq_ofNat_of_zero_le hf.2.2.1
    have h1 := hf.2.1
    have h2 := hf.2.2.2
    by_cases hx : 0 ≤ x ∧ x ≤ 199
    · obtain ⟨n, rfl⟩ := Int.eq_ofNat_of_zero_le hx.1
      exact walk_side n f i k hk w (by omega) (by omega) (by omega)
    · exact walk_main x f i k hk w (by omega) (by omega) hx
  · exact walk_no x y z k hk w hf
end Go.Proofs.Ytccaibdklgkgeaa.itemKeys
