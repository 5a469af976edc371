/- The law ItemByKey, walked. No condition: a right list has at most 2^32 items. -/
import Derived.Test.YtccaibdklgkgeaaItemAwake
import Derived.Test.YtccaibdklgkgeaaItemRight
import Derived.Test.YtccaibdklgkgeaaItemRefRight
import Derived.Test.YtccaibdklgkgeaaItemFind
import Derived.Test.YtccaibdklgkgeaaItemCut
namespace Go.Proofs.Ytccaibdklgkgeaa.itemByKey
open Go.RowKit Go.Proofs.Ytccaibdklgkgeaa.item
set_option linter.unusedVariables false

theorem boxes (x : It) (w : World) : ∃ W0, Hid ((w.alloc (.cells #[.int .u32 (x.key : Nat), .string x.data] 37)) = W0) ∧ Below w.heap.size w W0 ∧ Hid (∀ w', Below W0.heap.size W0 w' → Block w' w.heap.size 37 [.int .u32 (x.key : Nat), .string x.data] ∧ Below w.heap.size w w') := by
  have hw := newB w (.cells #[.int .u32 (x.key : Nat), .string x.data] 37)
  exact ⟨_, hid rfl, hw, hid (fun w' hb => ⟨(Block.new w _ _).later hb, hw.trans (hb.mono hw.size)⟩)⟩
theorem finds {P : List It} {k : Nat} {o : Option It} {D : ByteArray} {u : Bool} (hP : P.length ≤ maxLen) (hf : find k P = o) (hD : data o = D) (hu : o.isSome = u) (a : Option Addr) (c : Nat) (w : World) (h : Its w a P) :
    Calls Try.prog 14 #[.slice a P.length c, .int .u32 (k : Int)] w fun e w' => e = .returned (.tuple #[.string D, .bool u]) ∧ Below w.heap.size w w' := by
  have := find_any a c P k w h hP
  unfold Finds at this
  rw [hf, hD, hu] at this
  exact this
theorem rights {P : List It} (hP : P.length ≤ maxLen) (hr : Right P) (a : Option Addr) (c : Nat) (w : World) (h : Its w a P) :
    Calls Try.prog 19 #[.slice a P.length c] w fun e w' => e = .returned (.bool true) ∧ Below w.heap.size w w' := by
  have := right_any a c P w h hP
  rw [decide_eq_true hr] at this
  exact this
set_option maxRecDepth 20000 in
set_option maxHeartbeats 1600000 in
theorem walk_no (la : Option Addr) (lc : Nat) (L : List It) (x : It) (k : Nat) (w : World) (hl : Its w la L) (hL : L.length ≤ maxLen) (hn : ¬ (Right L ∧ x.data.size ≤ 64)) :
    Calls Try.prog 5 #[.slice la L.length lc, .agg #[.int .u32 (x.key : Nat), .string x.data], .int .u32 (k : Int)] w (Yes w) := by
  obtain ⟨W0, HW0, hw, HX⟩ := boxes x w
  have hl0 := hl.below hw
  have cR := refRight_any la lc L W0 hl0 hL
  have cA := fun w' => awake_any w'
  unfold Yes at cA ⊢
  unfold Gives at cR
  rw [← HW0.out] at cR
  by_cases hr : Right L
  · rw [decide_eq_true hr] at cR
    have h64 : ¬ x.data.size ≤ 64 := fun h => hn ⟨hr, h⟩
    have d1 : decide (64 < (x.data.size : Int)) = true := decide_eq_true (by omega)
    clear h64
    clear hl hw hl0 hr hL hn
    go_enter Try.func5, Try.ntmps5
    go_wp2_with (first
      | (go_at_call 20; ((with_reducible refine cR.mono ?_); clear cR; rintro e w1 ⟨rfl, hb1⟩; rw [HW0.out] at hb1; obtain ⟨k0, kb⟩ := HX.out _ hb1; have z0 := k0.cell 0; have z1 := k0.cell 1; clear k0 kb))
      | (go_at_call 11; ((with_reducible refine (cA _).mono ?_); rintro e w9 ⟨rfl, hb9⟩)))
    go_ret
    exact ⟨rfl, (HX.out _ (hb1.trans (hb9.mono hb1.size))).2⟩
  · rw [decide_eq_false hr] at cR
    clear hl hw hl0 hr hL hn
    go_enter Try.func5, Try.ntmps5
    go_wp2_with (first
      | (go_at_call 20; ((with_reducible refine cR.mono ?_); clear cR; rintro e w1 ⟨rfl, hb1⟩; rw [HW0.out] at hb1; obtain ⟨k0, kb⟩ := HX.out _ hb1; have z0 := k0.cell 0; have z1 := k0.cell 1; clear k0 kb))
      | (go_at_call 11; ((with_reducible refine (cA _).mono ?_); rintro e w9 ⟨rfl, hb9⟩)))
    go_ret
    exact ⟨rfl, (HX.out _ (hb1.trans (hb9.mono hb1.size))).2⟩
set_option maxRecDepth 20000 in
set_option maxHeartbeats 1600000 in
theorem walk_same (la : Option Addr) (lc : Nat) (L P C : List It) (x : It) (k : Nat) (D : ByteArray) (t : Bool) (w : World) (hl : Its w la L) (hL : L.length ≤ 4294967296) (hr : Right L) (hs : x.data.size ≤ 64) (hP : item.put L x = P) (hC : cut L x.key = C)
    (ht : decide (C.length < L.length) = t) (rP : Right P) (rC : Right C) (hq : ((C.length : Int) == (L.length : Int) - 1) = t) (hp : P.length = C.length + 1) (hk : (k == x.key) = true)
    (fL : ∀ a c w, Its w a L → Calls Try.prog 14 #[.slice a L.length c, .int .u32 (k : Int)] w fun e w' => e = .returned (.tuple #[.string D, .bool t]) ∧ Below w.heap.size w w')
    (fP : ∀ a c w, Its w a P → Calls Try.prog 14 #[.slice a P.length c, .int .u32 (k : Int)] w fun e w' => e = .returned (.tuple #[.string x.data, .bool true]) ∧ Below w.heap.size w w')
    (fC : ∀ a c w, Its w a C → Calls Try.prog 14 #[.slice a C.length c, .int .u32 (k : Int)] w fun e w' => e = .returned (.tuple #[.string ⟨#[]⟩, .bool false]) ∧ Below w.heap.size w w') :
    Calls Try.prog 5 #[.slice la L.length lc, .agg #[.int .u32 (x.key : Nat), .string x.data], .int .u32 (k : Int)] w (Yes w) := by
  obtain ⟨W0, HW0, hw, HX⟩ := boxes x w
  have hl0 := hl.below hw
  have hCL := cut_le L x.key
  rw [hC] at hCL
  have cR := refRight_any la lc L W0 hl0 (by unfold maxLen; omega)
  rw [decide_eq_true hr] at cR
  have cP := fun w' (hb : Below W0.heap.size W0 w') => put_any la lc L x w' (hl0.below hb) hL
  have cC := fun w' (hb : Below W0.heap.size W0 w') => cut_any la lc L x.key w' (hl0.below hb) hL
  rw [hP] at cP
  rw [hC, ht] at cC
  have HL := hid (fun w' (hb : Below W0.heap.size W0 w') => hl0.below hb)
  have gP := rights (P := P) (by unfold maxLen; omega) rP
  have gC := rights (P := C) (by unfold maxLen; omega) rC
  have cA := fun w' => awake_any w'
  unfold Yes at cA ⊢
  unfold Gives at cR
  rw [← HW0.out] at cR
  have d1 : decide (64 < (x.data.size : Int)) = false := decide_eq_false (by omega)
  have d2 : ((P.length : Int) == (C.length : Int) + 1) = true := by rw [beq_iff_eq]; omega
  have d2' : ((P.length : Int) != (C.length : Int) + 1) = false := by rw [bne, d2]; rfl
  have d3 : ((k : Int) == (x.key : Int)) = true := by rw [← hk, Bool.eq_iff_iff, beq_iff_eq, beq_iff_eq]; omega
  have i1 : (L.length : Int) ≤ 4294967296 := by omega
  have i2 : (C.length : Int) ≤ 4294967296 := by omega
  clear hl hw hl0 hr hL hs hP hC ht rP rC hp hCL
  go_enter Try.func5, Try.ntmps5
  go_wp2_with (first
    | (go_at_call 20; ((with_reducible refine cR.mono ?_); clear cR; rintro e w1 ⟨rfl, hb1⟩; rw [HW0.out] at hb1; obtain ⟨k0, kb⟩ := HX.out _ hb1; have z0 := k0.cell 0; have z1 := k0.cell 1; clear k0 kb))
    | (go_at_call 22; ((with_reducible refine (cP _ hb1).mono ?_); clear cP; rintro e w2 ⟨pa, pc, rfl, ho, hb2⟩; have hB2 := hb1.trans (hb2.mono hb1.size); have HP2 := hid (own_its ho).1; clear ho z0 z1; obtain ⟨k0, kb⟩ := HX.out _ hB2; have z0 := k0.cell 0; have z1 := k0.cell 1; clear k0 kb))
    | (go_at_call 16; ((with_reducible refine (cC _ hB2).mono ?_); clear cC; rintro e w3 ⟨ca, cc, rfl, ho, hb3⟩; have hB3 := hB2.trans (hb3.mono hB2.size); have HP3 := hid (HP2.out.below hb3); have HC3 := hid (own_its ho).1; have hh := HL.out _ hB3; clear ho z0 z1; obtain ⟨k0, kb⟩ := HX.out _ hB3; have z0 := k0.cell 0; have z1 := k0.cell 1; clear k0 kb))
    | (go_at_call 14; ((with_reducible refine (fL la lc _ hh).mono ?_); clear fL hh; rintro e w4 ⟨rfl, hb4⟩; have hB4 := hB3.trans (hb4.mono hB3.size); have HC4 := hid (HC3.out.below hb4); have hh4 := HP3.out.below hb4; have HP4 := hid hh4; clear z0 z1; obtain ⟨k0, kb⟩ := HX.out _ hB4; have z0 := k0.cell 0; have z1 := k0.cell 1; clear k0 kb))
    | (go_at_call 14; ((with_reducible refine (fP pa pc _ hh4).mono ?_); clear fP hh4; rintro e w5 ⟨rfl, hb5⟩; have hB5 := hB4.trans (hb5.mono hB4.size); have HP5 := hid (HP4.out.below hb5); have hh5 := HC4.out.below hb5; have HC5 := hid hh5; clear z0 z1; obtain ⟨k0, kb⟩ := HX.out _ hB5; have z0 := k0.cell 0; have z1 := k0.cell 1; clear k0 kb))
    | (go_at_call 14; ((with_reducible refine (fC ca cc _ hh5).mono ?_); clear fC hh5; rintro e w6 ⟨rfl, hb6⟩; have hB6 := hB5.trans (hb6.mono hB5.size); have HC6 := hid (HC5.out.below hb6); have hh6 := HP5.out.below hb6; clear z0 z1; obtain ⟨k0, kb⟩ := HX.out _ hB6; have z0 := k0.cell 0; have z1 := k0.cell 1; clear k0 kb))
    | (go_at_call 19; ((with_reducible refine (gP pa pc _ hh6).mono ?_); clear gP hh6; rintro e w7 ⟨rfl, hb7⟩; have hB7 := hB6.trans (hb7.mono hB6.size); have hh7 := HC6.out.below hb7; clear z0 z1; obtain ⟨k0, kb⟩ := HX.out _ hB7; have z0 := k0.cell 0; have z1 := k0.cell 1; clear k0 kb))
    | (go_at_call 19; ((with_reducible refine (gC ca cc _ hh7).mono ?_); clear gC hh7; rintro e w8 ⟨rfl, hb8⟩; have hB8 := hB7.trans (hb8.mono hB7.size); clear z0 z1; obtain ⟨k0, kb⟩ := HX.out _ hB8; have z0 := k0.cell 0; have z1 := k0.cell 1; clear k0 kb))
    | (go_at_call 11; ((with_reducible refine (cA _).mono ?_); rintro e w9 ⟨rfl, hb9⟩)))
  go_ret
  exact ⟨rfl, (HX.out _ (hB8.trans (hb9.mono hB8.size))).2⟩
set_option maxRecDepth 20000 in
set_option maxHeartbeats 1600000 in
theorem walk_other (la : Option Addr) (lc : Nat) (L P C : List It) (x : It) (k : Nat) (D : ByteArray) (u t : Bool) (w : World) (hl : Its w la L) (hL : L.length ≤ 4294967296) (hr : Right L) (hs : x.data.size ≤ 64) (hP : item.put L x = P) (hC : cut L x.key = C)
    (ht : decide (C.length < L.length) = t) (rP : Right P) (rC : Right C) (hq : ((C.length : Int) == (L.length : Int) - 1) = t) (hp : P.length = C.length + 1) (hk : (k == x.key) = false)
    (fL : ∀ a c w, Its w a L → Calls Try.prog 14 #[.slice a L.length c, .int .u32 (k : Int)] w fun e w' => e = .returned (.tuple #[.string D, .bool u]) ∧ Below w.heap.size w w')
    (fP : ∀ a c w, Its w a P → Calls Try.prog 14 #[.slice a P.length c, .int .u32 (k : Int)] w fun e w' => e = .returned (.tuple #[.string D, .bool u]) ∧ Below w.heap.size w w')
    (fC : ∀ a c w, Its w a C → Calls Try.prog 14 #[.slice a C.length c, .int .u32 (k : Int)] w fun e w' => e = .returned (.tuple #[.string D, .bool u]) ∧ Below w.heap.size w w') :
    Calls Try.prog 5 #[.slice la L.length lc, .agg #[.int .u32 (x.key : Nat), .string x.data], .int .u32 (k : Int)] w (Yes w) := by
  obtain ⟨W0, HW0, hw, HX⟩ := boxes x w
  have hl0 := hl.below hw
  have hCL := cut_le L x.key
  rw [hC] at hCL
  have cR := refRight_any la lc L W0 hl0 (by unfold maxLen; omega)
  rw [decide_eq_true hr] at cR
  have cP := fun w' (hb : Below W0.heap.size W0 w') => put_any la lc L x w' (hl0.below hb) hL
  have cC := fun w' (hb : Below W0.heap.size W0 w') => cut_any la lc L x.key w' (hl0.below hb) hL
  rw [hP] at cP
  rw [hC, ht] at cC
  have HL := hid (fun w' (hb : Below W0.heap.size W0 w') => hl0.below hb)
  have gP := rights (P := P) (by unfold maxLen; omega) rP
  have gC := rights (P := C) (by unfold maxLen; omega) rC
  have cA := fun w' => awake_any w'
  unfold Yes at cA ⊢
  unfold Gives at cR
  rw [← HW0.out] at cR
  have d1 : decide (64 < (x.data.size : Int)) = false := decide_eq_false (by omega)
  have d2 : ((P.length : Int) == (C.length : Int) + 1) = true := by rw [beq_iff_eq]; omega
  have d2' : ((P.length : Int) != (C.length : Int) + 1) = false := by rw [bne, d2]; rfl
  have d3 : ((k : Int) == (x.key : Int)) = false := by rw [← hk, Bool.eq_iff_iff, beq_iff_eq, beq_iff_eq]; omega
  have i1 : (L.length : Int) ≤ 4294967296 := by omega
  have i2 : (C.length : Int) ≤ 4294967296 := by omega
  clear hl hw hl0 hr hL hs hP hC ht rP rC hp hCL
  go_enter Try.func5, Try.ntmps5
  go_wp2_with (first
    | (go_at_call 20; ((with_reducible refine cR.mono ?_); clear cR; rintro e w1 ⟨rfl, hb1⟩; rw [HW0.out] at hb1; obtain ⟨k0, kb⟩ := HX.out _ hb1; have z0 := k0.cell 0; have z1 := k0.cell 1; clear k0 kb))
    | (go_at_call 22; ((with_reducible refine (cP _ hb1).mono ?_); clear cP; rintro e w2 ⟨pa, pc, rfl, ho, hb2⟩; have hB2 := hb1.trans (hb2.mono hb1.size); have HP2 := hid (own_its ho).1; clear ho z0 z1; obtain ⟨k0, kb⟩ := HX.out _ hB2; have z0 := k0.cell 0; have z1 := k0.cell 1; clear k0 kb))
    | (go_at_call 16; ((with_reducible refine (cC _ hB2).mono ?_); clear cC; rintro e w3 ⟨ca, cc, rfl, ho, hb3⟩; have hB3 := hB2.trans (hb3.mono hB2.size); have HP3 := hid (HP2.out.below hb3); have HC3 := hid (own_its ho).1; have hh := HL.out _ hB3; clear ho z0 z1; obtain ⟨k0, kb⟩ := HX.out _ hB3; have z0 := k0.cell 0; have z1 := k0.cell 1; clear k0 kb))
    | (go_at_call 14; ((with_reducible refine (fL la lc _ hh).mono ?_); clear fL hh; rintro e w4 ⟨rfl, hb4⟩; have hB4 := hB3.trans (hb4.mono hB3.size); have HC4 := hid (HC3.out.below hb4); have hh4 := HP3.out.below hb4; have HP4 := hid hh4; clear z0 z1; obtain ⟨k0, kb⟩ := HX.out _ hB4; have z0 := k0.cell 0; have z1 := k0.cell 1; clear k0 kb))
    | (go_at_call 14; ((with_reducible refine (fP pa pc _ hh4).mono ?_); clear fP hh4; rintro e w5 ⟨rfl, hb5⟩; have hB5 := hB4.trans (hb5.mono hB4.size); have HP5 := hid (HP4.out.below hb5); have hh5 := HC4.out.below hb5; have HC5 := hid hh5; clear z0 z1; obtain ⟨k0, kb⟩ := HX.out _ hB5; have z0 := k0.cell 0; have z1 := k0.cell 1; clear k0 kb))
    | (go_at_call 14; ((with_reducible refine (fC ca cc _ hh5).mono ?_); clear fC hh5; rintro e w6 ⟨rfl, hb6⟩; have hB6 := hB5.trans (hb6.mono hB5.size); have HC6 := hid (HC5.out.below hb6); have hh6 := HP5.out.below hb6; clear z0 z1; obtain ⟨k0, kb⟩ := HX.out _ hB6; have z0 := k0.cell 0; have z1 := k0.cell 1; clear k0 kb))
    | (go_at_call 19; ((with_reducible refine (gP pa pc _ hh6).mono ?_); clear gP hh6; rintro e w7 ⟨rfl, hb7⟩; have hB7 := hB6.trans (hb7.mono hB6.size); have hh7 := HC6.out.below hb7; clear z0 z1; obtain ⟨k0, kb⟩ := HX.out _ hB7; have z0 := k0.cell 0; have z1 := k0.cell 1; clear k0 kb))
    | (go_at_call 19; ((with_reducible refine (gC ca cc _ hh7).mono ?_); clear gC hh7; rintro e w8 ⟨rfl, hb8⟩; have hB8 := hB7.trans (hb8.mono hB7.size); clear z0 z1; obtain ⟨k0, kb⟩ := HX.out _ hB8; have z0 := k0.cell 0; have z1 := k0.cell 1; clear k0 kb))
    | (go_at_call 11; ((with_reducible refine (cA _).mono ?_); rintro e w9 ⟨rfl, hb9⟩)))
  go_ret
  exact ⟨rfl, (HX.out _ (hB8.trans (hb9.mono hB8.size))).2⟩
theorem walk (la : Option Addr) (lc : Nat) (L : List It) (x : It) (k : Nat) (w : World) (hl : Its w la L) (hgl : ∀ p ∈ L, p.Good w) (hll : L.length ≤ lc) (hml : lc ≤ maxLen) (hx : x.Good w) (hk : k < 4294967296) :
    Calls Try.prog 5 #[.slice la L.length lc, x.val, .int .u32 (k : Int)] w (Yes w) := by
  by_cases hr : Right L ∧ x.data.size ≤ 64
  · obtain ⟨h1, h2, h3, h4, h5⟩ := by_key k hr.1 hr.2
    have hl32 := right_len hr.1 (fun p hp => (hgl p hp).bkey)
    have hlp := put_length L x
    have hlc := cut_le L x.key
    have m1 : L.length ≤ maxLen := by unfold maxLen; omega
    have m2 : (item.put L x).length ≤ maxLen := by unfold maxLen; omega
    have m3 : (cut L x.key).length ≤ maxLen := by unfold maxLen; omega
    have hq : (((cut L x.key).length : Int) == (L.length : Int) - 1) = decide ((cut L x.key).length < L.length) := by rw [h3, Bool.eq_iff_iff, beq_iff_eq, decide_eq_true_eq]
    by_cases hkx : k = x.key
    · rw [if_pos hkx] at h5
      exact walk_same la lc L _ _ x k _ _ w hl hl32 hr.1 hr.2 rfl rfl rfl h1 h2 hq h4 (by rw [beq_iff_eq]; exact hkx) (finds m1 rfl rfl h5.2.2) (finds m2 h5.1 rfl rfl) (finds m3 h5.2.1 rfl rfl)
    · rw [if_neg hkx] at h5
      exact walk_other la lc L _ _ x k _ _ _ w hl hl32 hr.1 hr.2 rfl rfl rfl h1 h2 hq h4 (by rw [beq_eq_false_iff_ne]; exact hkx) (finds m1 rfl rfl rfl) (finds m2 h5.1 rfl rfl) (finds m3 h5.2 rfl rfl)
  · exact walk_no la lc L x k w hl (Nat.le_trans hll hml) hr
end Go.Proofs.Ytccaibdklgkgeaa.itemByKey
