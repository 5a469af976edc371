/- Contract of the reference's Read, for every string. No condition. -/
import Derived.Test.YtdlebjogbhgheaaDoorTextsNum
import Derived.Lib.Strings
namespace Go.Proofs.YtdlebjogbhgheaaDoor.texts
open Go.RowKit Go.Lib
set_option linter.unusedVariables false

theorem index_at (l : List UInt8) (k : Nat) (h : k < l.length) (W : World) : (Instr.index 9 (.string (strL l)) (.int .i64 (k : Int))).run Tryd.prog W = .ok (.int .u8 (((l.getD k 0).toNat : Nat) : Int)) W := by
  rw [run_index_string W 9 (strL l) .i64 k Tryd.underlying9, dif_pos ⟨by omega, by rw [strL_size]; omega⟩]
  congr 3
  have : (strL l)[(k : Int).toNat]'(by rw [strL_size]; omega) = l.getD k 0 := by
    rw [List.getD_eq_getElem?_getD, List.getElem?_eq_getElem h]
    rfl
  rw [this]
theorem strL_extract (l : List UInt8) (a b : Nat) : (strL l).extract a b = strL ((l.drop a).take (b - a)) := ByteArray.extract_mk l a b
theorem slice_from (l : List UInt8) (k : Nat) (h : k ≤ l.length) (W : World) : (Instr.slice 9 (.string (strL l)) (some (.int .i64 (k : Int))) none none).run Tryd.prog W = .ok (.string (strL (l.drop k))) W := by
  rw [run_slice_string_from_if W 9 (strL l) .i64 k Tryd.underlying9, if_pos ⟨by omega, by rw [strL_size]; omega⟩, strL_size, strL_extract, Int.toNat_natCast, List.take_of_length_le (by simp)]
theorem slice_to (l : List UInt8) (k : Nat) (h : k ≤ l.length) (W : World) : (Instr.slice 9 (.string (strL l)) none (some (.int .i64 (k : Int))) none).run Tryd.prog W = .ok (.string (strL (l.take k))) W := by
  rw [run_slice_string_to_if W 9 (strL l) .i64 k Tryd.underlying9, if_pos ⟨by omega, by rw [strL_size]; omega⟩, strL_extract, Int.toNat_natCast, List.drop_zero, Nat.sub_zero]
theorem slice_mid (l : List UInt8) (a b : Nat) (hab : a ≤ b) (h : b ≤ l.length) (W : World) : (Instr.slice 9 (.string (strL l)) (some (.int .i64 (a : Int))) (some (.int .i64 (b : Int))) none).run Tryd.prog W = .ok (.string (strL ((l.drop a).take (b - a)))) W := by
  rw [run_slice_string W 9 (strL l) .i64 .i64 a b Tryd.underlying9 (by omega) (by omega) (by rw [strL_size]; omega), Int.toNat_natCast, Int.toNat_natCast, strL_extract]

/-- one digit more, as the reference reckons it -/
def stepI (neg : Bool) (v : Int) (b : UInt8) : Int := if neg then wrap64 (wrap64 (10 * v) - ((b.toNat : Int) - 48)) else wrap64 (wrap64 (10 * v) + ((b.toNat : Int) - 48))
theorem wrap64_fits (x : Int) : Fits (wrap64 x) := by unfold Fits wrap64; omega
theorem wrap64_of (x : Int) (h : Fits x) : wrap64 x = x := by unfold Fits at h; unfold wrap64; omega
theorem stepI_fits (neg : Bool) (v : Int) (b : UInt8) : Fits (stepI neg v b) := by unfold stepI; split <;> exact wrap64_fits _
theorem fold_dec (neg : Bool) (u : Nat) (hu : u ≤ 9223372036854775808) (hp : neg = false → u < 9223372036854775808) : (decDigits u).foldl (stepI neg) 0 = if neg then -(u : Int) else u := by
  have one : ∀ (x : Nat) (v : Int), x < 10 → stepI neg v (UInt8.ofNat (48 + x)) = if neg then wrap64 (wrap64 (10 * v) - x) else wrap64 (wrap64 (10 * v) + x) := fun x v hx => by
    unfold stepI; rw [ofNat_toNat _ (by omega), show ((48 + x : Nat) : Int) - 48 = x from by omega]
  induction u using Nat.strongRecOn with
  | _ u ih =>
    by_cases h : u < 10
    · rw [decDigits_one h]
      simp only [List.foldl_cons, List.foldl_nil]
      rw [one u 0 h]
      cases neg <;> simp <;> unfold wrap64 <;> omega
    · rw [dec_step u h, List.foldl_append, ih (u / 10) (by omega) (by omega) (fun e => by have := hp e; omega)]
      simp only [List.foldl_cons, List.foldl_nil]
      rw [one _ _ (by omega)]
      cases neg
      · have := hp rfl
        simp only [Bool.false_eq_true, if_false]
        rw [wrap64_of (10 * _) (by unfold Fits; omega), wrap64_of _ (by unfold Fits; omega)]
        omega
      · simp only [if_true]
        rw [wrap64_of (10 * _) (by unfold Fits; omega), wrap64_of _ (by unfold Fits; omega)]
        omega
theorem dec_len : ∀ (k u : Nat), u < 10 ^ (k + 1) → (decDigits u).length ≤ k + 1
  | 0, u, h => by rw [decDigits_one (by simpa using h)]; simp
  | k + 1, u, h => by
    by_cases h10 : u < 10
    · rw [decDigits_one h10]; simp
    · rw [dec_step u h10, List.length_append]
      have := dec_len k (u / 10) (by rw [Nat.pow_succ] at h; omega)
      simp only [List.length_cons, List.length_nil]; omega
/-- what the first k digits spell -/
def Acc (neg : Bool) (t : List UInt8) (k : Nat) (v : Int) : Prop := v = (t.take k).foldl (stepI neg) 0 ∧ Fits v
/-- t is what stands behind the sign of the text l -/
def Behind (neg : Bool) (l t : List UInt8) : Prop := ∀ m, Fits m → itoa m = l → ∃ u, t = decDigits u ∧ u ≤ 9223372036854775808 ∧ t.foldl (stepI neg) 0 = m
theorem behind_neg (t : List UInt8) : Behind true (45 :: t) t := by
  intro m hm e
  by_cases hn : m < 0
  · rw [itoa, if_pos hn] at e
    injection e with _ e
    subst e
    have hu : m.natAbs ≤ 9223372036854775808 := by unfold Fits at hm; omega
    refine ⟨_, rfl, hu, ?_⟩
    rw [fold_dec true _ hu (by simp)]; simp; omega
  · rw [itoa, if_neg hn] at e
    have := dec_all m.toNat 45 (by rw [e]; simp)
    exact absurd this (by decide)
theorem behind_pos (t : List UInt8) (h : ∀ r, t ≠ 45 :: r) : Behind false t t := by
  intro m hm e
  by_cases hn : m < 0
  · rw [itoa, if_pos hn] at e
    exact absurd e.symm (h _)
  · rw [itoa, if_neg hn] at e
    subst e
    have hu : m.toNat < 9223372036854775808 := by unfold Fits at hm; omega
    refine ⟨_, rfl, by omega, ?_⟩
    rw [fold_dec false _ (by omega) (fun _ => hu)]; simp; omega
theorem Behind.bad {neg : Bool} {l t : List UInt8} (h : Behind neg l t) {k : Nat} (hk : k < t.length) (hb : ¬ (48 ≤ (t.getD k 0).toNat ∧ (t.getD k 0).toNat ≤ 57)) : NumOf l 0 4 :=
  .inr ⟨rfl, rfl, fun m hm e => by
    obtain ⟨u, rfl, _, _⟩ := h m hm e
    refine hb (dec_all u _ ?_)
    rw [List.getD_eq_getElem?_getD, List.getElem?_eq_getElem hk]
    exact List.getElem_mem hk⟩
theorem Behind.long {neg : Bool} {l t : List UInt8} (h : Behind neg l t) (hb : ¬ (1 ≤ t.length ∧ t.length ≤ 19)) : NumOf l 0 4 :=
  .inr ⟨rfl, rfl, fun m hm e => by
    obtain ⟨u, rfl, hu, _⟩ := h m hm e
    have h1 := dec_len 18 u (by omega)
    have h2 : (decDigits u).length ≠ 0 := fun h0 => dec_ne u (List.eq_nil_of_length_eq_zero h0)
    omega⟩
theorem Behind.end {neg : Bool} {l t : List UInt8} (h : Behind neg l t) (hv : itoa (t.foldl (stepI neg) 0) ≠ l) : NumOf l 0 4 :=
  .inr ⟨rfl, rfl, fun m hm e => by
    obtain ⟨u, _, _, he⟩ := h m hm e
    exact hv (by rw [he]; exact e)⟩

set_option maxRecDepth 20000 in
set_option maxHeartbeats 1000000 in
theorem refRead_neg (t : List UInt8) (hl : t.length ≤ 19) (h0 : 1 ≤ t.length) (w : World) :
    Calls Tryd.prog 8 #[.string (strL (45 :: t))] w fun e w' => ∃ n c, e = .returned (.tuple #[.int .i64 n, .int .i64 c]) ∧ NumOf (45 :: t) n c ∧ Below w.heap.size w w' := by
  have est := strL_toList
  have esz := strL_size
  have hix := index_at (45 :: t) 0 (by simp)
  have hsl := slice_from (45 :: t) 1 (by simp)
  simp only [List.getD_cons_zero, Int.natCast_zero, List.drop_one, List.tail_cons, Int.natCast_one] at hix hsl
  rw [show (((45 : UInt8).toNat : Nat) : Int) = 45 from rfl] at hix
  have HBE := hid (behind_neg t)
  go_enter Tryd.func8, Tryd.ntmps8
  go_wp2
  go_loop [5, 6] (fun n i => ∃ (k : Nat) (v : Int), i = .int .i64 k ∧ n = .int .i64 v ∧ k ≤ t.length ∧ Acc true t k v)
    (fun _ i => t.length - (intOf i).toNat)
  case atStart => exact ⟨0, 0, rfl, rfl, by omega, rfl, by unfold Fits; omega⟩
  case round =>
    obtain ⟨k, v, rfl, rfl, hk, hacc⟩ := hrel
    obtain ⟨hv, hf⟩ := hacc
    have HF := hid hf
    have HV := hid hv
    clear hf hv
    by_cases hlt : k < t.length
    · have ei := index_at t k hlt
      have i1 : (k : Int) < t.length := by omega
      have HB : Hid ((t.getD k 0) = (t.getD k 0)) := rfl
      obtain ⟨b, hb⟩ : ∃ b, Hid ((t.getD k 0).toNat = b) := ⟨_, rfl⟩
      rw [hb.out] at ei
      have HB2 : Hid ((b : Int) < 256) := by have := (t.getD k 0).toNat_lt; have := hb.out; show (b : Int) < 256; omega
      clear HB
      by_cases hd : b < 48
      · have i2 : (b : Int) - 48 < 0 := by omega
        have i3 : (b : Int) < 48 := by omega
        go_wp2
        go_ret2
        exact ⟨_, _, rfl, HBE.out.bad hlt (by rw [hb.out]; omega), Below.refl _ _⟩
      · by_cases hd2 : 57 < b
        · have hb2 := HB2.out
          have i2 : 9 < (b : Int) - 48 := by omega
          have i3 : 48 ≤ (b : Int) := by omega
          go_wp2
          go_ret2
          exact ⟨_, _, rfl, HBE.out.bad hlt (by rw [hb.out]; omega), Below.refl _ _⟩
        · have i2 : (b : Int) - 48 ≤ 9 := by omega
          have i3 : 48 ≤ (b : Int) := by omega
          go_wp2
          have e2 : stepI true v (t.getD k 0) = wrap64 (wrap64 (10 * v) - ((b : Int) - 48)) := by
            unfold stepI; rw [hb.out]; rfl
          refine ⟨⟨k + 1, _, by go_num, by rw [← e2], by omega, ?_, stepI_fits _ _ _⟩, by simp [intOf]; omega⟩
          rw [List.take_add_one, List.getElem?_eq_getElem hlt, List.foldl_append, ← HV.out]
          rw [List.getD_eq_getElem?_getD, List.getElem?_eq_getElem hlt]
          rfl
    · obtain rfl : k = t.length := by omega
      have cd := refDec_any v HF.out.1 HF.out.2 w
      have hv := HV.out
      rw [List.take_length] at hv
      have HV2 := hid hv
      clear hv
      go_wp2_with (go_at_call 10; refine cd.mono ?_; rintro e w2 ⟨rfl, hb2⟩)
      · have hne : itoa v ≠ 45 :: t := by
          have : (!itoa v == 45 :: t) = true := by assumption
          simpa using this
        go_ret2
        exact ⟨_, _, rfl, HBE.out.end (by rw [← HV2.out]; exact hne), hb2⟩
      · have hne : itoa v = 45 :: t := by
          have : (!itoa v == 45 :: t) = false := by assumption
          simpa using this
        go_ret2
        exact ⟨_, _, rfl, .inl ⟨rfl, hne, HF.out⟩, hb2⟩
theorem refRead_neg_long (t : List UInt8) (hl : ¬ (1 ≤ t.length ∧ t.length ≤ 19)) (w : World) :
    Calls Tryd.prog 8 #[.string (strL (45 :: t))] w fun e w' => ∃ n c, e = .returned (.tuple #[.int .i64 n, .int .i64 c]) ∧ NumOf (45 :: t) n c ∧ Below w.heap.size w w' := by
  have est := strL_toList
  have esz := strL_size
  have hix := index_at (45 :: t) 0 (by simp)
  have hsl := slice_from (45 :: t) 1 (by simp)
  simp only [List.getD_cons_zero, Int.natCast_zero, List.drop_one, List.tail_cons, Int.natCast_one] at hix hsl
  rw [show (((45 : UInt8).toNat : Nat) : Int) = 45 from rfl] at hix
  have HBE := hid (behind_neg t)
  go_enter Tryd.func8, Tryd.ntmps8
  by_cases h1 : t.length < 1
  · have i1 : (t.length : Int) < 1 := by omega
    go_wp2
    go_ret2
    exact ⟨_, _, rfl, HBE.out.long hl, Below.refl _ _⟩
  · have i1 : 1 ≤ (t.length : Int) := by omega
    have i2 : 19 < (t.length : Int) := by omega
    go_wp2
    go_ret2
    exact ⟨_, _, rfl, HBE.out.long hl, Below.refl _ _⟩

set_option maxRecDepth 20000 in
set_option maxHeartbeats 1000000 in
theorem refRead_pos (t : List UInt8) (hh : ∀ r, t ≠ 45 :: r) (hl : t.length ≤ 19) (h0 : 1 ≤ t.length) (w : World) :
    Calls Tryd.prog 8 #[.string (strL (t))] w fun e w' => ∃ n c, e = .returned (.tuple #[.int .i64 n, .int .i64 c]) ∧ NumOf (t) n c ∧ Below w.heap.size w w' := by
  have est := strL_toList
  have esz := strL_size
  have hix := index_at t 0 (by omega)
  have hq : (t.getD 0 0).toNat ≠ 45 := by
    cases t with
    | nil => simp
    | cons c r => intro e; exact hh r (by rw [show c = 45 from UInt8.toNat_inj.1 e])
  have hq2 : ((((t.getD 0 0).toNat : Nat) : Int) == 45) = false := by rw [beq_eq_false_iff_ne]; omega
  simp only [Int.natCast_zero] at hix
  obtain ⟨c, hc⟩ : ∃ c, Hid ((t.getD 0 0).toNat = c) := ⟨_, rfl⟩
  rw [hc.out] at hix hq2
  clear hq
  have i0 : 0 < (t.length : Int) := by omega
  have HBE := hid (behind_pos t hh)
  go_enter Tryd.func8, Tryd.ntmps8
  go_wp2
  go_loop [5, 6] (fun n i => ∃ (k : Nat) (v : Int), i = .int .i64 k ∧ n = .int .i64 v ∧ k ≤ t.length ∧ Acc false t k v)
    (fun _ i => t.length - (intOf i).toNat)
  case atStart => exact ⟨0, 0, rfl, rfl, by omega, rfl, by unfold Fits; omega⟩
  case round =>
    obtain ⟨k, v, rfl, rfl, hk, hacc⟩ := hrel
    obtain ⟨hv, hf⟩ := hacc
    have HF := hid hf
    have HV := hid hv
    clear hf hv
    by_cases hlt : k < t.length
    · have ei := index_at t k hlt
      have i1 : (k : Int) < t.length := by omega
      have HB : Hid ((t.getD k 0) = (t.getD k 0)) := rfl
      obtain ⟨b, hb⟩ : ∃ b, Hid ((t.getD k 0).toNat = b) := ⟨_, rfl⟩
      rw [hb.out] at ei
      have HB2 : Hid ((b : Int) < 256) := by have := (t.getD k 0).toNat_lt; have := hb.out; show (b : Int) < 256; omega
      clear HB
      by_cases hd : b < 48
      · have i2 : (b : Int) - 48 < 0 := by omega
        have i3 : (b : Int) < 48 := by omega
        go_wp2
        go_ret2
        exact ⟨_, _, rfl, HBE.out.bad hlt (by rw [hb.out]; omega), Below.refl _ _⟩
      · by_cases hd2 : 57 < b
        · have hb2 := HB2.out
          have i2 : 9 < (b : Int) - 48 := by omega
          have i3 : 48 ≤ (b : Int) := by omega
          go_wp2
          go_ret2
          exact ⟨_, _, rfl, HBE.out.bad hlt (by rw [hb.out]; omega), Below.refl _ _⟩
        · have i2 : (b : Int) - 48 ≤ 9 := by omega
          have i3 : 48 ≤ (b : Int) := by omega
          go_wp2
          have e2 : stepI false v (t.getD k 0) = wrap64 (wrap64 (10 * v) + ((b : Int) - 48)) := by
            unfold stepI; rw [hb.out]; rfl
          refine ⟨⟨k + 1, _, by go_num, by rw [← e2], by omega, ?_, stepI_fits _ _ _⟩, by simp [intOf]; omega⟩
          rw [List.take_add_one, List.getElem?_eq_getElem hlt, List.foldl_append, ← HV.out]
          rw [List.getD_eq_getElem?_getD, List.getElem?_eq_getElem hlt]
          rfl
    · obtain rfl : k = t.length := by omega
      have cd := refDec_any v HF.out.1 HF.out.2 w
      have hv := HV.out
      rw [List.take_length] at hv
      have HV2 := hid hv
      clear hv
      go_wp2_with (go_at_call 10; refine cd.mono ?_; rintro e w2 ⟨rfl, hb2⟩)
      · have hne : itoa v ≠ t := by
          have : (!itoa v == t) = true := by assumption
          simpa using this
        go_ret2
        exact ⟨_, _, rfl, HBE.out.end (by rw [← HV2.out]; exact hne), hb2⟩
      · have hne : itoa v = t := by
          have : (!itoa v == t) = false := by assumption
          simpa using this
        go_ret2
        exact ⟨_, _, rfl, .inl ⟨rfl, hne, HF.out⟩, hb2⟩
theorem refRead_nil (w : World) :
    Calls Tryd.prog 8 #[.string (strL [])] w fun e w' => ∃ n c, e = .returned (.tuple #[.int .i64 n, .int .i64 c]) ∧ NumOf [] n c ∧ Below w.heap.size w w' := by
  have est := strL_toList
  have esz := strL_size
  go_enter Tryd.func8, Tryd.ntmps8
  go_wp2
  go_ret2
  exact ⟨_, _, rfl, (behind_pos [] (by simp)).long (by simp), Below.refl _ _⟩
theorem refRead_pos_long (t : List UInt8) (hh : ∀ r, t ≠ 45 :: r) (hl : 19 < t.length) (w : World) :
    Calls Tryd.prog 8 #[.string (strL t)] w fun e w' => ∃ n c, e = .returned (.tuple #[.int .i64 n, .int .i64 c]) ∧ NumOf t n c ∧ Below w.heap.size w w' := by
  have est := strL_toList
  have esz := strL_size
  have hix := index_at t 0 (by omega)
  have hq : (t.getD 0 0).toNat ≠ 45 := by
    cases t with
    | nil => simp
    | cons c r => intro e; exact hh r (by rw [show c = 45 from UInt8.toNat_inj.1 e])
  have hq2 : ((((t.getD 0 0).toNat : Nat) : Int) == 45) = false := by rw [beq_eq_false_iff_ne]; omega
  simp only [Int.natCast_zero] at hix
  obtain ⟨c, hc⟩ : ∃ c, Hid ((t.getD 0 0).toNat = c) := ⟨_, rfl⟩
  rw [hc.out] at hix hq2
  clear hq
  have i0 : 0 < (t.length : Int) := by omega
  have HBE := hid (behind_pos t hh)
  have i2 : 19 < (t.length : Int) := by omega
  have i3 : 1 ≤ (t.length : Int) := by omega
  go_enter Tryd.func8, Tryd.ntmps8
  go_wp2
  go_ret2
  exact ⟨_, _, rfl, HBE.out.long (by omega), Below.refl _ _⟩
theorem refRead_any (l : List UInt8) (w : World) :
    Calls Tryd.prog 8 #[.string (strL l)] w fun e w' => ∃ n c, e = .returned (.tuple #[.int .i64 n, .int .i64 c]) ∧ NumOf l n c ∧ Below w.heap.size w w' := by
  by_cases hn : ∃ t, l = 45 :: t
  · obtain ⟨t, rfl⟩ := hn
    by_cases h : 1 ≤ t.length ∧ t.length ≤ 19
    · exact refRead_neg t h.2 h.1 w
    · exact refRead_neg_long t h w
  · have hh : ∀ r, l ≠ 45 :: r := fun r e => hn ⟨r, e⟩
    by_cases h : 1 ≤ l.length
    · by_cases h2 : l.length ≤ 19
      · exact refRead_pos l hh h2 h w
      · exact refRead_pos_long l hh (by omega) w
    · obtain rfl : l = [] := List.eq_nil_of_length_eq_zero (by omega)
      exact refRead_nil w
end Go.Proofs.YtdlebjogbhgheaaDoor.texts
