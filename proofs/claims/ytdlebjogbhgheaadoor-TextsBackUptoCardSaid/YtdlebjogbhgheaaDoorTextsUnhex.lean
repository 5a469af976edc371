/- Contracts of Unhex and of the reference's place, Hex, Unhex. No condition beyond a string's length. -/
import Derived.Test.YtdlebjogbhgheaaDoorTextsPairs
import Derived.Test.YtdlebjogbhgheaaDoorOpen
import Derived.Deep.Upon
import Derived.BigQuiet
namespace Go.Proofs.YtdlebjogbhgheaaDoor.texts
open Go.RowKit Go.Lib
set_option linter.unusedVariables false

theorem place_any (c : UInt8) (w : World) : Calls Tryd.prog 28 #[.int .u8 ((c.toNat : Nat) : Int)] w fun e w' => e = .returned (.int .i64 (figVal c)) ∧ w' = w := by
  have hff := fig_at .i64
  obtain ⟨x, hx⟩ : ∃ x, Hid (c.toNat = x) := ⟨_, rfl⟩
  obtain ⟨V, hV⟩ : ∃ V, Hid (figVal c = V) := ⟨_, rfl⟩
  rw [hx.out, hV.out]
  have hidx : ∀ k : Nat, k < 16 → (∀ j, j < k → fig j ≠ c) → (fig k = c → figVal c = k) := by
    intro k hk h1 h2
    have : ∀ (l : List UInt8) (k : Nat), k < l.length → (∀ j, j < k → l.getD j 0 ≠ c) → l.getD k 0 = c → indexByte l c = k := by
      intro l
      induction l with
      | nil => intro k hk; simp at hk
      | cons b l ih =>
        intro k hk h1 h2
        cases k with
        | zero => simp at h2; subst h2; simp [indexByte]
        | succ k =>
          have hb : b ≠ c := by have := h1 0 (by omega); simpa using this
          have := ih k (by simp at hk; omega) (fun j hj => by have := h1 (j + 1) (by omega); simpa using this) (by simpa using h2)
          unfold indexByte
          rw [if_neg (by simpa using hb), this, if_neg (by simp)]
          omega
    exact this figs k hk h1 h2
  have hnone : (∀ j, j < 16 → fig j ≠ c) → figVal c = -1 := by
    intro h1
    have : ∀ (l : List UInt8), (∀ j, j < l.length → l.getD j 0 ≠ c) → indexByte l c = -1 := by
      intro l
      induction l with
      | nil => intro _; rfl
      | cons b l ih =>
        intro h1
        have hb : b ≠ c := by have := h1 0 (by simp); simpa using this
        have := ih (fun j hj => by have := h1 (j + 1) (by simp; omega); simpa using this)
        unfold indexByte
        rw [if_neg (by simpa using hb), this, if_pos (by simp)]
    exact this figs h1
  have HI := hid hidx
  have HN := hid hnone
  have HFF := hid hff
  clear hidx hnone hff
  go_enter Tryd.func28, Tryd.ntmps28
  go_wp2
  go_loop [3] (fun i => ∃ k : Nat, i = .int .i64 k ∧ k ≤ 16 ∧ Hid (∀ j, j < k → fig j ≠ c)) (fun i => 16 - (intOf i).toNat)
  case atStart => exact ⟨0, rfl, by omega, fun j hj => by omega⟩
  case round =>
    obtain ⟨k, rfl, hk, hp⟩ := hrel
    by_cases hlt : k < 16
    · have i1 : (k : Int) < 16 := by omega
      have ei := HFF.out k hlt
      obtain ⟨y, hy⟩ : ∃ y, Hid ((fig k).toNat = y) := ⟨_, rfl⟩
      rw [hy.out] at ei
      by_cases he : fig k = c
      · have hq : ((y : Int) == (x : Int)) = true := by rw [beq_iff_eq, ← hy.out, ← hx.out, he]
        have hv := HI.out k hlt hp.out he
        have HV := hid hv
        clear he hv
        go_wp2
        go_ret
        exact ⟨by rw [← hV.out, HV.out]; rfl, rfl⟩
      · have hq : ((y : Int) == (x : Int)) = false := by
          rw [beq_eq_false_iff_ne]
          intro e
          have e2 : y = x := by omega
          rw [← hy.out, ← hx.out] at e2
          exact he (UInt8.toNat_inj.1 e2)
        have HE := hid he
        clear he
        go_wp2
        exact ⟨⟨k + 1, by go_num, by omega, fun j hj => by
          by_cases e : j = k
          · rw [e]; exact HE.out
          · exact hp.out j (by omega)⟩, by simp [intOf]; omega⟩
    · obtain rfl : k = 16 := by omega
      have hv := HN.out hp.out
      have HV := hid hv
      clear hv
      go_wp2
      go_ret
      exact ⟨by rw [← hV.out, HV.out]; rfl, rfl⟩

theorem const_slice (q : Nat) (h : q < 16) (W : World) : (Instr.slice 9 (.string ⟨#[48, 49, 50, 51, 52, 53, 54, 55, 56, 57, 97, 98, 99, 100, 101, 102]⟩) (some (.int .i64 (q : Int))) (some (.int .i64 ((q : Int) + 1))) none).run Tryd.prog W = .ok (.string (strL [fig q])) W := by
  have := slice_mid figs q (q + 1) (by omega) (by show q + 1 ≤ 16; omega) W
  rw [show q + 1 - q = 1 from by omega] at this
  have h2 : (figs.drop q).take 1 = [fig q] := by
    have : ∀ j : Fin 16, (figs.drop j).take 1 = [fig j] := by decide
    exact this ⟨q, h⟩
  rw [h2] at this
  exact this

theorem refHex_any (l : List UInt8) (hl : 2 * l.length ≤ 9223372036854775000) (w : World) :
    Calls Tryd.prog 15 #[.string (strL l)] w fun e w' => e = .returned (.string (strL (hexText l))) ∧ Below w.heap.size w w' := by
  have est := strL_toList
  have esz := strL_size
  by_cases h0 : l = []
  · subst h0
    go_enter Tryd.func15, Tryd.ntmps15
    go_wp2
    go_ret
    exact ⟨rfl, Below.refl _ _⟩
  · have hpos : 0 < l.length := List.length_pos_iff.2 h0
    have hq : ((l.length : Int) == 0) = false := by rw [beq_eq_false_iff_ne]; omega
    have HR : Hid (hexText l = hexOf l) := by show hexText l = hexOf l; rw [hexText, if_neg h0]
    have hcs := const_slice
    clear h0
    go_enter Tryd.func15, Tryd.ntmps15
    go_wp2
    go_loopw [3, 4] (fun s i wr => ∃ (k : Nat) (S : ByteArray), k ≤ l.length ∧ i = .int .i64 k ∧ s = .string S ∧ Hid (S = strL (hexOf (l.take k))) ∧ ∃ m, wr = w.drewN m)
      (fun _ i _ => l.length - (intOf i).toNat)
    case atStart => exact ⟨0, ⟨#[]⟩, Nat.zero_le _, rfl, rfl, rfl, 0, rfl⟩
    case round =>
      obtain ⟨k, S, hk, rfl, rfl, hS, m, rfl⟩ := hrel
      by_cases hlt : k < l.length
      · have i1 : (k : Int) < l.length := by omega
        have ei := index_at l k hlt
        have hsz : (S.size : Int) ≤ 9223372036854775000 := by rw [hS.out, strL_size, hexOf_length, List.length_take, Nat.min_eq_left hk]; omega
        have hb256 := (l.getD k 0).toNat_lt
        have HN : Hid (strL (hexOf (l.take (k + 1))) = strL (hexOf (l.take k)) ++ strL [fig ((l.getD k 0).toNat / 16)] ++ strL [fig ((l.getD k 0).toNat % 16)]) := by
          show _ = _
          rw [strL_app, strL_app, take_next l k hlt, hexOf_snoc]; simp
        have f1 := hcs ((l.getD k 0).toNat / 16) (by omega)
        have f2 := hcs ((l.getD k 0).toNat % 16) (by omega)
        rw [← hS.out] at HN
        obtain ⟨b, hb⟩ : ∃ b, Hid ((l.getD k 0).toNat = b) := ⟨_, rfl⟩
        rw [hb.out] at ei f1 f2 hb256 HN
        have z1 : (strL [fig (b / 16)]).size = 1 := rfl
        have z2 : (strL [fig (b % 16)]).size = 1 := rfl
        obtain ⟨T1, hT1⟩ : ∃ T, Hid (strL [fig (b / 16)] = T) := ⟨_, rfl⟩
        obtain ⟨T2, hT2⟩ : ∃ T, Hid (strL [fig (b % 16)] = T) := ⟨_, rfl⟩
        rw [hT1.out] at f1 HN z1
        rw [hT2.out] at f2 HN z2
        rw [Int.natCast_ediv] at f1
        rw [Int.natCast_emod] at f2
        simp only [Int.cast_ofNat_Int] at f1 f2
        have b1 : (b : Int) < 256 := by omega
        clear hcs
        go_wp2
        go_region
        all_goals go_wp2
        all_goals exact ⟨⟨k + 1, _, by omega, by go_num, rfl, hid HN.out.symm, _, rfl⟩, by simp [intOf]; omega⟩
      · obtain rfl : k = l.length := by omega
        go_wp2
        go_ret
        refine ⟨?_, below_drewN (Below.refl _ _) m⟩
        rw [HR.out]
        have := hS.out
        rw [List.take_length] at this
        rw [← this]; rfl

theorem info_byte : (Tryd.prog.info? 5).map (fun i => (i.zero, i.size, i.bytes)) = some (some (.int .u8 0), 1, 1) := by kernel_rfl
theorem place_quiet (c : UInt8) (w : World) : Calls Tryd.prog 28 #[.int .u8 ((c.toNat : Nat) : Int)] w (Quiet (.int .i64 (figVal c)) w) :=
  (place_any c w).mono fun e w' ⟨he, hw⟩ => ⟨he, 0, hw⟩
/-- the text of a row of bytes of the call's own -/
theorem conv_row (W : World) {B : Nat} {a : Option Addr} {n c : Nat} {b : List UInt8} (h : W.ownsRow B 5 1 (.slice a n c) n (Lib.byteCells b)) :
    (convert 53 9 (.slice a n c)).run Tryd.prog W = .ok (.string (strL b)) W := by
  have hr : Reads .u8 W a n (b.map (·.toNat)) := Reads.own (base := B) (e := 5) (cap := c) (by
    rw [List.map_map]; exact h)
  have e : strOf (b.map (·.toNat)) = strL b := by
    unfold strOf strOfNums strL
    congr 2
    rw [List.map_map, List.map_map]
    conv => rhs; rw [← List.map_id b]
    apply List.map_congr_left
    intro x _
    simp
  rw [← e]
  exact hr.str (P := Tryd.prog) 53 5 Tryd.underlying53 Tryd.underlying5 c 9 Tryd.underlying9

set_option maxRecDepth 20000 in
set_option maxHeartbeats 1000000 in
theorem refUnhex_any (s : List UInt8) (hl : s.length ≤ 140737488351232) (w : World) :
    Calls Tryd.prog 13 #[.string (strL s)] w fun e w' => e = .returned (.tuple #[.string (strL (unhexText s).1), .int .i64 (unhexText s).2]) ∧ Below w.heap.size w w' := by
  have est := strL_toList
  have esz := strL_size
  by_cases h45 : s = [45]
  · subst h45
    go_enter Tryd.func13, Tryd.ntmps13
    go_wp2
    go_ret2
    exact ⟨rfl, Below.refl _ _⟩
  by_cases h0 : s = []
  · subst h0
    go_enter Tryd.func13, Tryd.ntmps13
    go_wp2
    go_ret2
    exact ⟨rfl, Below.refl _ _⟩
  have q1 : (s == [45]) = false := by rw [beq_eq_false_iff_ne]; exact h45
  have q2 : (s == ([] : List UInt8)) = false := by rw [beq_eq_false_iff_ne]; exact h0
  have HU : Hid (unhexText s = pairText s) := by show _ = _; rw [unhexText, if_neg h45, if_neg h0]
  clear h45 h0
  by_cases hodd : s.length % 2 = 1
  · have q3 : ((s.length : Int) % 2 == 1) = true := by rw [beq_iff_eq]; omega
    have HP := hid (pairText_none (pairs_odd s hodd))
    clear hodd
    go_enter Tryd.func13, Tryd.ntmps13
    go_wp2
    go_ret2
    rw [HU.out, HP.out]
    exact ⟨rfl, Below.refl _ _⟩
  · have q3 : ((s.length : Int) % 2 == 1) = false := by rw [beq_eq_false_iff_ne]; omega
    obtain ⟨N, hN⟩ : ∃ N, s.length = 2 * N := ⟨s.length / 2, by omega⟩
    obtain ⟨i0, hi, hz0, hz1, hz2⟩ := info_parts info_byte
    have HN := hid hN
    have HL := hid hl
    clear hodd hN hl
    go_enter Tryd.func13, Tryd.ntmps13
    go_wp2
    go_loopw [4, 5] (fun v i wr => ∃ (k : Nat) (b : List UInt8), k ≤ N ∧ i = .int .i64 (2 * (k : Int)) ∧ Hid (pairs (s.take (2 * k)) = some b) ∧ wr.ownsRow w.heap.size 5 1 v k (Lib.byteCells b) ∧ Below w.heap.size w wr)
      (fun _ i _ => s.length - (intOf i).toNat)
    case atStart => exact ⟨0, [], Nat.zero_le _, rfl, rfl, World.ownsRow_nil _ _ _ _, Below.refl _ _⟩
    case round =>
      obtain ⟨k, b, hk, rfl, hp, hown, hbl⟩ := hrel
      have hN := HN.out
      have hl := HL.out
      obtain ⟨va, vc, rfl, hvc⟩ := ownsRow_slice hown
      have hws := hbl.size
      by_cases hlt : k < N
      · have i1 : 2 * (k : Int) < s.length := by omega
        have i2 : 2 * (k : Int) + 1 < s.length := by omega
        have ei := index_at s (2 * k) (by omega)
        have ei2 := index_at s (2 * k + 1) (by omega)
        have hnx := pairs_next s k (by omega) hp.out
        obtain ⟨x, hx⟩ : ∃ x, Hid (s.getD (2 * k) 0 = x) := ⟨_, rfl⟩
        obtain ⟨y, hy⟩ : ∃ y, Hid (s.getD (2 * k + 1) 0 = y) := ⟨_, rfl⟩
        rw [hx.out] at ei hnx
        rw [hy.out] at ei2 hnx
        rw [Int.natCast_mul] at ei
        rw [Int.natCast_succ, Int.natCast_mul] at ei2
        simp only [Int.cast_ofNat_Int] at ei ei2
        have cx := place_quiet x
        have cy := place_quiet y
        have gx := figVal_ge x
        have gy := figVal_ge y
        have lx := figVal_lt x
        have ly := figVal_lt y
        have HB : Hid (badPair x y = (decide (figVal x < 0) || decide (figVal y < 0))) := rfl
        have HPO : Hid (pairOf x y = UInt8.ofNat (16 * (figVal x).toNat + (figVal y).toNat)) := rfl
        obtain ⟨vx, hvx⟩ : ∃ v, Hid (figVal x = v) := ⟨_, rfl⟩
        obtain ⟨vy, hvy⟩ : ∃ v, Hid (figVal y = v) := ⟨_, rfl⟩
        rw [hvx.out] at cx gx lx HB HPO
        rw [hvy.out] at cy gy ly HB HPO
        have bx := x.toNat_lt
        have bY := y.toNat_lt
        obtain ⟨xn, hxn⟩ : ∃ n, Hid (x.toNat = n) := ⟨_, rfl⟩
        obtain ⟨yn, hyn⟩ : ∃ n, Hid (y.toNat = n) := ⟨_, rfl⟩
        rw [hxn.out] at ei cx bx
        rw [hyn.out] at ei2 cy bY
        have HNX := hid hnx
        have HO := hid hown
        have HBL := hid hbl
        clear hnx hown hbl hN
        go_wp2
        go_quiet (first
          | (go_at_call 28; (with_reducible exact quietAt (cx _)))
          | (go_at_call 28; (with_reducible exact quietAt (cy _))))
        by_cases n1 : vx < 0
        · have HBAD : Hid (badPair x y = true) := by show _ = _; rw [HB.out]; simp [n1]
          go_wp2
          go_ret2
          rw [HU.out, pairText_none (HNX.out.1 HBAD.out)]
          exact ⟨rfl, below_drewN HBL.out nq⟩
        · have p1 : 0 ≤ vx := by omega
          clear n1
          by_cases n2 : vy < 0
          · have HBAD : Hid (badPair x y = true) := by show _ = _; rw [HB.out]; simp [n2]
            go_wp2
            go_ret2
            rw [HU.out, pairText_none (HNX.out.1 HBAD.out)]
            exact ⟨rfl, below_drewN HBL.out nq⟩
          · have p2 : 0 ≤ vy := by omega
            have HGOOD : Hid (badPair x y = false) := by show _ = _; rw [HB.out]; simp; omega
            clear n2
            go_wp2_with (at_builtin; refine wpList_append_own _ rfl _ _ 53 rfl w.heap.size 5 i0 (.int .u8 0) 1 1 Tryd.underlying53 hi hz0 hz1 hz2 rfl (by decide) _ _ _ rfl ((HO.out.drewN nq).alloc _) ⟨wr.heap.size, 0, none⟩ 1 1 [_] rfl rfl (one_new _ _ _) (one_cell (by rfl)) (by unfold maxLen; omega) (by omega) (by simp; omega) ?_)
            intro v' w1 ho1 hg1 _
            obtain ⟨a', c', rfl, hc'⟩ := ownsRow_slice ho1
            have HO1 := hid ho1
            have HG1 := hid hg1
            clear ho1 hg1
            go_wp2
            have hpv : (((pairOf x y).toNat : Nat) : Int) = 16 * vx + vy := by
              rw [HPO.out, ofNat_toNat _ (by omega)]; omega
            refine ⟨⟨k + 1, b ++ [pairOf x y], by omega, by congr 1, hid (HNX.out.2 HGOOD.out), ?_, ?_⟩, by simp [intOf]; omega⟩
            · rw [byteCells_snoc, hpv]; exact HO1.out
            · exact ((below_drewN HBL.out nq).alloc hws _).grown HG1.out (by simp; omega) (fun q hq => by cases va with | none => cases hq | some g => exact (HO.out.lt q hq).1)
      · obtain rfl : k = N := by omega
        have hcv := conv_row wr hown
        have HBL := hid hbl
        have HP := hp.out
        rw [show s.take (2 * k) = s from by rw [← HN.out, List.take_length]] at HP
        have HP2 := hid HP
        have i1 : (s.length : Int) = 2 * (k : Int) := by omega
        clear hown hbl HP hp hN
        go_wp2
        go_ret2
        rw [HU.out, pairText_some HP2.out]
        exact ⟨rfl, HBL.out⟩

theorem or_fin : ∀ a b : Fin 16, bits .or .i64 (((a : Nat) : Int) * 16) ((b : Nat) : Int) % 256 = 16 * ((a : Nat) : Int) + ((b : Nat) : Int) := by decide +kernel
theorem or_pair (x y : Int) (h1 : 0 ≤ x) (h2 : x < 16) (h3 : 0 ≤ y) (h4 : y < 16) : bits .or .i64 (x * 16) y % 256 = 16 * x + y := by
  obtain ⟨a, rfl⟩ := Int.eq_ofNat_of_zero_le h1
  obtain ⟨b, rfl⟩ := Int.eq_ofNat_of_zero_le h3
  exact or_fin ⟨a, by omega⟩ ⟨b, by omega⟩

set_option maxRecDepth 20000 in
set_option maxHeartbeats 1000000 in
theorem unhex_any (s : List UInt8) (hl : s.length ≤ 281474976710656) (w : World) :
    Calls Tryd.prog 12 #[.string (strL s)] w fun e w' => e = .returned (.tuple #[.string (strL (unhexText s).1), .int .i64 (unhexText s).2]) ∧ Below w.heap.size w w' := by
  have est := strL_toList
  have esz := strL_size
  by_cases h45 : s = [45]
  · subst h45
    go_enter Tryd.func12, Tryd.ntmps12
    go_wp2
    go_ret2
    exact ⟨rfl, Below.refl _ _⟩
  by_cases h0 : s = []
  · subst h0
    go_enter Tryd.func12, Tryd.ntmps12
    go_wp2
    go_ret2
    exact ⟨rfl, Below.refl _ _⟩
  have q1 : (s == [45]) = false := by rw [beq_eq_false_iff_ne]; exact h45
  have q2 : (s == ([] : List UInt8)) = false := by rw [beq_eq_false_iff_ne]; exact h0
  have HU : Hid (unhexText s = pairText s) := by show _ = _; rw [unhexText, if_neg h45, if_neg h0]
  clear h45 h0
  by_cases hodd : s.length % 2 = 1
  · have q3 : ((s.length : Int) % 2 != 0) = true := by rw [bne_iff_ne]; omega
    have HP := hid (pairText_none (pairs_odd s hodd))
    clear hodd
    go_enter Tryd.func12, Tryd.ntmps12
    go_wp2
    go_ret2
    rw [HU.out, HP.out]
    exact ⟨rfl, Below.refl _ _⟩
  · have q3 : ((s.length : Int) % 2 != 0) = false := by rw [bne_eq_false_iff_eq]; omega
    obtain ⟨N, hN⟩ : ∃ N, s.length = 2 * N := ⟨s.length / 2, by omega⟩
    have cg := new_builder w N (by omega)
    have q4 : (N : Int) = (s.length : Int) / 2 := by omega
    rw [q4] at cg
    have iL : (s.length : Int) ≤ 281474976710656 := by omega
    have HQ4 := hid q4
    clear q4
    have HN := hid hN
    have HL := hid hl
    clear hodd hN hl
    go_enter Tryd.func12, Tryd.ntmps12
    go_wp2_with (go_at_call 24; refine cg.mono ?_; rintro e w1 ⟨rfl, hB1, hb1⟩)
    go_loopw [25] (fun i wr => ∃ (k : Nat) (b : List UInt8), k ≤ N ∧ i = .int .i64 k ∧ Hid (pairs (s.take (2 * k)) = some b) ∧ b.length ≤ k ∧ Built w.heap.size w.heap.size b wr ∧ Below w.heap.size w wr)
      (fun i _ => N - (intOf i).toNat)
    case atStart => exact ⟨0, [], Nat.zero_le _, rfl, rfl, Nat.le_refl _, hB1, hb1⟩
    case round =>
      obtain ⟨k, b, hk, rfl, hp, hbn, hBk, hbl⟩ := hrel
      have hN := HN.out
      have hl := HL.out
      have hws := hbl.size
      have HB := hid hBk
      have HBL := hid hbl
      clear hBk hbl
      by_cases hlt : k < N
      · have i1 : (k : Int) < (s.length : Int) / 2 := by omega
        have i3 : 2 * (k : Int) < s.length := by omega
        have i2 : 2 * (k : Int) + 1 < s.length := by omega
        have ei := index_at s (2 * k) (by omega)
        have ei2 := index_at s (2 * k + 1) (by omega)
        have hnx := pairs_next s k (by omega) hp.out
        obtain ⟨x, hx⟩ : ∃ x, Hid (s.getD (2 * k) 0 = x) := ⟨_, rfl⟩
        obtain ⟨y, hy⟩ : ∃ y, Hid (s.getD (2 * k + 1) 0 = y) := ⟨_, rfl⟩
        rw [hx.out] at ei hnx
        rw [hy.out] at ei2 hnx
        rw [Int.natCast_mul] at ei
        rw [Int.natCast_succ, Int.natCast_mul] at ei2
        simp only [Int.cast_ofNat_Int] at ei ei2
        have hfv : ∀ (c : UInt8) (w' : World), Calls Tryd.prog 25 #[.string ⟨#[48, 49, 50, 51, 52, 53, 54, 55, 56, 57, 97, 98, 99, 100, 101, 102]⟩, .int .u8 ((c.toNat : Nat) : Int)] w' fun e w2 => e = .returned (.int .i64 (figVal c)) ∧ w2 = w' := fun c w' => by
          refine (Tryd.strings_IndexByte ⟨#[48, 49, 50, 51, 52, 53, 54, 55, 56, 57, 97, 98, 99, 100, 101, 102]⟩ ((c.toNat : Nat) : Int) w').mono ?_
          rintro e w2 ⟨rfl, rfl⟩
          rw [Int.toNat_natCast, show c.toNat.toUInt8 = c from by simp]
          exact ⟨rfl, rfl⟩
        have cx := hfv x
        have cy := hfv y
        have gx := figVal_ge x
        have gy := figVal_ge y
        have lx := figVal_lt x
        have ly := figVal_lt y
        have HBP : Hid (badPair x y = (decide (figVal x < 0) || decide (figVal y < 0))) := rfl
        have HPO : Hid (pairOf x y = UInt8.ofNat (16 * (figVal x).toNat + (figVal y).toNat)) := rfl
        obtain ⟨vx, hvx⟩ : ∃ v, Hid (figVal x = v) := ⟨_, rfl⟩
        obtain ⟨vy, hvy⟩ : ∃ v, Hid (figVal y = v) := ⟨_, rfl⟩
        rw [hvx.out] at cx gx lx HBP HPO
        rw [hvy.out] at cy gy ly HBP HPO
        have bx := x.toNat_lt
        have bY := y.toNat_lt
        obtain ⟨xn, hxn⟩ : ∃ n, Hid (x.toNat = n) := ⟨_, rfl⟩
        obtain ⟨yn, hyn⟩ : ∃ n, Hid (y.toNat = n) := ⟨_, rfl⟩
        rw [hxn.out] at ei cx bx
        rw [hyn.out] at ei2 cy bY
        have HNX := hid hnx
        clear hnx hN hfv
        by_cases n1 : vx < 0
        · have HBAD : Hid (badPair x y = true) := by show _ = _; rw [HBP.out]; simp [n1]
          go_wp2_with (first
            | (go_at_call 25; with_reducible refine (cx _).mono ?_; clear cx; rintro e w2 ⟨rfl, hw⟩; rw [hw]; clear hw w2)
            | (go_at_call 25; with_reducible refine (cy _).mono ?_; rintro e w2 ⟨rfl, hw⟩; rw [hw]; clear hw w2))
          go_ret2
          rw [HU.out, pairText_none (HNX.out.1 HBAD.out)]
          exact ⟨rfl, HBL.out⟩
        · have p1 : 0 ≤ vx := by omega
          clear n1
          by_cases n2 : vy < 0
          · have HBAD : Hid (badPair x y = true) := by show _ = _; rw [HBP.out]; simp [n2]
            go_wp2_with (first
              | (go_at_call 25; with_reducible refine (cx _).mono ?_; clear cx; rintro e w2 ⟨rfl, hw⟩; rw [hw]; clear hw w2)
              | (go_at_call 25; with_reducible refine (cy _).mono ?_; rintro e w2 ⟨rfl, hw⟩; rw [hw]; clear hw w2))
            go_ret2
            rw [HU.out, pairText_none (HNX.out.1 HBAD.out)]
            exact ⟨rfl, HBL.out⟩
          · have p2 : 0 ≤ vy := by omega
            have HGOOD : Hid (badPair x y = false) := by show _ = _; rw [HBP.out]; simp; omega
            clear n2
            have hpv : (((pairOf x y).toNat : Nat) : Int) = 16 * vx + vy := by
              rw [HPO.out, ofNat_toNat _ (by omega)]; omega
            have cw := put_byte w.heap.size w.heap.size b (pairOf x y) wr HB.out (by omega) hws
            rw [hpv, ← or_pair vx vy p1 lx p2 ly] at cw
            have HPV := hid hpv
            clear hpv
            go_wp2_with (first
              | (go_at_call 25; with_reducible refine (cx _).mono ?_; clear cx; rintro e w2 ⟨rfl, hw⟩; rw [hw]; clear hw w2)
              | (go_at_call 25; with_reducible refine (cy _).mono ?_; rintro e w2 ⟨rfl, hw⟩; rw [hw]; clear hw w2))
            go_wp2_with (go_at_call 26; with_reducible refine cw.mono ?_; rintro e w2 ⟨rfl, hB2, hb2⟩)
            exact ⟨⟨k + 1, b ++ [pairOf x y], by omega, by go_num, hid (HNX.out.2 HGOOD.out), by simp; omega, hB2, HBL.out.trans hb2⟩, by simp [intOf]; omega⟩
      · obtain rfl : k = N := by omega
        have HP := hp.out
        rw [show s.take (2 * k) = s from by rw [← hN, List.take_length]] at HP
        have HP2 := hid HP
        have cs := built_text w.heap.size w.heap.size b wr HB.out hws
        have i1 : (s.length : Int) / 2 = (k : Int) := by omega
        clear HP hp hN
        go_wp2_with (go_at_call 27; with_reducible refine cs.mono ?_; rintro e w2 ⟨rfl, hb2⟩)
        go_ret2
        rw [HU.out, pairText_some HP2.out]
        exact ⟨rfl, HBL.out.trans hb2⟩
end Go.Proofs.YtdlebjogbhgheaaDoor.texts
