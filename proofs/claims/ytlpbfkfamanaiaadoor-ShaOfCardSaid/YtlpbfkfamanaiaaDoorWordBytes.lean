/- Contract of Bytes of layer 1 (word), for every slice of words of at most 2^45 words and every number. -/
import Derived.Test.YtlpbfkfamanaiaaDoorWordPack
namespace Go.Proofs.YtlpbfkfamanaiaaDoor.word
open Go.RowKit
set_option linter.unusedVariables false

/-- are all bytes of the words from byte n on 0? -/
def blank (xs : List Nat) (n : Nat) : Bool := (List.range (4 * xs.length - n)).all fun i => byteOf xs (n + i) == 0
theorem blank_true {xs : List Nat} {n : Nat} (h : ∀ i, i < 4 * xs.length - n → byteOf xs (n + i) = 0) : blank xs n = true := by
  unfold blank; rw [List.all_eq_true]; intro i hi; simpa using h i (List.mem_range.1 hi)
theorem blank_false {xs : List Nat} {n i : Nat} (hi : i < 4 * xs.length - n) (h : byteOf xs (n + i) ≠ 0) : blank xs n = false := by
  unfold blank; rw [List.all_eq_false]; exact ⟨i, List.mem_range.2 hi, by simpa using h⟩
theorem byteOf_lt (xs : List Nat) (i : Nat) : byteOf xs i < 256 := by unfold byteOf; omega

set_option maxHeartbeats 1600000 in
theorem blankFrom_any (a : Option Addr) (len cap : Nat) (xs : List Nat) (w : World) (hr : Reads .u32 w a len xs) (hx : ∀ x ∈ xs, x < 4294967296) (n : Nat) (hn : n ≤ 4 * len) (hl : len ≤ 140737488355328) :
    Calls Tryd.prog 30 #[.slice a len cap, .int .i64 n] w (Quiet (.bool (blank xs n)) w) := by
  have hlen := hr.1
  go_enter Tryd.func30, Tryd.ntmps30
  go_wp2
  go_loopw [11] (fun i wr => ∃ k : Nat, k ≤ 4 * len - n ∧ i = .int .i64 k ∧ (∃ m, wr = w.drewN m) ∧ Hid (∀ j, j < k → byteOf xs (n + j) = 0))
    (fun i _ => 4 * len - n - (intOf i).toNat)
  case atStart => exact ⟨0, Nat.zero_le _, rfl, ⟨0, rfl⟩, fun j hj => by omega⟩
  case round =>
    obtain ⟨k, hk, rfl, ⟨m, rfl⟩, hz⟩ := hrel
    by_cases hlt : k < 4 * len - n
    · have c : ∀ w', (∃ m, w' = w.drewN m) → Calls Tryd.prog 31 #[.slice a len cap, .int .i64 ((n : Int) + k)] w' (Quiet (.int .u8 (byteOf xs (n + k))) w') := by
        rintro _ ⟨m, rfl⟩
        have := byteAt_any a len cap xs (w.drewN m) (hr.drewN m) hx (n + k) (by omega) hl
        rwa [Int.natCast_add] at this
      have hb := byteOf_lt xs (n + k)
      have ht : (k : Int) < 4 * len - n := by omega
      by_cases h0 : byteOf xs (n + k) = 0
      · have hq : (((byteOf xs (n + k) : Nat) : Int) != 0) = false := by rw [h0]; rfl
        have H0 := hid h0
        clear h0
        go_wp2_with (go_at_call 31; refine (c _ ⟨_, rfl⟩).mono ?_; rintro e w' ⟨rfl, m2, rfl⟩)
        exact ⟨⟨k + 1, by omega, by go_num, ⟨_, rfl⟩, fun j hj => by
          by_cases h : j = k
          · rw [h]; exact H0.out
          · exact hz.out j (by omega)⟩, by simp [intOf]; omega⟩
      · have hq : (((byteOf xs (n + k) : Nat) : Int) != 0) = true := by rw [bne_iff_ne]; omega
        have H0 := hid h0
        clear h0
        go_wp2_with (go_at_call 31; refine (c _ ⟨_, rfl⟩).mono ?_; rintro e w' ⟨rfl, m2, rfl⟩)
        go_ret
        exact ⟨ret_bool (blank_false (by rw [hlen]; exact hlt) H0.out).symm, _, rfl⟩
    · go_wp2
      go_ret
      exact ⟨ret_bool (blank_true fun i hi => hz.out i (by rw [hlen] at hi; omega)).symm, _, rfl⟩

/-- what Bytes answers: the error's number and the bytes -/
def bytesOf (xs : List Nat) (n : Int) : Nat × List Nat :=
  if n < 0 then (2, []) else if (xs.length : Int) < need n then (5, []) else if need n < xs.length then (6, []) else if blank xs n.toNat = false then (6, []) else (0, (List.range n.toNat).map (byteOf xs))

/-- the answer (v, code), v a slice of the call's own that reads as the bytes -/
def Gives (B : Nat) (et : Nat) (k : IntKind) (ck : IntKind) (w : World) (r : Nat × List Nat) (e : Ending) (w' : World) : Prop :=
  ∃ v, e = .returned (.tuple #[v, .int ck (r.1 : Int)]) ∧ w'.ownsRow B et 1 v r.2.length (r.2.map fun x : Nat => Value.int k (x : Int)) ∧ Below B w w'

theorem Trydinfo5 : (Tryd.prog.info? 5).map (fun i => (i.zero, i.size, i.bytes)) = some (some (.int .u8 0), 1, 1) := by kernel_rfl

theorem bytes_neg (a : Option Addr) (len cap : Nat) (w : World) (n : Int) (hn : n < 0) (h1 : -9223372036854775808 ≤ n) :
    Calls Tryd.prog 24 #[.slice a len cap, .int .i64 n] w (Gives w.heap.size 5 .u8 .i64 w (2, [])) := by
  go_enter Tryd.func24, Tryd.ntmps24
  go_wp2
  go_ret2
  exact ⟨_, rfl, World.ownsRow_nil _ _ _ _, Below.refl _ _⟩
set_option maxHeartbeats 1600000 in
theorem bytes_pos (a : Option Addr) (len cap : Nat) (xs : List Nat) (w : World) (hr : Reads .u32 w a len xs) (hx : ∀ x ∈ xs, x < 4294967296) (hl : len ≤ 35184372088832) (n : Nat) (h2 : n ≤ 9223372036854775807) :
    Calls Tryd.prog 24 #[.slice a len cap, .int .i64 n] w (Gives w.heap.size 5 .u8 .i64 w (bytesOf xs n)) := by
  obtain ⟨i0, hi, hz0, hz1, hz2⟩ := info_parts Trydinfo5
  have hlen := hr.1
  have hneed := need_nat n
  have c1 : ∀ w', Calls Tryd.prog 29 #[.int .i64 n] w' (Quiet (.int .i64 (need n)) w') := fun w' => need_any n (by omega) (by omega) _
  have hNe : ∃ N : Nat, need n = N ∧ (n : Int) ≤ 4 * N ∧ 4 * (N : Int) ≤ n + 3 := ⟨_, hneed, by omega, by omega⟩
  obtain ⟨N, hN, hN1, hN2⟩ := hNe
  rw [hN] at c1
  unfold bytesOf
  rw [if_neg (by omega : ¬ ((n : Int) < 0)), hN, hlen, Int.toNat_natCast]
  clear hneed hN
  by_cases hs : (len : Int) < N
  · rw [if_pos hs]
    go_enter Tryd.func24, Tryd.ntmps24
    go_wp2_with (go_at_call 29; refine (c1 _).mono ?_; rintro e w' ⟨rfl, m2, rfl⟩)
    go_ret2
    exact ⟨_, rfl, World.ownsRow_nil _ _ _ _, below_drewN (Below.refl _ _) _⟩
  · rw [if_neg hs]
    by_cases hg : (N : Int) < len
    · rw [if_pos hg]
      go_enter Tryd.func24, Tryd.ntmps24
      go_wp2_with (go_at_call 29; refine (c1 _).mono ?_; rintro e w' ⟨rfl, m2, rfl⟩)
      all_goals go_ret2
      all_goals exact ⟨_, rfl, World.ownsRow_nil _ _ _ _, by repeat (first | exact Below.refl _ _ | apply below_drewN)⟩
    · rw [if_neg hg]
      obtain rfl : N = len := by omega
      have c2 : ∀ w', Below w.heap.size w w' → Calls Tryd.prog 30 #[.slice a N cap, .int .i64 n] w' (Quiet (.bool (blank xs n)) w') := fun w' hb =>
        blankFrom_any a N cap xs _ (hr.below hb) hx n (by omega) (by omega)
      by_cases hb : blank xs n = false
      · rw [if_pos hb]
        rw [hb] at c2
        go_enter Tryd.func24, Tryd.ntmps24
        go_wp2_with (first
          | (go_at_call 29; refine (c1 _).mono ?_; rintro e w' ⟨rfl, m2, rfl⟩)
          | (go_at_call 30; refine (c2 _ (by repeat (first | exact Below.refl _ _ | apply below_drewN))).mono ?_; rintro e w' ⟨rfl, m3, rfl⟩))
        go_ret2
        exact ⟨_, rfl, World.ownsRow_nil _ _ _ _, by repeat (first | exact Below.refl _ _ | apply below_drewN)⟩
      · rw [if_neg hb]
        rw [show blank xs n = true from by simpa using hb] at c2
        clear hb
        go_enter Tryd.func24, Tryd.ntmps24
        go_wp2_with (first
          | (go_at_call 29; refine (c1 _).mono ?_; rintro e w' ⟨rfl, m2, rfl⟩)
          | (go_at_call 30; refine (c2 _ (by repeat (first | exact Below.refl _ _ | apply below_drewN))).mono ?_; rintro e w' ⟨rfl, m3, rfl⟩)
          | (at_make; refine wpList_make_full _ rfl _ _ 22 rfl w.heap.size 5 i0 (.int .u8 0) 1 Tryd.underlying22 hi hz0 hz1 _ _ _ _ n rfl rfl rfl rfl (by rw [hz2]; omega) (by unfold maxLen; omega) (Nat.le_refl _) ?_))
        intro w1 hown hgrow
        go_wp2
        go_loopw [32] (fun i wr => ∃ k : Nat, k ≤ n ∧ i = .int .i64 k ∧ wr.ownsRow w.heap.size 5 1 (.slice (some ⟨w.heap.size, 0, none⟩) n n) n ((upTo (byteOf xs) k n).map fun x : Nat => Value.int .u8 (x : Int)) ∧ Below w.heap.size w wr)
          (fun i _ => n - (intOf i).toNat)
        case atStart =>
          refine ⟨0, Nat.zero_le _, rfl, ?_, Below.grown (by repeat (first | exact Below.refl _ _ | apply below_drewN)) hgrow (Nat.le_refl _) (fun k h => by cases h)⟩
          rw [upTo_zero, List.map_replicate]
          rw [toList_madeCells_one] at hown
          exact hown
        case round =>
          obtain ⟨k, hk, rfl, ho, hb⟩ := hrel
          by_cases hlt : k < n
          · have c : ∀ w', Below w.heap.size w w' → Calls Tryd.prog 31 #[.slice a N cap, .int .i64 (k : Int)] w' (Quiet (.int .u8 (byteOf xs k)) w') := fun w' hb =>
              byteAt_any a N cap xs _ (hr.below hb) hx k (by omega) (by omega)
            have f2 := ho.frozenAt k
            have c2 : wr.cell? ⟨w.heap.size, k, none⟩ = some (.int .u8 0) := by
              rw [ho.cellAt _ (by omega)]
              unfold upTo
              rw [List.getElem?_map, List.getElem?_map, List.getElem?_range hlt]
              simp
            have HO := hid ho
            clear ho
            go_wp2_with (go_at_call 31; refine (c _ hb).mono ?_; rintro e w' ⟨rfl, m3, rfl⟩)
            have hst := (HO.out.drewN m3).stored k (.int .u8 ((byteOf xs k : Nat) : Int))
            have hmap : ((upTo (byteOf xs) k n).map fun x : Nat => Value.int .u8 (x : Int)).set k (.int .u8 ((byteOf xs k : Nat) : Int)) = (upTo (byteOf xs) (k + 1) n).map fun x : Nat => Value.int .u8 (x : Int) := by
              rw [← upTo_set _ k n hlt, List.map_set]
            rw [hmap] at hst
            exact ⟨⟨k + 1, by omega, by go_num, hst.1, (below_drewN hb m3).grown hst.2 (by simp [hb.size]) (fun j h => by cases h; exact Nat.le_refl _)⟩, by simp [intOf]; omega⟩
          · go_wp2
            go_ret2
            obtain rfl : k = n := by omega
            rw [upTo_all] at ho
            exact ⟨_, rfl, by simpa using ho, hb⟩
theorem bytes_any (a : Option Addr) (len cap : Nat) (xs : List Nat) (w : World) (hr : Reads .u32 w a len xs) (hx : ∀ x ∈ xs, x < 4294967296) (hl : len ≤ 35184372088832) (n : Int) (h1 : -9223372036854775808 ≤ n) (h2 : n ≤ 9223372036854775807) :
    Calls Tryd.prog 24 #[.slice a len cap, .int .i64 n] w (Gives w.heap.size 5 .u8 .i64 w (bytesOf xs n)) := by
  by_cases h : n < 0
  · rw [bytesOf, if_pos h]; exact bytes_neg a len cap w n h h1
  · obtain ⟨m, rfl⟩ := Int.eq_ofNat_of_zero_le (by omega : 0 ≤ n)
    exact bytes_pos a len cap xs w hr hx hl m (by omega)
end Go.Proofs.YtlpbfkfamanaiaaDoor.word
