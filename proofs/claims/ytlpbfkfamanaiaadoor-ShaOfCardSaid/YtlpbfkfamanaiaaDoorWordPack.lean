/- Contract of Pack of layer 1 (word), for every slice of bytes of at most 2^47 bytes. -/
import Derived.Test.YtlpbfkfamanaiaaDoorWordNeed
import Derived.Test.YtlpbfkfamanaiaaDoorTail
namespace Go.Proofs.YtlpbfkfamanaiaaDoor.word
open Go.RowKit
set_option linter.unusedVariables false

/-- word j of a list of bytes -/
def wordOf (xs : List Nat) (j : Nat) : Nat := xs.getD (4 * j) 0 * 16777216 + xs.getD (4 * j + 1) 0 * 65536 + xs.getD (4 * j + 2) 0 * 256 + xs.getD (4 * j + 3) 0
/-- the words of a list of bytes -/
def packed (xs : List Nat) (n : Nat) : List Nat := (List.range n).map (wordOf xs)

theorem getD_take (xs : List Nat) (k i : Nat) : (xs.take k).getD i 0 = if i < k then xs.getD i 0 else 0 := by
  simp only [List.getD_eq_getElem?_getD, List.getElem?_take]
  split <;> simp
theorem getD_lt (xs : List Nat) (hx : ∀ x ∈ xs, x < 256) (i : Nat) : xs.getD i 0 < 256 := by
  rw [List.getD_eq_getElem?_getD]
  by_cases h : i < xs.length
  · rw [List.getElem?_eq_getElem h]; exact hx _ (List.getElem_mem _)
  · rw [List.getElem?_eq_none (by omega)]; decide
theorem wordOf_lt (xs : List Nat) (hx : ∀ x ∈ xs, x < 256) (j : Nat) : wordOf xs j < 4294967296 := by
  have h0 := getD_lt xs hx (4 * j)
  have h1 := getD_lt xs hx (4 * j + 1)
  have h2 := getD_lt xs hx (4 * j + 2)
  have h3 := getD_lt xs hx (4 * j + 3)
  unfold wordOf; omega
theorem word_step (xs : List Nat) (k : Nat) (hx : ∀ x ∈ xs, x < 256) :
    wordOf (xs.take k) (k / 4) ||| (xs.getD k 0 * 2 ^ (8 * (3 - k % 4)) % 4294967296) = wordOf (xs.take (k + 1)) (k / 4) := by
  have h := getD_lt xs hx k
  have h0 := getD_lt xs hx (4 * (k / 4))
  have h1 := getD_lt xs hx (4 * (k / 4) + 1)
  have h2 := getD_lt xs hx (4 * (k / 4) + 2)
  have h3 := getD_lt xs hx (4 * (k / 4) + 3)
  unfold wordOf
  simp only [getD_take]
  have hc : k = 4 * (k / 4) ∨ k = 4 * (k / 4) + 1 ∨ k = 4 * (k / 4) + 2 ∨ k = 4 * (k / 4) + 3 := by omega
  generalize k / 4 = q at *
  rcases hc with rfl | rfl | rfl | rfl
  · simp (disch := omega) only [if_pos, if_neg]
    have e : 8 * (3 - (4 * q) % 4) = 24 := by omega
    rw [e]
    generalize xs.getD (4 * q) 0 = x0 at *
    rw [nat_join 32 _ _ (by omega) (by omega)]
    omega
  · simp (disch := omega) only [if_pos, if_neg]
    have e : 8 * (3 - (4 * q + 1) % 4) = 16 := by omega
    rw [e, nat_join 24 _ _ (by omega) (by omega)]
    omega
  · simp (disch := omega) only [if_pos, if_neg]
    have e : 8 * (3 - (4 * q + 2) % 4) = 8 := by omega
    rw [e, nat_join 16 _ _ (by omega) (by omega)]
    omega
  · simp (disch := omega) only [if_pos, if_neg]
    have e : 8 * (3 - (4 * q + 3) % 4) = 0 := by omega
    rw [e, nat_join 8 _ _ (by omega) (by omega)]
    omega
theorem word_other (xs : List Nat) (k j : Nat) (hj : j ≠ k / 4) : wordOf (xs.take (k + 1)) j = wordOf (xs.take k) j := by
  unfold wordOf
  simp only [getD_take]
  have e : ∀ i, 4 * j ≤ i → i < 4 * j + 4 → (i < k + 1 ↔ i < k) := fun i h1 h2 => by omega
  simp only [e (4 * j) (by omega) (by omega), e (4 * j + 1) (by omega) (by omega), e (4 * j + 2) (by omega) (by omega), e (4 * j + 3) (by omega) (by omega)]
theorem packed_step (xs : List Nat) (k n : Nat) (hk : k / 4 < n) :
    (packed (xs.take k) n).set (k / 4) (wordOf (xs.take (k + 1)) (k / 4)) = packed (xs.take (k + 1)) n := by
  apply List.ext_getElem?
  intro j
  unfold packed
  rw [List.getElem?_set]
  by_cases hj : j < n
  · by_cases h : k / 4 = j
    · rw [if_pos h]; subst h; simp [hj]
    · rw [if_neg h, List.getElem?_map, List.getElem?_map, List.getElem?_range hj]
      simp [word_other xs k j (Ne.symm h)]
  · rw [if_neg (by omega)]; simp [hj]
theorem packed_nil (n : Nat) : packed [] n = List.replicate n 0 := by
  apply List.ext_getElem?
  intro j
  unfold packed wordOf
  by_cases hj : j < n <;> simp [hj]

theorem Trydinfo34 : (Tryd.prog.info? 24).map (fun i => (i.zero, i.size, i.bytes)) = some (some (.int .u32 0), 1, 4) := by kernel_rfl
set_option maxHeartbeats 1600000 in
theorem pack_n (a : Option Addr) (len cap N : Nat) (xs : List Nat) (w : World) (hr : Reads .u8 w a len xs) (hx : ∀ x ∈ xs, x < 256) (hl : len ≤ 140737488355328) (hN1 : (len : Int) ≤ 4 * N) (hN2 : 4 * (N : Int) ≤ len + 3) :
    Calls Tryd.prog 32 #[.slice a len cap] w fun e w' => ∃ v, e = .returned v ∧ w'.ownsRow w.heap.size 24 1 v N ((packed xs N).map fun x : Nat => Value.int .u32 (x : Int)) ∧ Below w.heap.size w w' := by
  obtain ⟨i0, hi, hz0, hz1, hz2⟩ := info_parts Trydinfo34
  go_enter Tryd.func32, Tryd.ntmps32
  go_wp2_with fail
  refine (need_any len (by omega) (by omega) _).mono ?_
  rintro e w' ⟨rfl, n, rfl⟩
  rw [need_nat, show (len + 3) / 4 = N from by omega]
  go_wp2_with (at_make; refine wpList_make_full _ rfl _ _ 37 rfl w.heap.size 24 i0 (.int .u32 0) 1 Tryd.underlying37 hi hz0 hz1 _ _ _ _ N rfl rfl rfl rfl (by rw [hz2]; omega) (by unfold maxLen; omega) (Nat.le_refl _) ?_)
  intro w1 hown hgrow
  go_wp2
  go_loopw [11] (fun i wr => ∃ k : Nat, k ≤ len ∧ i = .int .i64 k ∧ wr.ownsRow w.heap.size 24 1 (.slice (some ⟨w.heap.size, 0, none⟩) N N) N ((packed (xs.take k) N).map fun x : Nat => Value.int .u32 (x : Int)) ∧ Below w.heap.size w wr)
    (fun i _ => len - (intOf i).toNat)
  case atStart =>
    refine ⟨0, Nat.zero_le _, rfl, ?_, ((below_drewN (Below.refl _ _) n).grown hgrow (Nat.le_refl _) (fun k h => by cases h))⟩
    rw [List.take_zero, packed_nil, List.map_replicate]
    rw [toList_madeCells_one] at hown
    exact hown
  case round =>
    obtain ⟨k, hk, rfl, ho, hb⟩ := hrel
    by_cases hlt : k < len
    · obtain ⟨b, off, rfl, hbs, hc⟩ := hr.at hlt
      have c1 : wr.cell? ⟨b, off + k, none⟩ = some (.int .u8 ((xs.getD k 0 : Nat) : Int)) := (hb.cell (p := ⟨b, off + k, none⟩) hbs).trans (hc k hlt)
      have c2 : wr.cell? ⟨w.heap.size, k / 4, none⟩ = some (.int .u32 ((wordOf (xs.take k) (k / 4) : Nat) : Int)) := by
        rw [ho.cellAt _ (by omega)]
        unfold packed
        rw [List.getElem?_map, List.getElem?_map, List.getElem?_range (by omega)]
        rfl
      have f2 := ho.frozenAt (k / 4)
      have i1 : 0 ≤ (k : Int) / 4 := by omega
      have i2 : (k : Int) / 4 < N := by omega
      have i3 : 0 ≤ (k : Int) := by omega
      have q1 : Int.tdiv (k : Int) 4 = (k : Int) / 4 := Int.tdiv_eq_ediv_of_nonneg i3
      have q2 : IntKind.i64.wrap ((k : Int) / 4) = (k : Int) / 4 := IntWalk.i64_in _ (by omega)
      have HO := hid ho
      have HC := hid hc
      have HX := hid hx
      have hx1 := getD_lt xs hx k
      have hx2 := wordOf_lt (xs.take k) (fun x h => hx x (List.mem_of_mem_take h)) (k / 4)
      have HS := hid (word_step xs k hx)
      clear ho hc hx
      generalize hX1 : xs.getD k 0 = x1 at *
      generalize hX2 : wordOf (xs.take k) (k / 4) = x2 at *
      clear hX1 hX2
      go_wp2
      refine tail.region 15 (by kernel_rfl) (by kernel_rfl) ?_
      simp only [List.take_succ_cons, List.take_zero, List.drop_succ_cons, List.drop_zero]
      repeat (go_big_quiet_step ((go_at_call 35; exact quietAt (shift_any k (by omega) _))))
      refine wpQuiet_nil ?_
      rintro _ ⟨nq, rfl⟩
      go_wp2
      have e : bits .or .u32 (x2 : Int) ((x1 : Int) * 2 ^ (8 * (3 - k % 4)) % 4294967296) = ((wordOf (xs.take (k + 1)) (k / 4) : Nat) : Int) := by
        rw [← HS.out, ← u32_or_nat _ _ hx2 (Nat.mod_lt _ (by decide))]
        simp
      rw [e]
      have hst := (HO.out.drewN nq).stored (k / 4) (.int .u32 ((wordOf (xs.take (k + 1)) (k / 4) : Nat) : Int))
      have hmap : ((packed (xs.take k) N).map fun x : Nat => Value.int .u32 (x : Int)).set (k / 4) (.int .u32 ((wordOf (xs.take (k + 1)) (k / 4) : Nat) : Int)) = (packed (xs.take (k + 1)) N).map fun x : Nat => Value.int .u32 (x : Int) := by
        rw [← packed_step xs k N (by omega), List.map_set]
      rw [hmap] at hst
      exact ⟨⟨k + 1, by omega, by go_num, hst.1, (below_drewN hb nq).grown hst.2 (by simp [hb.size]) (fun j h => by cases h; exact Nat.le_refl _)⟩, by simp [intOf]; omega⟩
    · go_wp2
      go_ret
      have : k = len := by omega
      subst this
      rw [List.take_of_length_le (by rw [hr.1]; exact Nat.le_refl _)] at ho
      exact ⟨_, rfl, ho, hb⟩
end Go.Proofs.YtlpbfkfamanaiaaDoor.word
