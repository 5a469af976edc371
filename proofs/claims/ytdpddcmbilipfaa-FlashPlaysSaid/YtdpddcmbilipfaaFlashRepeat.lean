/- Contracts of bits.Mul of 1 and a small number, and of slices.Repeat of one word, for at most 2^20 times. -/
import Derived.Test.YtdpddcmbilipfaaFlashClone
import Derived.Test.YtdpddcmbilipfaaPerm
import Derived.Deep.WholeRow
namespace Go.Proofs.Ytdpddcmbilipfaa.flash
open Go.RowKit Go.Proofs.Ytdpddcmbilipfaa.word
set_option linter.unusedVariables false

theorem mul64_any (n : Nat) (hn : n < 4294967296) (w : World) : Calls Try.prog 46 #[.int .u64 1, .int .u64 n] w (Quiet (.tuple #[.int .u64 0, .int .u64 n]) w) := by
  have e1 : bits .and .u64 (n : Int) 4294967295 = (n : Int) := by
    have := u64_and_nat n 4294967295 (by omega) (by omega)
    rw [show n &&& 4294967295 = n % 2 ^ 32 from Nat.and_two_pow_sub_one_eq_mod n 32, Nat.mod_eq_of_lt (by omega)] at this
    exact this
  have e2 : bits .and .u64 1 4294967295 = 1 := by decide +kernel
  have e3 : bits .and .u64 0 4294967295 = 0 := by decide +kernel
  have e4 : (n : Int) / 4294967296 = 0 := by omega
  go_enter Try.func46, Try.ntmps46
  go_wp2
  go_ret2
  exact ⟨rfl, 0, rfl⟩
theorem mul_any (n : Nat) (hn : n < 4294967296) (w : World) : Calls Try.prog 42 #[.int .u64 1, .int .u64 n] w (Quiet (.tuple #[.int .u64 0, .int .u64 n]) w) := by
  have c := mul64_any n hn w
  go_enter Try.func42, Try.ntmps42
  go_wp2_with (go_at_call 46; (with_reducible refine c.mono ?_); rintro e w' ⟨rfl, m, rfl⟩)
  go_ret2
  exact ⟨rfl, _, rfl⟩

theorem own_block {w : World} {base e n g : Nat} {xs : List Value} (h : w.ownsRow base e 1 (.slice (some ⟨g, 0, none⟩) n n) n xs) : Block w g e xs := by
  obtain ⟨hl, hr⟩ := h
  rcases hr with ⟨hv, h0⟩ | ⟨g', cap, cur, hv, hb, hg, h1, h2, h3, h4⟩
  · cases hv
  · cases hv
    unfold Block
    rw [hg, ← h4, List.take_of_length_le (by simp [h3])]
theorem info_u32 : (Try.prog.info? 32).map (·.size) = some 1 := by kernel_rfl
/-- v, k times, then 0 -/
def part (v k N : Nat) : List Value := List.replicate k (.int .u32 (v : Int)) ++ List.replicate (N - k) (.int .u32 0)
theorem part_step (v k N c : Nat) (h : k + c ≤ N) : put (part v k N) k (List.replicate c (.int .u32 (v : Int))) = part v (k + c) N := by
  have := put_mid (List.replicate k (.int .u32 (v : Int))) (List.replicate c (.int .u32 0)) (List.replicate (N - (k + c)) (.int .u32 0)) (List.replicate c (.int .u32 (v : Int))) (by simp)
  rw [List.append_assoc, List.replicate_append_replicate, show c + (N - (k + c)) = N - k by omega, List.length_replicate, List.replicate_append_replicate] at this
  exact this
theorem part_get (v k N j : Nat) (h : j < k) : (part v k N)[j]? = some (.int .u32 (v : Int)) := by
  rw [part, List.getElem?_append_left (by simpa using h)]
  simp [h]
theorem part_length (v k N : Nat) (h : k ≤ N) : (part v k N).length = N := by simp [part]; omega
set_option maxHeartbeats 16000000 in
theorem repeat_any (g0 v N : Nat) (w : World) (hc : w.cell? ⟨g0, 0, none⟩ = some (.int .u32 v)) (hg0 : g0 < w.heap.size) (h1 : 1 ≤ N) (h2 : N ≤ 1048576) :
    Calls Try.prog 26 #[.slice (some ⟨g0, 0, none⟩) 1 1, .int .i64 N] w fun e w' => ∃ g, e = .returned (.slice (some ⟨g, 0, none⟩) N N) ∧ w.heap.size ≤ g ∧ Row w' 32 .u32 g N (List.replicate N v) ∧ Below w.heap.size w w' := by
  have cm := mul_any N (by omega) w
  obtain ⟨i0, hi, hz0, hz1, hz2⟩ := info_parts u32_info
  go_enter Try.func26, Try.ntmps26
  go_wp2_with (first
    | (go_at_call 42; (with_reducible refine cm.mono ?_); rintro e w' ⟨rfl, m, rfl⟩)
    | (at_make; refine wpList_make_full _ rfl _ _ 33 rfl w.heap.size 32 i0 (.int .u32 0) 1 Try.underlying33 hi hz0 hz1 _ _ _ _ N rfl rfl rfl rfl (by rw [hz2]; omega) (by unfold maxLen; omega) (Nat.le_refl _) ?_))
  intro w1 hown hgrow
  have hB := own_block hown
  rw [toList_madeCells_one] at hB
  have hb1 : Below w.heap.size w w1 := Below.grown ((Below.refl _ w).trans (below_drewN (Below.refl _ _) m)) hgrow (Nat.le_refl _) (fun k h => by cases h)
  have hc1 : w1.cell? ⟨g0, 0, none⟩ = some (.int .u32 v) := by rw [hb1.cell (p := ⟨g0, 0, none⟩) hg0]; exact hc
  have hsz : (w.drewN m).heap.size = w.heap.size := rfl
  have HCS : Hid (∀ j u, [Value.int .u32 (v : Int)][j]? = some u → w1.cell? ((⟨g0, 0, none⟩ : Addr).add j) = some u) := hid (by
    intro j u hj
    have hj1 : j = 0 := by have := (List.getElem?_eq_some_iff.1 hj).1; simp at this; omega
    subst hj1
    cases hj
    rw [Addr.add_lit]
    exact hc1)
  have HN : Hid ([Value.int .u32 (v : Int)].length = Nat.min 1 N) := hid (by rw [show Nat.min 1 N = 1 from Nat.min_eq_left h1]; rfl)
  have HTH : Hid (w1.there w.heap.size 0 [Value.int .u32 (v : Int)].length) := hid (hB.there 0 1 (by simp; omega))
  have H1 : Hid (∀ u ∈ [Value.int .u32 (v : Int)], u.oneCell' = true) := hid (one_cell rfl)
  have HB := hid hB
  have Hb1 := hid hb1
  clear hB hb1 hown hgrow hc hc1
  go_wp2_with (with_reducible refine wpList_copy_block rfl (.tmp 31) (.tmp 32) 33 33 rfl 32 Try.underlying33 info_u32 w.heap.size 0 N N ⟨g0, 0, none⟩ 1 1 rfl rfl [.int .u32 (v : Int)] HN.out HCS.out HTH.out H1.out ?_)
  have hB2 : Block (w1.setCells w.heap.size 0 [.int .u32 (v : Int)]) w.heap.size 32 (part v 1 N) := by
    have h := HB.out.setCells (vs := [.int .u32 (v : Int)]) (o := 0)
    have e := part_step v 0 N 1 (by omega)
    have e0 : part v 0 N = List.replicate N (Value.int .u32 0) := by simp [part]
    rw [e0] at e
    rw [Nat.zero_add] at e
    rw [← e]
    exact h
  have hb2 := below_setCells Hb1.out (Nat.le_refl _) 0 [.int .u32 (v : Int)]
  have HB2 := hid hB2
  have Hb2 := hid hb2
  clear hB2 hb2 HB Hb1 HCS HN HTH H1
  go_loopw [8] (fun i wr => ∃ k : Nat, 1 ≤ k ∧ k ≤ N ∧ i = .int .i64 (k : Int) ∧ Hid (Block wr w.heap.size 32 (part v k N)) ∧ Hid (Below w.heap.size w wr)) (fun i _ => N - (intOf i).toNat)
  case atStart => exact ⟨1, Nat.le_refl _, h1, rfl, HB2, Hb2⟩
  case round =>
    obtain ⟨k, hk1, hk, rfl, hB, hb⟩ := hrel
    by_cases hlt : k < N
    · obtain ⟨c, hcd⟩ : ∃ c, c = Nat.min k (N - k) := ⟨_, rfl⟩
      have hcd' : c = if k ≤ N - k then k else N - k := by rw [hcd]; exact Nat.min_def
      have hc1 : 1 ≤ c ∧ c ≤ k ∧ k + c ≤ N := by split at hcd' <;> omega
      have i1 : (k : Int) ≤ N := by omega
      have i2 : (k : Int) < N := by omega
      have i3 : ¬ (N = k) := by omega
      have HCS : Hid (∀ j u, (List.replicate c (Value.int .u32 (v : Int)))[j]? = some u → wr.drew.cell? ((⟨w.heap.size, 0, none⟩ : Addr).add j) = some u) := hid (by
        intro j u hj
        have hj1 : j < c := by have := (List.getElem?_eq_some_iff.1 hj).1; simpa using this
        simp [hj1] at hj
        subst hj
        rw [Addr.add_lit, Nat.zero_add]
        have := hB.out.cell j
        rw [part_get v k N j (by omega)] at this
        exact this)
      have HN : Hid ((List.replicate c (Value.int .u32 (v : Int))).length = Nat.min k (N - k)) := hid (by rw [List.length_replicate]; exact hcd)
      have HTH : Hid (wr.drew.there w.heap.size k (List.replicate c (Value.int .u32 (v : Int))).length) := hid ((hB.out.drewN 1).there k _ (by rw [part_length v k N hk, List.length_replicate]; omega))
      have H1 : Hid (∀ u ∈ List.replicate c (Value.int .u32 (v : Int)), u.oneCell' = true) := hid (fun u hu => by rw [List.eq_of_mem_replicate hu]; rfl)
      have hgl : ((List.replicate c (Value.int .u32 (v : Int))).length : Int) = c := by rw [List.length_replicate]
      clear hcd hcd'
      go_wp2
      refine perm.region [0, 1, 2, 3, 4, 5, 6] [7, 8, 9] (by kernel_rfl) (by kernel_rfl) ?_
      simp only [perm.pickOps, perm.nth, List.cons_append, List.nil_append]
      repeat (go_big_quiet_step (fail))
      refine wpQuiet_nil ?_
      trace_state
      go_wp2_with (with_reducible refine wpList_copy_block rfl (.tmp 41) (.tmp 44) 33 33 rfl 32 Try.underlying33 info_u32 w.heap.size k (N - k) (N - k) ⟨w.heap.size, 0, none⟩ k N rfl rfl (List.replicate c (.int .u32 (v : Int))) HN.out HCS.out HTH.out H1.out ?_)
      refine NoPanic.normal ?_
      go_wp2
      refine ⟨⟨k + c, by omega, hc1.2.2, by go_num, ?_, hid (below_setCells (below_drewN hb.out 1) (Nat.le_refl _) k _)⟩, by simp [intOf]; omega⟩
      have := (hB.out.drewN 1).setCells (vs := List.replicate c (.int .u32 (v : Int))) (o := k)
      rw [part_step v k N c hc1.2.2] at this
      exact hid this
    · obtain rfl : k = N := by omega
      go_wp2
      go_ret
      have hB' := hB.out
      refine ⟨w.heap.size, rfl, Nat.le_refl _, ⟨[], ?_, by simp, by unfold maxLen; omega⟩, hb.out⟩
      simpa [part] using hB'
end Go.Proofs.Ytdpddcmbilipfaa.flash
