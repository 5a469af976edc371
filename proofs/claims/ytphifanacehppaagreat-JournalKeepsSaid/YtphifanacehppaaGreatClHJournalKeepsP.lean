/- Lemmas of the claim HJournalKeeps. Each says its own conditions. -/
import Derived.Test.YtphifanacehppaaGreatCmF
import Derived.Test.YtphifanacehppaaGreatCmE
import Derived.Test.YtphifanacehppaaGreatClHJournalKeepsD
import Derived.Deep.WholeRow
import Derived.Test.YtphifanacehppaaGreatClHJournalKeepsE
import Derived.Conc.WalkWords
import Derived.Test.YtphifanacehppaaGreatClHJournalKeepsM
/- Contract of a drive's New. No condition. -/
namespace Go.Proofs.YtphifanacehppaaGreat.drive
open Go.RowKit Go.Proofs.YtphifanacehppaaGreat.flash Go.Proofs.YtphifanacehppaaGreat.geom Go.Proofs.YtphifanacehppaaGreat.word
set_option linter.unusedVariables false

theorem new_none (g : Geo) (w : World) : Calls Tryz.prog 30 #[.pointer none, .agg #[.int .i64 g.sector, .int .i64 g.slot, .int .i64 g.data, .int .i64 g.quota, .int .i64 g.tries, .int .i64 g.life]] w fun e w' => e = .returned (.tuple #[.pointer none, .int .i64 1]) ∧ Below w.heap.size w w' := by
  go_enter Tryz.func30, Tryz.ntmps30
  go_wp2
  go_ret2
  exact ⟨rfl, (Below.refl _ _).alloc (Nat.le_refl _) _⟩
theorem size_from {S : Nat → Prop} {b : Nat} {F : Fl} {w0 w : World} (h : FlashAt S b F w0) (hb : Below w0.heap.size w0 w) : Calls Tryz.prog 53 #[.pointer (some ⟨b, 0, none⟩)] w fun e w' => e = .returned (.tuple #[.int .i64 (F.worn.length : Int), .int .i64 (F.long : Int)]) ∧ Below w0.heap.size w0 w' := by
  obtain ⟨ca, cb, cm, bw, cw, bv, cv, h1⟩ := h.later hb
  refine (size_any b F.long F.worn.length cv _ w h1.cell.2.2.2.2.1 h1.cell.2.2.2.2.2.1).mono ?_
  rintro e w' ⟨he, n, rfl⟩
  exact ⟨he, below_drewN hb n⟩
theorem new_bad {S : Nat → Prop} {b : Nat} {F : Fl} {w : World} (h : FlashAt S b F w) (g : Geo) (hn : ¬ (g.Right ∧ (F.worn.length : Int) = g.sectors ∧ (F.long : Int) = g.sector)) :
    Calls Tryz.prog 30 #[.pointer (some ⟨b, 0, none⟩), .agg #[.int .i64 g.sector, .int .i64 g.slot, .int .i64 g.data, .int .i64 g.quota, .int .i64 g.tries, .int .i64 g.life]] w fun e w' => e = .returned (.tuple #[.pointer none, .int .i64 2]) ∧ Below w.heap.size w w' := by
  have HS := hid (six g w)
  have HB := hid (belowNew g w)
  have hb0 : Below (w.alloc (.cells #[.int .i64 g.sector, .int .i64 g.slot, .int .i64 g.data, .int .i64 g.quota, .int .i64 g.tries, .int .i64 g.life] 23)).heap.size (w.alloc (.cells #[.int .i64 g.sector, .int .i64 g.slot, .int .i64 g.data, .int .i64 g.quota, .int .i64 g.tries, .int .i64 g.life] 23)) (w.alloc (.cells #[.int .i64 g.sector, .int .i64 g.slot, .int .i64 g.data, .int .i64 g.quota, .int .i64 g.tries, .int .i64 g.life] 23)) := Below.refl _ _
  have hk0 := HS.out _ hb0
  by_cases hr : g.Right
  · have cc := fun w1 hb => check_yes_at g hr (w.alloc (.cells #[.int .i64 g.sector, .int .i64 g.slot, .int .i64 g.data, .int .i64 g.quota, .int .i64 g.tries, .int .i64 g.life] 23)) w1 hb
    have cz := fun w1 hb => size_from (h.later ((Below.refl _ w).alloc (Nat.le_refl _) (.cells #[.int .i64 g.sector, .int .i64 g.slot, .int .i64 g.data, .int .i64 g.quota, .int .i64 g.tries, .int .i64 g.life] 23))) (w := w1) hb
    have cs := fun w1 hb => sectors_from g (w.alloc (.cells #[.int .i64 g.sector, .int .i64 g.slot, .int .i64 g.data, .int .i64 g.quota, .int .i64 g.tries, .int .i64 g.life] 23)) w1 hb
    have hn2 : ¬ ((F.worn.length : Int) = g.sectors ∧ (F.long : Int) = g.sector) := fun k => hn ⟨hr, k⟩
    clear h hn hr
    generalize (F.worn.length : Int) = n1 at *
    generalize (F.long : Int) = n2 at *
    generalize hT : g.sectors = T at *
    clear hT
    by_cases h1 : n1 = T
    · subst h1
      have h2 : ¬ n2 = g.sector := fun k => hn2 ⟨rfl, k⟩
      clear hn2
      go_enter Tryz.func30, Tryz.ntmps30
      go_wp2_with (first
        | (go_at_call 52; (with_reducible refine (cc _ hb0).mono ?_); rintro e w1 ⟨rfl, hb1⟩; have hk1 := HS.out _ hb1)
        | (go_at_call 53; (with_reducible refine (cz _ hb1).mono ?_); rintro e w2 ⟨rfl, hb2⟩; have hk2 := HS.out _ hb2)
        | (go_at_call 54; (with_reducible refine (cs _ hb2).mono ?_); rintro e w3 ⟨rfl, hb3⟩; have hk3 := HS.out _ hb3))
      go_ret2
      exact ⟨rfl, HB.out _ hb3⟩
    · clear hn2
      go_enter Tryz.func30, Tryz.ntmps30
      go_wp2_with (first
        | (go_at_call 52; (with_reducible refine (cc _ hb0).mono ?_); rintro e w1 ⟨rfl, hb1⟩; have hk1 := HS.out _ hb1)
        | (go_at_call 53; (with_reducible refine (cz _ hb1).mono ?_); rintro e w2 ⟨rfl, hb2⟩; have hk2 := HS.out _ hb2)
        | (go_at_call 54; (with_reducible refine (cs _ hb2).mono ?_); rintro e w3 ⟨rfl, hb3⟩; have hk3 := HS.out _ hb3))
      go_ret2
      exact ⟨rfl, HB.out _ hb3⟩
  · have cc := fun w1 hb => check_no_at g hr (w.alloc (.cells #[.int .i64 g.sector, .int .i64 g.slot, .int .i64 g.data, .int .i64 g.quota, .int .i64 g.tries, .int .i64 g.life] 23)) w1 hb
    clear h hn hr
    go_enter Tryz.func30, Tryz.ntmps30
    go_wp2_with (go_at_call 52; (with_reducible refine (cc _ hb0).mono ?_); rintro e w1 ⟨rfl, hb1⟩; have hk1 := HS.out _ hb1)
    go_ret2
    exact ⟨rfl, HB.out _ hb1⟩
theorem new_this {S : Nat → Prop} {b : Nat} {F : Fl} {w : World} (h : FlashAt S b F w) {g : Geo} (ft : Fit F g) :
    Calls Tryz.prog 30 #[.pointer (some ⟨b, 0, none⟩), .agg #[.int .i64 g.sector, .int .i64 g.slot, .int .i64 g.data, .int .i64 g.quota, .int .i64 g.tries, .int .i64 g.life]] w fun e w' => ∃ d, e = .returned (.tuple #[.pointer (some ⟨d, 0, none⟩), .int .i64 0]) ∧ w.heap.size ≤ d ∧ Block w' d 109 [.pointer (some ⟨b, 0, none⟩), .int .i64 g.sector, .int .i64 g.slot, .int .i64 g.data, .int .i64 g.quota, .int .i64 g.tries, .int .i64 g.life] ∧ Below w.heap.size w w' := by
  have HS := hid (six g w)
  have HB := hid (belowNew g w)
  have hb0 : Below (w.alloc (.cells #[.int .i64 g.sector, .int .i64 g.slot, .int .i64 g.data, .int .i64 g.quota, .int .i64 g.tries, .int .i64 g.life] 23)).heap.size (w.alloc (.cells #[.int .i64 g.sector, .int .i64 g.slot, .int .i64 g.data, .int .i64 g.quota, .int .i64 g.tries, .int .i64 g.life] 23)) (w.alloc (.cells #[.int .i64 g.sector, .int .i64 g.slot, .int .i64 g.data, .int .i64 g.quota, .int .i64 g.tries, .int .i64 g.life] 23)) := Below.refl _ _
  have hk0 := HS.out _ hb0
  have cc := fun w1 hb => check_yes_at g ft.right (w.alloc (.cells #[.int .i64 g.sector, .int .i64 g.slot, .int .i64 g.data, .int .i64 g.quota, .int .i64 g.tries, .int .i64 g.life] 23)) w1 hb
  have cz := fun w1 hb => size_from (h.later ((Below.refl _ w).alloc (Nat.le_refl _) (.cells #[.int .i64 g.sector, .int .i64 g.slot, .int .i64 g.data, .int .i64 g.quota, .int .i64 g.tries, .int .i64 g.life] 23))) (w := w1) hb
  have cs := fun w1 hb => sectors_from g (w.alloc (.cells #[.int .i64 g.sector, .int .i64 g.slot, .int .i64 g.data, .int .i64 g.quota, .int .i64 g.tries, .int .i64 g.life] 23)) w1 hb
  rw [ft.n, ft.l] at cz
  clear h ft
  generalize hT : g.sectors = T at *
  clear hT
  go_enter Tryz.func30, Tryz.ntmps30
  go_wp2_with (first
    | (go_at_call 52; (with_reducible refine (cc _ hb0).mono ?_); rintro e w1 ⟨rfl, hb1⟩; have hk1 := HS.out _ hb1)
    | (go_at_call 53; (with_reducible refine (cz _ hb1).mono ?_); rintro e w2 ⟨rfl, hb2⟩; have hk2 := HS.out _ hb2)
    | (go_at_call 54; (with_reducible refine (cs _ hb2).mono ?_); rintro e w3 ⟨rfl, hb3⟩; have hk3 := HS.out _ hb3))
  go_ret2
  have hbw := HB.out _ hb3
  exact ⟨_, rfl, hbw.size, Block.new w3 _ [.pointer (some ⟨b, 0, none⟩), .int .i64 g.sector, .int .i64 g.slot, .int .i64 g.data, .int .i64 g.quota, .int .i64 g.tries, .int .i64 g.life], hbw.trans (((Below.refl _ w3).alloc (Nat.le_refl _) _).mono hbw.size)⟩
end Go.Proofs.YtphifanacehppaaGreat.drive
/- Contracts of bits.Mul of 1 and a small number, and of slices.Repeat of one word, for at most 2^20 times. -/
namespace Go.Proofs.YtphifanacehppaaGreat.flash
open Go.RowKit Go.Proofs.YtphifanacehppaaGreat.word
set_option linter.unusedVariables false

theorem mul64_any (n : Nat) (hn : n < 4294967296) (w : World) : Calls Tryz.prog 99 #[.int .u64 1, .int .u64 n] w (Quiet (.tuple #[.int .u64 0, .int .u64 n]) w) := by
  have e1 : bits .and .u64 (n : Int) 4294967295 = (n : Int) := by
    have := u64_and_nat n 4294967295 (by omega) (by omega)
    rw [show n &&& 4294967295 = n % 2 ^ 32 from Nat.and_two_pow_sub_one_eq_mod n 32, Nat.mod_eq_of_lt (by omega)] at this
    exact this
  have e2 : bits .and .u64 1 4294967295 = 1 := by decide +kernel
  have e3 : bits .and .u64 0 4294967295 = 0 := by decide +kernel
  have e4 : (n : Int) / 4294967296 = 0 := by omega
  go_enter Tryz.func99, Tryz.ntmps99
  go_wp2
  go_ret2
  exact ⟨rfl, 0, rfl⟩
theorem mul_any (n : Nat) (hn : n < 4294967296) (w : World) : Calls Tryz.prog 74 #[.int .u64 1, .int .u64 n] w (Quiet (.tuple #[.int .u64 0, .int .u64 n]) w) := by
  have c := mul64_any n hn w
  go_enter Tryz.func74, Tryz.ntmps74
  go_wp2_with (go_at_call 99; (with_reducible refine c.mono ?_); rintro e w' ⟨rfl, m, rfl⟩)
  go_ret2
  exact ⟨rfl, _, rfl⟩

theorem own_block {w : World} {base e n g : Nat} {xs : List Value} (h : w.ownsRow base e 1 (.slice (some ⟨g, 0, none⟩) n n) n xs) : Block w g e xs := by
  obtain ⟨hl, hr⟩ := h
  rcases hr with ⟨hv, h0⟩ | ⟨g', cap, cur, hv, hb, hg, h1, h2, h3, h4⟩
  · cases hv
  · cases hv
    unfold Block
    rw [hg, ← h4, List.take_of_length_le (by simp [h3])]
theorem info_u32 : (Tryz.prog.info? 43).map (·.size) = some 1 := by kernel_rfl
/-- v, k times, then 0 -/
def part (v k N : Nat) : List Value := List.replicate k (.int .u32 (v : Int)) ++ List.replicate (N - k) (.int .u32 0)
theorem part_step (v k N c : Nat) (h : k + c ≤ N) : put (part v k N) k (List.replicate c (.int .u32 (v : Int))) = part v (k + c) N := by
  have := put_mid (List.replicate k (.int .u32 (v : Int))) (List.replicate c (.int .u32 0)) (List.replicate (N - (k + c)) (.int .u32 0)) (List.replicate c (.int .u32 (v : Int))) (by simp)
  rw [List.append_assoc, List.replicate_append_replicate, show c + (N - (k + c)) = N - k by omega, List.length_replicate, List.replicate_append_replicate] at this
  exact this
theorem part_get (v k N j : Nat) (h : j < k) : (part v k N)[j]? = some (.int .u32 (v : Int)) := by
  rw [part, List.getElem?_append_left (by simpa using h)]
  simp [h]
theorem part_length (v k N : Nat) (h : k ≤ N) : (part v k N).length = N := by simp [part]; omega
set_option maxHeartbeats 16000000 in
set_option maxRecDepth 20000 in
theorem repeat_any (g0 v N : Nat) (w : World) (hc : w.cell? ⟨g0, 0, none⟩ = some (.int .u32 v)) (hg0 : g0 < w.heap.size) (h1 : 1 ≤ N) (h2 : N ≤ 1048576) :
    Calls Tryz.prog 51 #[.slice (some ⟨g0, 0, none⟩) 1 1, .int .i64 N] w fun e w' => ∃ g, e = .returned (.slice (some ⟨g, 0, none⟩) N N) ∧ w.heap.size ≤ g ∧ Row w' 43 .u32 g N (List.replicate N v) ∧ Below w.heap.size w w' := by
  have cm := mul_any N (by omega) w
  obtain ⟨i0, hi, hz0, hz1, hz2⟩ := info_parts u32_info
  go_enter Tryz.func51, Tryz.ntmps51
  go_wp2_with (first
    | (go_at_call 74; (with_reducible refine cm.mono ?_); rintro e w' ⟨rfl, m, rfl⟩)
    | (at_make; refine wpList_make_full _ rfl _ _ 24 rfl w.heap.size 43 i0 (.int .u32 0) 1 Tryz.underlying24 hi hz0 hz1 _ _ _ _ N rfl rfl rfl rfl (by rw [hz2]; omega) (by unfold maxLen; omega) (Nat.le_refl _) ?_))
  intro w1 hown hgrow
  have hB := own_block hown
  rw [toList_madeCells_one] at hB
  have hb1 : Below w.heap.size w w1 := Below.grown ((Below.refl _ w).trans (below_drewN (Below.refl _ _) m)) hgrow (Nat.le_refl _) (fun k h => by cases h)
  have hc1 : w1.cell? ⟨g0, 0, none⟩ = some (.int .u32 v) := by rw [hb1.cell (p := ⟨g0, 0, none⟩) hg0]; exact hc
  have hsz : (w.drewN m).heap.size = w.heap.size := rfl
  have HCS : Hid (∀ j u, [Value.int .u32 (v : Int)][j]? = some u → w1.cell? ((⟨g0, 0, none⟩ : Addr).add j) = some u) := hid (by
    intro j u hj
    have hj1 : j = 0 := by have := (List.getElem?_eq_some_iff.1 hj).1; simp at this; omega
    subst hj1
    cases hj
    rw [Addr.add_lit]
    exact hc1)
  have HN : Hid ([Value.int .u32 (v : Int)].length = Nat.min 1 N) := hid (by rw [show Nat.min 1 N = 1 from Nat.min_eq_left h1]; rfl)
  have HTH : Hid (w1.there w.heap.size 0 [Value.int .u32 (v : Int)].length) := hid (hB.there 0 1 (by simp; omega))
  have H1 : Hid (∀ u ∈ [Value.int .u32 (v : Int)], u.oneCell' = true) := hid (one_cell rfl)
  have HB := hid hB
  have Hb1 := hid hb1
  clear hB hb1 hown hgrow hc hc1
  go_wp2_with (with_reducible refine wpList_copy_block rfl (.tmp 31) (.tmp 32) 24 24 rfl 43 Tryz.underlying24 info_u32 w.heap.size 0 N N ⟨g0, 0, none⟩ 1 1 rfl rfl [.int .u32 (v : Int)] HN.out HCS.out HTH.out H1.out ?_)
  have hB2 : Block (w1.setCells w.heap.size 0 [.int .u32 (v : Int)]) w.heap.size 43 (part v 1 N) := by
    have h := HB.out.setCells (vs := [.int .u32 (v : Int)]) (o := 0)
    have e := part_step v 0 N 1 (by omega)
    have e0 : part v 0 N = List.replicate N (Value.int .u32 0) := by simp [part]
    rw [e0] at e
    rw [Nat.zero_add] at e
    rw [← e]
    exact h
  have hb2 := below_setCells Hb1.out (Nat.le_refl _) 0 [.int .u32 (v : Int)]
  have HB2 := hid hB2
  have Hb2 := hid hb2
  clear hB2 hb2 HB Hb1 HCS HN HTH H1
  go_loopw [8] (fun i wr => ∃ k : Nat, 1 ≤ k ∧ k ≤ N ∧ i = .int .i64 (k : Int) ∧ Hid (Block wr w.heap.size 43 (part v k N)) ∧ Hid (Below w.heap.size w wr)) (fun i _ => N - (intOf i).toNat)
  case atStart => exact ⟨1, Nat.le_refl _, h1, rfl, HB2, Hb2⟩
  case round =>
    obtain ⟨k, hk1, hk, rfl, hB, hb⟩ := hrel
    by_cases hlt : k < N
    · obtain ⟨c, hcd⟩ : ∃ c, c = Nat.min k (N - k) := ⟨_, rfl⟩
      have hcd' : c = if k ≤ N - k then k else N - k := by rw [hcd]; exact Nat.min_def
      have hc1 : 1 ≤ c ∧ c ≤ k ∧ k + c ≤ N := by split at hcd' <;> omega
      have i1 : (k : Int) ≤ N := by omega
      have i2 : (k : Int) < N := by omega
      have i3 : ¬ (N = k) := by omega
      have HCS : Hid (∀ j u, (List.replicate c (Value.int .u32 (v : Int)))[j]? = some u → wr.drew.cell? ((⟨w.heap.size, 0, none⟩ : Addr).add j) = some u) := hid (by
        intro j u hj
        have hj1 : j < c := by have := (List.getElem?_eq_some_iff.1 hj).1; simpa using this
        simp [hj1] at hj
        subst hj
        rw [Addr.add_lit, Nat.zero_add]
        have := hB.out.cell j
        rw [part_get v k N j (by omega)] at this
        exact this)
      have HN : Hid ((List.replicate c (Value.int .u32 (v : Int))).length = Nat.min k (N - k)) := hid (by rw [List.length_replicate]; exact hcd)
      have HTH : Hid (wr.drew.there w.heap.size k (List.replicate c (Value.int .u32 (v : Int))).length) := hid ((hB.out.drewN 1).there k _ (by rw [part_length v k N hk, List.length_replicate]; omega))
      have H1 : Hid (∀ u ∈ List.replicate c (Value.int .u32 (v : Int)), u.oneCell' = true) := hid (fun u hu => by rw [List.eq_of_mem_replicate hu]; rfl)
      have hgl : ((List.replicate c (Value.int .u32 (v : Int))).length : Int) = c := by rw [List.length_replicate]
      clear hcd hcd'
      go_wp2
      refine perm.region [0, 1, 2, 3, 4, 5, 6] [7, 8, 9] (by kernel_rfl) (by kernel_rfl) ?_
      simp only [perm.pickOps, perm.nth, List.cons_append, List.nil_append]
      repeat (go_big_quiet_step (fail))
      refine wpQuiet_nil ?_
      go_wp2_with (with_reducible refine wpList_copy_block rfl (.tmp 41) (.tmp 44) 24 24 rfl 43 Tryz.underlying24 info_u32 w.heap.size k (N - k) (N - k) ⟨w.heap.size, 0, none⟩ k N rfl rfl (List.replicate c (.int .u32 (v : Int))) HN.out HCS.out HTH.out H1.out ?_)
      refine NoPanic.normal ?_
      go_wp2
      refine ⟨⟨k + c, by omega, hc1.2.2, by go_num, ?_, hid (below_setCells (below_drewN hb.out 1) (Nat.le_refl _) k _)⟩, by simp [intOf]; omega⟩
      have := (hB.out.drewN 1).setCells (vs := List.replicate c (.int .u32 (v : Int))) (o := k)
      rw [part_step v k N c hc1.2.2] at this
      exact hid this
    · obtain rfl : k = N := by omega
      go_wp2
      go_ret
      have hB' := hB.out
      refine ⟨w.heap.size, rfl, Nat.le_refl _, ⟨[], ?_, by simp, by unfold maxLen; omega⟩, hb.out⟩
      simpa [part] using hB'
end Go.Proofs.YtphifanacehppaaGreat.flash
/- Contract of New of layer 7 (flash), for every argument. No condition. -/
namespace Go.Proofs.YtphifanacehppaaGreat.flash
open Go.RowKit Go.Proofs.YtphifanacehppaaGreat.word
set_option linter.unusedVariables false

theorem new_bad (s l : Int) (h : s < 1 ∨ 512 < s ∨ l < 1 ∨ 1024 < l) (w : World) : Calls Tryz.prog 28 #[.int .i64 s, .int .i64 l] w (Quiet (.tuple #[.pointer none, .int .i64 2]) w) := by
  by_cases h1 : s < 1
  · go_enter Tryz.func28, Tryz.ntmps28
    go_wp2
    go_ret2
    exact ⟨rfl, 0, rfl⟩
  · by_cases h2 : 512 < s
    · go_enter Tryz.func28, Tryz.ntmps28
      go_wp2
      go_ret2
      exact ⟨rfl, 0, rfl⟩
    · by_cases h3 : l < 1
      · clear h
        go_enter Tryz.func28, Tryz.ntmps28
        go_wp2
        go_ret2
        exact ⟨rfl, 0, rfl⟩
      · have h4 : 1024 < l := by omega
        clear h
        go_enter Tryz.func28, Tryz.ntmps28
        go_wp2
        go_ret2
        exact ⟨rfl, 0, rfl⟩
theorem exec_make {P : Program} {o : Oper} {a : Act} {w w' : World} {t : TypeId} {l c : Operand} {n : Nat} {v : Value} (ho : o.op = .makeSlice t l c) (hl : a.eval l = .int .i64 n) (hc : a.eval c = .int .i64 n)
    (hrun : (Instr.makeSlice t (.int .i64 n) (.int .i64 n)).run P w = .ok v w') : (execOp a.eval o).run P w = .ok (.value v) w' := by
  unfold execOp
  simp [ho, hl, hc, hrun, Result.andThen]
theorem int_row {w : World} {g n base : Nat} (h : w.ownsRow base 3 1 (.slice (some ⟨g, 0, none⟩) n n) n (madeCells (Value.int .i64 0).cells (n * 1)).toList) (hn : n ≤ 512) : Row w 3 .i64 g n (List.replicate n 0) := by
  have hB := own_block h
  rw [show (Value.int .i64 0).cells = #[.int .i64 0] from rfl, toList_madeCells_one, Nat.mul_one] at hB
  exact ⟨[], by simpa using hB, by simp, by unfold maxLen; omega⟩
set_option maxHeartbeats 16000000 in
set_option maxRecDepth 20000 in
theorem new_any (s l : Nat) (h1 : 1 ≤ s) (h2 : s ≤ 512) (h3 : 1 ≤ l) (h4 : l ≤ 1024) (w : World) :
    Calls Tryz.prog 28 #[.int .i64 s, .int .i64 l] w fun e w' => ∃ b, e = .returned (.tuple #[.pointer (some ⟨b, 0, none⟩), .int .i64 0]) ∧ FlashAt (fun k => w.heap.size ≤ k) b (Fl.fresh s l) w' ∧ Below w.heap.size w w' := by
  have hsl : s * l ≤ 524288 := Nat.mul_le_mul h2 h4
  have hpos : 1 ≤ s * l := Nat.mul_pos h1 h3
  have hw : IntKind.i64.wrap ((s : Int) * (l : Int)) = ((s * l : Nat) : Int) := by
    rw [show (s : Int) * (l : Int) = ((s * l : Nat) : Int) by simp]
    exact IntWalk.i64_in _ (by omega)
  obtain ⟨N, hN⟩ : ∃ N, N = s * l := ⟨_, rfl⟩
  rw [← hN] at hsl hpos hw
  obtain ⟨i0, hi, hz0, hz1, hz2⟩ := info_parts int_info
  go_enter Tryz.func28, Tryz.ntmps28
  go_wp2
  refine plan.region (by kernel_rfl) ?_
  refine plan.Rest.first 1 _ (.int .i64 s) rfl (by kernel_rfl) (by kernel_rfl) (by kernel_rfl) (by kernel_rfl) (fun _ _ => by kernel_rfl) ?_
  refine plan.Rest.first 2 _ (.int .i64 l) rfl (by kernel_rfl) (by kernel_rfl) (by kernel_rfl) (by kernel_rfl) (fun _ _ => by kernel_rfl) ?_
  refine plan.Rest.first 3 _ (.int .i64 N) rfl (by kernel_rfl) (by kernel_rfl) (by kernel_rfl) (by kernel_rfl) (fun _ _ => by rw [← hw]; kernel_rfl) ?_
  refine plan.Rest.first 5 _ (.int .i64 l) rfl (by kernel_rfl) (by kernel_rfl) (by kernel_rfl) (by kernel_rfl) (fun _ _ => by kernel_rfl) ?_
  refine plan.Rest.first 6 _ (.int .i64 s) rfl (by kernel_rfl) (by kernel_rfl) (by kernel_rfl) (by kernel_rfl) (fun _ _ => by kernel_rfl) ?_
  refine plan.Rest.to3 20 24 27 4 (fun b0 b4 b7 => #[b0, true, true, true, b4, true, true, b7, false, false, false, false]) (by kernel_rfl) (by kernel_rfl) (by kernel_rfl) ?_
  refine plan.three _ w.drew 0 4 7 20 24 27 4 (by decide) (by decide) (by decide) _ _ _ (fun b0 b4 b7 => #[b0, true, true, true, b4, true, true, b7, false, false, false, false])
    rfl rfl rfl rfl rfl rfl rfl rfl rfl (fun _ _ => rfl) (fun _ => rfl) (fun _ _ => rfl) (by kernel_rfl) (by kernel_rfl) (by kernel_rfl) (by kernel_rfl) (by kernel_rfl)
    (fun g => .slice (some ⟨g, 0, none⟩) 1 1) (fun g => .slice (some ⟨g, 0, none⟩) N N) (fun g => .slice (some ⟨g, 0, none⟩) s s)
    (fun g w' => Block w' g 43 [.int .u32 4294967295]) (fun g w' => Row w' 43 .u32 g N (List.replicate N 4294967295)) (fun g w' => Row w' 3 .i64 g s (List.replicate s 0)) 51 (fun g => #[.slice (some ⟨g, 0, none⟩) 1 1, .int .i64 N])
    (fun g w1 w2 h hb => h.later hb) (fun g w1 w2 h hb => h.later hb) (fun g w1 w2 h hb => h.later hb) (fun g w1 h => h.lt) (fun g w1 h => h.lt)
    ?r0 ?r7 (fun g v4 v7 w' => by kernel_rfl) ?k4 ?rest undef undef undef
  case r0 =>
    intro v0 v4 v7 w'
    exact ⟨w'.alloc (.cells #[.int .u32 4294967295] 43), by kernel_rfl, (Below.refl _ w').alloc (Nat.le_refl _) _, Block.new w' _ [.int .u32 4294967295]⟩
  case r7 =>
    intro v0 v4 v7 w'
    obtain ⟨w2, hrun, ho, hg⟩ := run_make_full (P := Tryz.prog) (w := w') w'.heap.size 80 3 i0 (.int .i64 0) 1 Tryz.underlying80 hi hz0 hz1 .i64 .i64 s (by rw [hz2]; omega) (by unfold maxLen; omega) (Nat.le_refl _)
    exact ⟨w2, exec_make rfl (by kernel_rfl) (by kernel_rfl) hrun, Below.grown (Below.refl _ _) hg (Nat.le_refl _) (fun k h => by cases h), int_row ho h2⟩
  case k4 =>
    intro g w' hB
    refine (repeat_any g 4294967295 N w' (by rw [hB.cell]; rfl) hB.lt hpos (by omega)).mono ?_
    rintro e w2 ⟨g', rfl, hg, hr, hb⟩
    exact ⟨g', rfl, hg, hr, hb⟩
  case rest =>
    intro g g' g'' w' hg' hg'' hne hR4 hR7 hb
    have hB8 : Below w.drew.heap.size w.drew (w'.alloc (.cells #[.bool false, .int .i64 0, .slice none 0 0, .slice (some ⟨g', 0, none⟩) N N, .int .i64 (l : Int), .slice (some ⟨g'', 0, none⟩) s s, .int .i64 0, .bool false] 90)) := hb.alloc hb.size _
    refine plan.one 8 _ (.agg #[.bool false, .int .i64 0, .slice none 0 0, .slice (some ⟨g', 0, none⟩) N N, .int .i64 (l : Int), .slice (some ⟨g'', 0, none⟩) s s, .int .i64 0, .bool false]) rfl rfl (by kernel_rfl) (by kernel_rfl) hb ?_
    refine plan.one 9 _ (.pointer (some ⟨w'.heap.size, 0, none⟩)) (w1 := w'.alloc (.cells #[.bool false, .int .i64 0, .slice none 0 0, .slice (some ⟨g', 0, none⟩) N N, .int .i64 (l : Int), .slice (some ⟨g'', 0, none⟩) s s, .int .i64 0, .bool false] 90)) rfl rfl (by kernel_rfl) (by kernel_rfl) hB8 ?_
    refine plan.one 10 _ (.pointer (some ⟨w'.heap.size, 0, none⟩)) rfl rfl (by kernel_rfl) (by kernel_rfl) hB8 ?_
    refine plan.one 11 _ (.int .i64 0) rfl rfl (by kernel_rfl) (by kernel_rfl) hB8 ?_
    refine ⟨by kernel_rfl, NoPanic.normal ?_⟩
    have HB8 := hid hB8
    have HR4 := hid hR4
    have HR7 := hid hR7
    have HG := hid hg'
    have HG2 := hid hg''
    have HNE := hid hne
    have HB := hid hb
    clear hB8 hR4 hR7 hg' hg'' hne hb
    simp only [plan.at3]
    walk_nrm
    go_wp2
    go_ret2
    have hs : w.heap.size ≤ w'.heap.size := HB.out.size
    have l4 := HR4.out.lt
    have l7 := HR7.out.lt
    have hal : Below w'.heap.size w' (w'.alloc (.cells #[.bool false, .int .i64 0, .slice none 0 0, .slice (some ⟨g', 0, none⟩) N N, .int .i64 (l : Int), .slice (some ⟨g'', 0, none⟩) s s, .int .i64 0, .bool false] 90)) := (Below.refl _ _).alloc (Nat.le_refl _) _
    refine ⟨w'.heap.size, rfl, ⟨.bool false, .int .i64 0, .slice none 0 0, g', N, g'', s, ?_, ⟨rfl, rfl, rfl⟩, ?_, ?_, by omega, by omega, HNE.out, hs, HG.out, HG2.out⟩, (Below.trans (below_drewN (Below.refl _ _) 1) HB8.out : Below w.heap.size w _)⟩
    · have := Block.new w' 90 [.bool false, .int .i64 0, .slice none 0 0, .slice (some ⟨g', 0, none⟩) N N, .int .i64 (l : Int), .slice (some ⟨g'', 0, none⟩) s s, .int .i64 0, .bool false]
      simpa [Fl.fresh, ← hN] using this
    · have := HR4.out.later hal
      simpa [Fl.fresh, ← hN] using this
    · exact HR7.out.later hal
end Go.Proofs.YtphifanacehppaaGreat.flash
/- Contracts at a flash of the call's own. No condition but a flash with fewer than 2^62 writes. -/
namespace Go.Proofs.YtphifanacehppaaGreat.flash
open Go.RowKit Go.Proofs.YtphifanacehppaaGreat.word
set_option linter.unusedVariables false

/-- a flash of the call's own -/
def Live (w0 : World) (b : Nat) (F : Fl) (w : World) : Prop := ∃ S, FlashAt S b F w ∧ (∀ x, S x → w0.heap.size ≤ x ∧ x < w.heap.size) ∧ Below w0.heap.size w0 w
section
variable {w0 w w' : World} {b : Nat} {F G : Fl}
theorem Live.later (h : Live w0 b F w) (k : Below w.heap.size w w') : Live w0 b F w' := by
  obtain ⟨S, h1, h2, h3⟩ := h
  exact ⟨S, h1.later k, fun x hx => ⟨(h2 x hx).1, Nat.lt_of_lt_of_le (h2 x hx).2 k.size⟩, h3.trans (k.mono h3.size)⟩
theorem Live.did {S : Nat → Prop} {v : Value} {e : Ending} (h2 : ∀ x, S x → w0.heap.size ≤ x ∧ x < w.heap.size) (h3 : Below w0.heap.size w0 w) (k : Did S b G v w e w') : e = .returned v ∧ Live w0 b G w' := by
  obtain ⟨he, S', k1, k2, k3⟩ := k
  refine ⟨he, S', k1, fun x hx => ⟨?_, (k2 x hx).1⟩, h3.trans (k3.below h3.size fun x hx => (h2 x hx).1)⟩
  rcases (k2 x hx).2 with h | h
  · exact (h2 x h).1
  · have := h3.size; omega
theorem Live.program (h : Live w0 b F w) (ok : F.Ok) (hc : F.count < 4611686018427387904) (a : Int) (x : Nat) (hx : x < 4294967296) :
    Calls Tryz.prog 97 #[.pointer (some ⟨b, 0, none⟩), .int .i64 a, .int .u32 x] w fun e w' => e = .returned (.int .i64 (F.program a x).1) ∧ Live w0 b (F.program a x).2 w' := by
  obtain ⟨S, h1, h2, h3⟩ := h
  exact (program_did h1 ok hc a x hx).mono fun e w' k => Live.did h2 h3 k
theorem Live.erase (h : Live w0 b F w) (ok : F.Ok) (hc : F.count < 4611686018427387904) (s : Int) :
    Calls Tryz.prog 78 #[.pointer (some ⟨b, 0, none⟩), .int .i64 s] w fun e w' => e = .returned (.int .i64 (F.erase s).1) ∧ Live w0 b (F.erase s).2 w' := by
  obtain ⟨S, h1, h2, h3⟩ := h
  exact (erase_did h1 ok hc s).mono fun e w' k => Live.did h2 h3 k
theorem Live.arm (h : Live w0 b F w) (ok : F.Ok) (n : Int) (hn : n ≤ 9223372036854775807) (a : Option Addr) (len cap : Nat) (M : List Nat) (hr : Reads .u32 w a len M) (hlc : len ≤ cap) (hlen : len ≤ 140737488355328) (hcap : cap ≤ maxLen) (hsep : len = 0 ∨ ∃ x, a = some x ∧ (x.block < w0.heap.size ∨ w.heap.size ≤ x.block)) :
    Calls Tryz.prog 13 #[.pointer (some ⟨b, 0, none⟩), .int .i64 n, .slice a len cap] w fun e w' => e = .returned (.tuple #[]) ∧ Live w0 b (F.arm n M) w' := by
  obtain ⟨S, h1, h2, h3⟩ := h
  refine (arm_did h1 ok n hn a len cap M hr hlc hlen hcap (hsep.imp id fun ⟨x, hx, ho⟩ => ⟨x, hx, fun hs => ?_⟩)).mono fun e w' k => Live.did h2 h3 k
  have := h2 _ hs
  omega
theorem Live.words (h : Live w0 b F w) (ok : F.Ok) : Calls Tryz.prog 36 #[.pointer (some ⟨b, 0, none⟩)] w fun e w' => ∃ g cap, e = .returned (.slice (some ⟨g, 0, none⟩) F.ws.length cap) ∧ w.heap.size ≤ g ∧ Row w' 43 .u32 g cap F.ws ∧ Below w.heap.size w w' ∧ Live w0 b F w' := by
  obtain ⟨S, ⟨ca, cb, cm, bw, cw, bv, cv, h1⟩, h2, h3⟩ := h
  refine (words_any h1 ok).mono ?_
  rintro e w' ⟨g, cap, he, hg, hr, hb⟩
  exact ⟨g, cap, he, hg, hr, hb, Live.later ⟨S, ⟨_, _, _, _, _, _, _, h1⟩, h2, h3⟩ hb⟩
theorem Live.gone (h : Live w0 b F w) : Calls Tryz.prog 90 #[.pointer (some ⟨b, 0, none⟩)] w (Quiet (.bool F.dark) w) := by
  obtain ⟨S, ⟨ca, cb, cm, bw, cw, bv, cv, h1⟩, h2, h3⟩ := h
  exact gone_any b _ w h1.cell.2.2.2.2.2.2.2
theorem Live.writes (h : Live w0 b F w) : Calls Tryz.prog 24 #[.pointer (some ⟨b, 0, none⟩)] w (Quiet (.int .i64 F.count) w) := by
  obtain ⟨S, ⟨ca, cb, cm, bw, cw, bv, cv, h1⟩, h2, h3⟩ := h
  exact writes_any b _ w h1.cell.2.2.2.2.2.2.1
theorem Live.size (h : Live w0 b F w) : Calls Tryz.prog 53 #[.pointer (some ⟨b, 0, none⟩)] w (Quiet (.tuple #[.int .i64 (F.worn.length : Int), .int .i64 (F.long : Int)]) w) := by
  obtain ⟨S, ⟨ca, cb, cm, bw, cw, bv, cv, h1⟩, h2, h3⟩ := h
  exact size_any b F.long F.worn.length cv _ w h1.cell.2.2.2.2.1 h1.cell.2.2.2.2.2.1
theorem new_live (s l : Nat) (h1 : 1 ≤ s) (h2 : s ≤ 512) (h3 : 1 ≤ l) (h4 : l ≤ 1024) (hb : Below w0.heap.size w0 w) :
    Calls Tryz.prog 28 #[.int .i64 s, .int .i64 l] w fun e w' => ∃ b, e = .returned (.tuple #[.pointer (some ⟨b, 0, none⟩), .int .i64 0]) ∧ Live w0 b (Fl.fresh s l) w' := by
  refine (new_any s l h1 h2 h3 h4 w).mono ?_
  rintro e w' ⟨b, he, ⟨ca, cb, cm, bw, cw, bv, cv, hA⟩, hb2⟩
  exact ⟨b, he, _, ⟨_, _, _, _, _, _, _, hA.clip⟩, fun x hx => ⟨Nat.le_trans hb.size hx.1, hx.2⟩, hb.trans (hb2.mono hb.size)⟩
end
end Go.Proofs.YtphifanacehppaaGreat.flash
/- A drive of the call's own. No condition but a flash with fewer than 2^60 writes. -/
namespace Go.Proofs.YtphifanacehppaaGreat.drive
open Go.RowKit Go.Proofs.YtphifanacehppaaGreat.flash Go.Proofs.YtphifanacehppaaGreat.geom Go.Proofs.YtphifanacehppaaGreat.word
set_option linter.unusedVariables false

theorem _root_.Go.Proofs.YtphifanacehppaaGreat.flash.Live.below {w0 w : World} {b : Nat} {F : Fl} (h : Live w0 b F w) : Below w0.heap.size w0 w := by obtain ⟨S, _, _, h⟩ := h; exact h
/-- a drive of the call's own, at d, over a flash of its own, at b -/
def Own (w0 : World) (d b : Nat) (g : Geo) (F : Fl) (w : World) : Prop :=
  ∃ S, DriveAt S d b g F w ∧ (∀ x, S x → w0.heap.size ≤ x ∧ x < w.heap.size) ∧ w0.heap.size ≤ d ∧ Below w0.heap.size w0 w
section
variable {w0 w w' : World} {d b : Nat} {g : Geo} {F G : Fl}
theorem Own.below (h : Own w0 d b g F w) : Below w0.heap.size w0 w := by obtain ⟨S, _, _, _, h⟩ := h; exact h
theorem Own.later (h : Own w0 d b g F w) (k : Below w.heap.size w w') : Own w0 d b g F w' := by
  obtain ⟨S, h1, h2, h3, h4⟩ := h
  exact ⟨S, h1.later k, fun x hx => ⟨(h2 x hx).1, Nat.lt_of_lt_of_le (h2 x hx).2 k.size⟩, h3, h4.trans (k.mono h4.size)⟩
theorem Own.turn {S : Nat → Prop} (h1 : DriveAt S d b g F w) (h2 : ∀ x, S x → w0.heap.size ≤ x ∧ x < w.heap.size) (h3 : w0.heap.size ≤ d) (h4 : Below w0.heap.size w0 w) (k : Turn S b G w w') : Own w0 d b g G w' := by
  obtain ⟨S', hD, k2, k3⟩ := h1.turn k
  refine ⟨S', hD, fun x hx => ⟨?_, (k2 x hx).1⟩, h3, h4.trans (k3.below h4.size fun x hx => (h2 x hx).1)⟩
  rcases (k2 x hx).2 with h | h
  · exact (h2 x h).1
  · have := h4.size; omega
/-- a Write of one word that has just been made -/
theorem own_write1 (h : Own w0 d b g F w) (ok : F.Ok) (ft : Fit F g) (hc : F.count < 2305843009213693952) (s a : Int) (ha : a ≤ 9223372036854775807) (v : Nat) (hv : v < 4294967296) :
    Calls Tryz.prog 73 #[.pointer (some ⟨d, 0, none⟩), .int .i64 s, .int .i64 a, .slice (some ⟨w.heap.size, 0, none⟩) 1 1] (w.alloc (.cells #[.int .u32 (v : Int)] 43)) fun e w' => e = .returned (.int .i64 (write F g s a [v]).1) ∧ Own w0 d b g (write F g s a [v]).2 w' := by
  have hb : Below w.heap.size w (w.alloc (.cells #[.int .u32 (v : Int)] 43)) := (Below.refl _ _).alloc (Nat.le_refl _) _
  have hr : Reads .u32 (w.alloc (.cells #[.int .u32 (v : Int)] 43)) (some ⟨w.heap.size, 0, none⟩) 1 [v] :=
    (Block.new w 43 [.int .u32 (v : Int)]).reads 0 [v] (fun i hi => by
      have : i = 0 := by simp at hi; omega
      subst this
      rfl) 1 rfl
  obtain ⟨S, h1, h2, h3, h4⟩ := h
  refine (write_this (h1.later hb) ok ft hc s a ha _ 1 1 [v] hr (fun y hy => by simp at hy; omega) (.inr ⟨_, rfl, fun hs => ?_⟩)).mono ?_
  · have h5 := (h2 _ hs).2
    exact absurd h5 (Nat.lt_irrefl _)
  · rintro e w' ⟨he, k⟩
    exact ⟨he, Own.turn (h1.later hb) (fun x hx => ⟨(h2 x hx).1, Nat.lt_of_lt_of_le (h2 x hx).2 hb.size⟩) h3 (h4.trans (hb.mono h4.size)) k⟩
theorem Own.writes (h : Own w0 d b g F w) : Calls Tryz.prog 24 #[.pointer (some ⟨b, 0, none⟩)] w (Quiet (.int .i64 F.count) w) := by
  obtain ⟨S, h1, _⟩ := h
  obtain ⟨ca, cb, cm, bw, cw, bv, cv, h⟩ := h1.fl
  exact writes_any b _ w h.cell.2.2.2.2.2.2.1
theorem Own.geometry (h : Own w0 d b g F w) : Calls Tryz.prog 44 #[.pointer (some ⟨d, 0, none⟩)] w fun e w' => e = .returned (.agg #[.int .i64 g.sector, .int .i64 g.slot, .int .i64 g.data, .int .i64 g.quota, .int .i64 g.tries, .int .i64 g.life]) ∧ Below w.heap.size w w' := by
  obtain ⟨S, h1, _⟩ := h
  exact geometry_any h1
/-- a new drive over a flash of the call's own -/
theorem new_own (h : Live w0 b F w) (ft : Fit F g) : Calls Tryz.prog 30 #[.pointer (some ⟨b, 0, none⟩), .agg #[.int .i64 g.sector, .int .i64 g.slot, .int .i64 g.data, .int .i64 g.quota, .int .i64 g.tries, .int .i64 g.life]] w fun e w' => ∃ d, e = .returned (.tuple #[.pointer (some ⟨d, 0, none⟩), .int .i64 0]) ∧ Own w0 d b g F w' := by
  obtain ⟨S, h1, h2, h3⟩ := h
  refine (new_this h1 ft).mono ?_
  rintro e w' ⟨d, he, hd, hB, hb⟩
  exact ⟨d, he, S, ⟨hB, h1.later hb, fun hs => by have := (h2 _ hs).2; omega⟩, fun x hx => ⟨(h2 x hx).1, Nat.lt_of_lt_of_le (h2 x hx).2 hb.size⟩, Nat.le_trans h3.size hd, h3.trans (hb.mono h3.size)⟩
theorem flash_own (h : g.Right) (hb : Below w0.heap.size w0 w) : Calls Tryz.prog 28 #[.int .i64 g.sectors, .int .i64 g.sector] w fun e w' => ∃ b, e = .returned (.tuple #[.pointer (some ⟨b, 0, none⟩), .int .i64 0]) ∧ Live w0 b (first g) w' := by
  have hr := right_bounds h
  have := new_live g.sectors.toNat g.sector.toNat (by omega) (by omega) (by omega) (by omega) hb
  rwa [show ((g.sectors.toNat : Nat) : Int) = g.sectors by omega, show ((g.sector.toNat : Nat) : Int) = g.sector by omega] at this
end
end Go.Proofs.YtphifanacehppaaGreat.drive
