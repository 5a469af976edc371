/- Contracts of the reference's Sum, Seal and Right of layer 2, for slices of fewer than 2^27 words. -/
import Derived.Test.YtcgfinfafphapaaZerosSeal
namespace Go.Proofs.Ytcgfinfafphapaa.zeros
open Go.RowKit Go.Proofs.Ytcgfinfafphapaa.word
set_option linter.unusedVariables false

set_option maxHeartbeats 1600000 in
theorem refSum_any (a : Option Addr) (len cap : Nat) (xs : List Nat) (w : World) (hr : Reads .u32 w a len xs) (hx : ∀ x ∈ xs, x < 4294967296) (hl : len ≤ 134217727) :
    Calls Try.prog 8 #[.slice a len cap] w (Quiet (.int .u32 (zcount xs)) w) := by
  have hlen := hr.1
  go_enter Try.func8, Try.ntmps8
  go_wp2
  go_loopw [3, 4] (fun n i wr => ∃ k : Nat, k ≤ len ∧ i = .int .i64 k ∧ n = .int .u32 (zcount (xs.take k)) ∧ ∃ m, wr = w.drewN m) (fun _ i _ => len - (intOf i).toNat)
  case atStart => exact ⟨0, Nat.zero_le _, rfl, rfl, 0, rfl⟩
  case round =>
    obtain ⟨k, hk, rfl, rfl, m, rfl⟩ := hrel
    by_cases hlt : k < len
    · obtain ⟨b, off, rfl, hbs, hc⟩ := hr.at hlt
      have c1 : (w.drewN m).cell? ⟨b, off + k, none⟩ = some (.int .u32 ((xs.getD k 0 : Nat) : Int)) := hc k hlt
      have hx1 := getD32_lt xs hx k
      have HS := hid (zcount_snoc xs k (by omega))
      have hz := zcount_le (xs.take k)
      have hzl : (xs.take k).length ≤ k := List.length_take_le _ _
      have hb : zcount (xs.take k) ≤ 32 * k := by omega
      clear hc hz hzl hlen
      generalize zcount (xs.take k) = z at *
      generalize xs.getD k 0 = x1 at *
      have ho := ones_le x1
      have c := fun w' => refOnes_any x1 hx1 w'
      generalize ones x1 = o at *
      clear hx hr
      go_wp2_with (go_at_call 20; (with_reducible refine (c _).mono ?_); rintro e w' ⟨rfl, m2, rfl⟩)
      exact ⟨⟨k + 1, by omega, by go_num, congrArg (Value.int .u32) (by rw [HS.out]; omega), ⟨_, rfl⟩⟩, by simp [intOf]; omega⟩
    · obtain rfl : k = len := by omega
      go_wp2
      go_ret
      exact ⟨ret_int (by rw [List.take_of_length_le (by omega)]), _, rfl⟩
set_option maxHeartbeats 1600000 in
theorem refRight_any (a : Option Addr) (len cap : Nat) (xs : List Nat) (w : World) (hr : Reads .u32 w a len xs) (hx : ∀ x ∈ xs, x < 4294967296) (hl : len ≤ 134217727) (hlc : len ≤ cap) (hcap : cap ≤ maxLen) :
    Calls Try.prog 13 #[.slice a len cap] w (Quiet (.bool (rightB xs)) w) := by
  have hlen := hr.1
  unfold maxLen at hcap
  by_cases h0 : len = 0
  · subst h0
    obtain rfl : xs = [] := List.eq_nil_of_length_eq_zero hlen
    have hd : decide ((0 : Int) < 0) = false := by decide
    go_enter Try.func13, Try.ntmps13
    go_wp2
    go_quiet (fail)
    go_wp2
    go_ret
    exact ⟨ret_bool rfl, nq, rfl⟩
  · obtain ⟨n, rfl⟩ : ∃ n, len = n + 1 := ⟨len - 1, by omega⟩
    obtain ⟨b, off, rfl, hbs, hc⟩ := hr.at (show n < n + 1 by omega)
    have c1 := hc n (by omega)
    have hx1 := getD32_lt xs hx n
    have hp := readsTake hr n (by omega)
    have c := fun w' (h : Reads .u32 w' (some ⟨b, off, none⟩) n (xs.take n)) => refSum_any (some ⟨b, off, none⟩) n cap (xs.take n) w' h (fun x h => hx x (List.mem_of_mem_take h)) (by omega)
    have hz := zcount_le (xs.take n)
    have hR : rightB xs = (xs.getD n 0 == zcount (xs.take n)) := by unfold rightB; rw [hlen]; simp
    rw [hR]
    have hbz : zcount (xs.take n) ≤ 4294967295 := by rw [hp.1] at hz; omega
    have hd : decide ((0 : Int) < (n : Int) + 1) = true := by rw [decide_eq_true_eq]; omega
    clear hR hz hc
    generalize zcount (xs.take n) = z at *
    generalize xs.getD n 0 = x1 at *
    go_enter Try.func13, Try.ntmps13
    go_wp2
    go_quiet ((go_at_call 8; exact quietAt (c _ hp)))
    go_wp2
    go_ret
    exact ⟨ret_bool (by rw [Bool.eq_iff_iff]; simp; omega), nq, rfl⟩
/-- append onto nothing: what the source reads as, in new memory -/
theorem cells_of {k : IntKind} {w : World} {ad : Addr} {len : Nat} {xs : List Nat} (h : Reads k w (some ad) len xs) : ∀ (j : Nat) (u : Value), (xs.map fun x : Nat => Value.int k (x : Int))[j]? = some u → w.cell? (ad.add j) = some u := by
  intro j u hj
  obtain ⟨_, he, hc⟩ := Reads.cells h (by have := (List.getElem?_eq_some_iff.1 hj).1; omega)
  cases he
  exact hc j u hj
set_option maxHeartbeats 1600000 in
theorem refSeal_any (a : Option Addr) (len cap : Nat) (xs : List Nat) (w : World) (hr : Reads .u32 w a len xs) (hx : ∀ x ∈ xs, x < 4294967296) (hl : len ≤ 134217727) (hnil : a = none → cap = 0) :
    Calls Try.prog 11 #[.slice a len cap] w fun e w' => ∃ v, e = .returned v ∧ w'.ownsRow w.heap.size 23 1 v (len + 1) ((sealed xs).map fun x : Nat => Value.int .u32 (x : Int)) ∧ Below w.heap.size w w' := by
  obtain ⟨i0, hi, hz0, hz1, hz2⟩ := info_parts Tryinfo34
  have hlen := hr.1
  have c := fun w' (h : Reads .u32 w' a len xs) => refSum_any a len cap xs w' h hx (by omega)
  have hz := zcount_le xs
  have hmod : zcount xs % 4294967296 = zcount xs := Nat.mod_eq_of_lt (by omega)
  unfold sealed
  rw [hmod]
  clear hmod hz
  generalize zcount xs = z at *
  have HX := hid hx
  have HL := hid hlen
  clear hx hlen
  cases a with
  | none =>
    have hcap := hnil rfl
    subst hcap
    have h0 : len = 0 := by
      rcases hr.2 with h | ⟨_, _, h, _⟩
      · exact h
      · cases h
    subst h0
    obtain rfl : xs = [] := List.eq_nil_of_length_eq_zero HL.out
    clear hnil
    go_enter Try.func11, Try.ntmps11
    go_wp2_with (first
      | (go_at_call 8; (with_reducible refine (c _ hr).mono ?_); rintro e w' ⟨rfl, m2, rfl⟩)
      | (at_builtin; refine wpList_append_own_none rfl _ _ 22 rfl w.heap.size 23 i0 1 Try.underlying22 hi (.slice none 0 0) 0 [] rfl (World.ownsRow_nil _ _ _ _) rfl ?_)
      | (at_builtin; refine wpList_append_own _ rfl _ _ 22 rfl w.heap.size 23 i0 (.int .u32 0) 1 4 Try.underlying22 hi hz0 hz1 hz2 rfl (by decide) (.slice none 0 0) 0 [] rfl (World.ownsRow_nil _ _ _ _) ⟨(w.drewN m2).heap.size, 0, none⟩ 1 1 [.int .u32 (z : Int)] rfl rfl (one_new _ _ _) (one_cell rfl) (by unfold maxLen; omega) (by omega) (by simp) ?_))
    intro v2 w2 ho2 hg2 _
    go_wp2
    go_ret
    exact ⟨_, rfl, ho2, ((below_drewN (Below.refl _ _) m2).alloc (by simp) _).grown hg2 (by simp) (fun k hk => by cases hk)⟩
  | some ad =>
    clear hnil
    go_enter Try.func11, Try.ntmps11
    go_wp2_with (at_builtin; refine wpList_append_own _ rfl _ _ 22 rfl w.heap.size 23 i0 (.int .u32 0) 1 4 Try.underlying22 hi hz0 hz1 hz2 rfl (by decide) (.slice none 0 0) 0 [] rfl (World.ownsRow_nil _ _ _ _) ad len cap (xs.map fun x : Nat => Value.int .u32 (x : Int)) rfl (by simp [HL.out]) (cells_of hr) (ints_one _ _) (by unfold maxLen; omega) (by omega) (by simp) ?_)
    intro v1 w1 ho1 hg1 _
    have hb1 := (Below.refl w.heap.size w).grown hg1 (Nat.le_refl _) (fun k h => by cases h)
    have hr1 := hr.below hb1
    have HO1 := hid ho1
    clear ho1
    go_wp2_with (first
      | (go_at_call 8; (with_reducible refine (c _ hr1).mono ?_); rintro e w' ⟨rfl, m2, rfl⟩)
      | (at_builtin; refine wpList_append_own _ rfl _ _ 22 rfl w.heap.size 23 i0 (.int .u32 0) 1 4 Try.underlying22 hi hz0 hz1 hz2 rfl (by decide) v1 len (xs.map fun x : Nat => Value.int .u32 (x : Int)) rfl ((HO1.out.drewN m2).alloc _) ⟨(w1.drewN m2).heap.size, 0, none⟩ 1 1 [.int .u32 (z : Int)] rfl rfl (one_new _ _ _) (one_cell rfl) (by unfold maxLen; omega) (by omega) (by have := hb1.size; simp; omega) ?_))
    intro v2 w2 ho2 hg2 _
    go_wp2
    go_ret
    refine ⟨_, rfl, ?_, ((below_drewN hb1 m2).alloc (by have := hb1.size; simpa using this) _).grown hg2 (by have := hb1.size; simp; omega) (fun k hk => (HO1.out.lt k hk).1)⟩
    rw [List.map_append]
    exact ho2
end Go.Proofs.Ytcgfinfafphapaa.zeros
