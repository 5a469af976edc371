/- Contract of the reference's Take of layer 12 (field). No condition but a right field. -/
import Derived.Test.YthpiffafakoheaaFieldLay
namespace Go.Proofs.Ythpiffafakoheaa.field
open Go.RowKit Go.Proofs.Ythpiffafakoheaa.cut
set_option linter.unusedVariables false

theorem num_one (xs : List Nat) (h : 0 < xs.length) : num (xs.take 1) = xs.getD 0 0 := by
  cases xs with
  | nil => simp at h
  | cons x l => simp [num]
set_option maxHeartbeats 8000000 in
theorem refTake_any (f : Fd) (h : f.Right) (a : Option Addr) (len cap : Nat) (xs : List Nat) (w : World) (hr : Reads .u8 w a len xs) (hx : ∀ x ∈ xs, x < 256) (hc : len ≤ cap) (hm : cap ≤ 9223372036854775807) :
    Calls Try.prog 20 #[.agg #[.int .i64 f.id, .int .i64 f.kind, .int .i64 f.lo, .int .i64 f.hi, .int .i64 f.most], .slice a len cap] w (TakesAs (f.take xs) w) := by
  have HW := hid (W2.all f w)
  have hlen := hr.1
  have cp := span_from f h (w0 := W2 f w) (Below.refl _ _)
  have cs := fun W (hb : Below (W2 f w).heap.size (W2 f w) W) => gives_from (refSize_any f W) hb
  have hsp := h.span
  have HX := hid hx
  by_cases h4 : f.kind = 4
  · have ht : f.take xs = if xs.length < 1 then ⟨0, [], 0, 5⟩ else if f.most < (xs.getD 0 0 : Nat) then ⟨0, [], 0, 16⟩ else if xs.length < 1 + xs.getD 0 0 then ⟨0, [], 0, 5⟩ else ⟨0, (xs.drop 1).take (xs.getD 0 0), 1 + xs.getD 0 0, 0⟩ := by
      unfold Fd.take
      rw [if_neg (show ¬¬ f.Right from fun k => k h), if_pos h4]
    rw [ht, hlen]
    have hl : f.long = f.most := by unfold Fd.long; rw [if_pos h4]
    rw [hl] at cp
    have hmost : 0 ≤ f.most ∧ f.most ≤ 32 := by unfold Fd.Right at h; omega
    have e4 : (f.kind == 4) = true := by rw [beq_iff_eq]; exact h4
    clear ht hl h h4 hsp hx
    generalize f.great = G at *
    generalize f.size = sz at *
    unfold TakesAs
    unfold W2 at HW cp cs
    by_cases h0 : len < 1
    · rw [if_pos h0, show strOf ([] : List Nat) = ⟨#[]⟩ from rfl]
      obtain rfl : len = 0 := by omega
      have HI := hid (val_info 0 ⟨#[]⟩)
      have HO := hid (val_one 0 ⟨#[]⟩)
      clear HX h0
      go_enter Try.func20, Try.ntmps20
      go_wp2_with (first
        | (go_at_call 24; (with_reducible refine cp.mono ?_); rintro e w1 ⟨rfl, hb1⟩; obtain ⟨hk1, hres1, hbw1⟩ := HW.out _ hb1; clear cp)
        | (go_at_call 14; (with_reducible refine (cs _ hb1).mono ?_); rintro e w2 ⟨rfl, hb2⟩; obtain ⟨hk2, hres2, hbw2⟩ := HW.out _ hb2; have hr2 := hr.below hbw2; have hth := val_there hres2 0 ⟨#[]⟩)
        | (with_reducible refine wpList_store_named rfl 25 (.tmp 4) (.tmp 30) rfl (w.heap.size + 1) 0 #[.int .i64 0, .string ⟨#[]⟩] rfl rfl hth HI.out HO.out ?_))
      intro w3 hw3
      obtain ⟨hB, hb⟩ := val_stored hres2 hw3 (Nat.le_succ w.heap.size) hbw2
      go_wp2
      refine bodyPost_ret (results_cell3 (b := w.heap.size + 1) (o := 0) rfl rfl hB.whole Try.underlying25 rfl (val_info2 _ _)) rfl ?_
      exact ⟨rfl, hb⟩
    · rw [if_neg h0]
      have hlp : 1 ≤ len := by omega
      have hxk : xs.getD 0 0 < 256 := by
        rw [List.getD_eq_getElem?_getD, List.getElem?_eq_getElem (by omega)]
        exact HX.out _ (List.getElem_mem (by omega))
      obtain ⟨X, hX⟩ : ∃ X, Hid (xs.getD 0 0 = X) := ⟨_, rfl⟩
      have hone : Hid (num (xs.take 1) = X) := hid (by rw [num_one xs (by omega)]; exact hX.out)
      rw [hX.out] at hxk ⊢
      clear h0
      by_cases h1 : f.most < (X : Int)
      · rw [if_pos h1, show strOf ([] : List Nat) = ⟨#[]⟩ from rfl]
        have h1' : (X : Int) > f.most := h1
        clear h1
        have HI := hid (val_info (0) ⟨#[]⟩)
        have HO := hid (val_one (0) ⟨#[]⟩)
        go_enter Try.func20, Try.ntmps20
        go_wp2_with (first
          | (go_at_call 24; (with_reducible refine cp.mono ?_); rintro e w1 ⟨rfl, hb1⟩; obtain ⟨hk1, hres1, hbw1⟩ := HW.out _ hb1; clear cp)
          | (go_at_call 14; (with_reducible refine (cs _ hb1).mono ?_); rintro e w2 ⟨rfl, hb2⟩; obtain ⟨hk2, hres2, hbw2⟩ := HW.out _ hb2; have hr2 := hr.below hbw2))
        go_loopw [12, 13] (fun u i wr => ∃ (k : Nat), u = .int .i64 (num (xs.take k) : Int) ∧ i = .int .i64 (k : Int) ∧ k ≤ 1 ∧ w2 = wr) (fun u i wr => 1 - (intOf i).toNat)
        case atStart => exact ⟨0, by simp [num], rfl, Nat.zero_le _, rfl⟩
        case round =>
          obtain ⟨k, rfl, rfl, hk, rfl⟩ := hrel
          by_cases hlt : k < 1
          · obtain ⟨b, off, rfl, hbb, hcell⟩ := hr2.at (i := k) (by omega)
            have hck := hcell k (by omega)
            have hn1 := num_lt k (xs.take k) (by rw [List.length_take]; omega) (fun x hm => HX.out x (List.mem_of_mem_take hm))
            have hp : (256 : Nat) ^ k ≤ 256 ^ 5 := Nat.pow_le_pow_right (by omega) (by omega)
            have hs := num_take_succ xs k (by omega)
            have hxk : xs.getD k 0 < 256 := by
              rw [List.getD_eq_getElem?_getD, List.getElem?_eq_getElem (by omega)]
              exact HX.out _ (List.getElem_mem (by omega))
            have hkl : k < len := by omega
            obtain ⟨Y, hY⟩ : ∃ Y, Hid (xs.getD k 0 = Y) := ⟨_, rfl⟩
            obtain ⟨M, hM⟩ : ∃ M, Hid (num (xs.take k) = M) := ⟨_, rfl⟩
            rw [hY.out] at hck hs hxk
            rw [hM.out] at hn1 hs ⊢
            have hN5 : M < 1099511627776 := by have : (256 : Nat) ^ 5 = 1099511627776 := by decide
                                               omega
            have HS := hid hs
            clear hp hs hn1 hcell
            go_wp2
            go_round
            · exact ⟨k + 1, by rw [HS.out]; simp, by simp, by omega, trivial⟩
            · simp [intOf]; omega
          · obtain rfl : k = 1 := by omega
            rw [hone.out]
            clear hlt
            have hth := val_there hres2 (0) ⟨#[]⟩
            clear hr hr2
            go_wp2_with (with_reducible refine wpList_store_named rfl 25 (.tmp 4) (.tmp 50) rfl (w.heap.size + 1) 0 #[.int .i64 (0), .string ⟨#[]⟩] rfl rfl hth HI.out HO.out ?_)
            intro w3 hw3
            obtain ⟨hB, hb⟩ := val_stored hres2 hw3 (Nat.le_succ w.heap.size) hbw2
            go_wp2
            refine bodyPost_ret (results_cell3 (b := w.heap.size + 1) (o := 0) rfl rfl hB.whole Try.underlying25 rfl (val_info2 _ _)) rfl ?_
            exact ⟨rfl, hb⟩
      · rw [if_neg h1]
        have h1' : ¬ (X : Int) > f.most := h1
        clear h1
        by_cases h2 : len < 1 + X
        · rw [if_pos h2, show strOf ([] : List Nat) = ⟨#[]⟩ from rfl]
          have h2' : (len : Int) < 1 + (X : Int) := by omega
          have HI := hid (val_info (0) ⟨#[]⟩)
          have HO := hid (val_one (0) ⟨#[]⟩)
          go_enter Try.func20, Try.ntmps20
          go_wp2_with (first
            | (go_at_call 24; (with_reducible refine cp.mono ?_); rintro e w1 ⟨rfl, hb1⟩; obtain ⟨hk1, hres1, hbw1⟩ := HW.out _ hb1; clear cp)
            | (go_at_call 14; (with_reducible refine (cs _ hb1).mono ?_); rintro e w2 ⟨rfl, hb2⟩; obtain ⟨hk2, hres2, hbw2⟩ := HW.out _ hb2; have hr2 := hr.below hbw2))
          go_loopw [12, 13] (fun u i wr => ∃ (k : Nat), u = .int .i64 (num (xs.take k) : Int) ∧ i = .int .i64 (k : Int) ∧ k ≤ 1 ∧ w2 = wr) (fun u i wr => 1 - (intOf i).toNat)
          case atStart => exact ⟨0, by simp [num], rfl, Nat.zero_le _, rfl⟩
          case round =>
            obtain ⟨k, rfl, rfl, hk, rfl⟩ := hrel
            by_cases hlt : k < 1
            · obtain ⟨b, off, rfl, hbb, hcell⟩ := hr2.at (i := k) (by omega)
              have hck := hcell k (by omega)
              have hn1 := num_lt k (xs.take k) (by rw [List.length_take]; omega) (fun x hm => HX.out x (List.mem_of_mem_take hm))
              have hp : (256 : Nat) ^ k ≤ 256 ^ 5 := Nat.pow_le_pow_right (by omega) (by omega)
              have hs := num_take_succ xs k (by omega)
              have hxk : xs.getD k 0 < 256 := by
                rw [List.getD_eq_getElem?_getD, List.getElem?_eq_getElem (by omega)]
                exact HX.out _ (List.getElem_mem (by omega))
              have hkl : k < len := by omega
              obtain ⟨Y, hY⟩ : ∃ Y, Hid (xs.getD k 0 = Y) := ⟨_, rfl⟩
              obtain ⟨M, hM⟩ : ∃ M, Hid (num (xs.take k) = M) := ⟨_, rfl⟩
              rw [hY.out] at hck hs hxk
              rw [hM.out] at hn1 hs ⊢
              have hN5 : M < 1099511627776 := by have : (256 : Nat) ^ 5 = 1099511627776 := by decide
                                                 omega
              have HS := hid hs
              clear hp hs hn1 hcell
              go_wp2
              go_round
              · exact ⟨k + 1, by rw [HS.out]; simp, by simp, by omega, trivial⟩
              · simp [intOf]; omega
            · obtain rfl : k = 1 := by omega
              rw [hone.out]
              clear hlt
              have hth := val_there hres2 (0) ⟨#[]⟩
              clear hr hr2
              go_wp2_with (with_reducible refine wpList_store_named rfl 25 (.tmp 4) (.tmp 56) rfl (w.heap.size + 1) 0 #[.int .i64 (0), .string ⟨#[]⟩] rfl rfl hth HI.out HO.out ?_)
              intro w3 hw3
              obtain ⟨hB, hb⟩ := val_stored hres2 hw3 (Nat.le_succ w.heap.size) hbw2
              go_wp2
              refine bodyPost_ret (results_cell3 (b := w.heap.size + 1) (o := 0) rfl rfl hB.whole Try.underlying25 rfl (val_info2 _ _)) rfl ?_
              exact ⟨rfl, hb⟩
        · rw [if_neg h2]
          have h2' : ¬ (len : Int) < 1 + (X : Int) := by omega
          have hcut : ∀ W : World, (Instr.slice 33 (.slice a len cap) (some (.int .i64 1)) (some (.int .i64 (1 + (X : Int)))) none).run Try.prog W = .ok (.slice (shift a 1 cap) X (cap - 1)) W := fun W => by
            have := cut_both W a len cap 1 (1 + X) (by omega) (by omega)
            rw [show ((1 + X : Nat) : Int) = 1 + (X : Int) by omega, show 1 + X - 1 = X by omega] at this
            exact this
          have HS2 : Hid (∀ W : World, Below w.heap.size w W → (convert 33 9 (.slice (shift a 1 cap) X (cap - 1))).run Try.prog W = .ok (.string (strOf ((xs.drop 1).take X))) W) := hid (fun W hb => by
            have hrs := reads_pre (n := X) (reads_shift (k := 1) (hr.below hb) (by omega) hc) (by omega)
            exact Reads.str (P := Try.prog) hrs 33 5 Try.underlying33 Try.underlying5 (cap - 1) 9 Try.underlying9)
          generalize strOf ((xs.drop 1).take X) = Z at *
          obtain ⟨A2, hA2⟩ : ∃ A2, shift a 1 cap = A2 := ⟨_, rfl⟩
          rw [hA2] at hcut HS2
          clear hA2
          have HI := hid (val_info (0) Z)
          have HO := hid (val_one (0) Z)
          go_enter Try.func20, Try.ntmps20
          go_wp2_with (first
            | (go_at_call 24; (with_reducible refine cp.mono ?_); rintro e w1 ⟨rfl, hb1⟩; obtain ⟨hk1, hres1, hbw1⟩ := HW.out _ hb1; clear cp)
            | (go_at_call 14; (with_reducible refine (cs _ hb1).mono ?_); rintro e w2 ⟨rfl, hb2⟩; obtain ⟨hk2, hres2, hbw2⟩ := HW.out _ hb2; have hr2 := hr.below hbw2))
          go_loopw [12, 13] (fun u i wr => ∃ (k : Nat), u = .int .i64 (num (xs.take k) : Int) ∧ i = .int .i64 (k : Int) ∧ k ≤ 1 ∧ w2 = wr) (fun u i wr => 1 - (intOf i).toNat)
          case atStart => exact ⟨0, by simp [num], rfl, Nat.zero_le _, rfl⟩
          case round =>
            obtain ⟨k, rfl, rfl, hk, rfl⟩ := hrel
            by_cases hlt : k < 1
            · obtain ⟨b, off, rfl, hbb, hcell⟩ := hr2.at (i := k) (by omega)
              have hck := hcell k (by omega)
              have hn1 := num_lt k (xs.take k) (by rw [List.length_take]; omega) (fun x hm => HX.out x (List.mem_of_mem_take hm))
              have hp : (256 : Nat) ^ k ≤ 256 ^ 5 := Nat.pow_le_pow_right (by omega) (by omega)
              have hs := num_take_succ xs k (by omega)
              have hxk : xs.getD k 0 < 256 := by
                rw [List.getD_eq_getElem?_getD, List.getElem?_eq_getElem (by omega)]
                exact HX.out _ (List.getElem_mem (by omega))
              have hkl : k < len := by omega
              obtain ⟨Y, hY⟩ : ∃ Y, Hid (xs.getD k 0 = Y) := ⟨_, rfl⟩
              obtain ⟨M, hM⟩ : ∃ M, Hid (num (xs.take k) = M) := ⟨_, rfl⟩
              rw [hY.out] at hck hs hxk
              rw [hM.out] at hn1 hs ⊢
              have hN5 : M < 1099511627776 := by have : (256 : Nat) ^ 5 = 1099511627776 := by decide
                                                 omega
              have HS := hid hs
              clear hp hs hn1 hcell
              go_wp2
              go_round
              · exact ⟨k + 1, by rw [HS.out]; simp, by simp, by omega, trivial⟩
              · simp [intOf]; omega
            · obtain rfl : k = 1 := by omega
              rw [hone.out]
              clear hlt
              have hth := val_there hres2 (0) Z
              have hcv := HS2.out w2 hbw2
              clear hr hr2
              go_wp2_with (with_reducible refine wpList_store_named rfl 25 (.tmp 4) (.tmp 62) rfl (w.heap.size + 1) 0 #[.int .i64 (0), .string Z] rfl rfl hth HI.out HO.out ?_)
              intro w3 hw3
              obtain ⟨hB, hb⟩ := val_stored hres2 hw3 (Nat.le_succ w.heap.size) hbw2
              go_wp2
              refine bodyPost_ret (results_cell3 (b := w.heap.size + 1) (o := 0) rfl rfl hB.whole Try.underlying25 rfl (val_info2 _ _)) rfl ?_
              exact ⟨by rw [show ((1 + X : Nat) : Int) = 1 + (X : Int) by omega]; rfl, hb⟩
  · have ht := Fd.take_num h h4 xs
    rw [ht, hlen]
    have hs6 := Fd.size_num h h4
    have e4 : (f.kind == 4) = false := by rw [beq_eq_false_iff_ne]; exact h4
    obtain ⟨T, hT⟩ : ∃ T : Nat, f.great - f.lo = (T : Int) := ⟨(f.great - f.lo).toNat, by omega⟩
    have hTb : T ≤ 2199023255552 := by omega
    have s1 := hsp.2.2.1
    have s2 := hsp.2.2.2.1
    rw [hT]
    have hG : f.great = f.lo + (T : Int) := by omega
    rw [hG] at cp
    have hsub : f.lo + (T : Int) - f.lo = (T : Int) := by omega
    clear ht h h4 hsp hx hG hT
    generalize f.long = L at *
    generalize f.size = sz at *
    unfold TakesAs
    unfold W2 at HW cp cs
    by_cases h0 : len < sz
    · rw [if_pos h0, show strOf ([] : List Nat) = ⟨#[]⟩ from rfl]
      have HI := hid (val_info 0 ⟨#[]⟩)
      have HO := hid (val_one 0 ⟨#[]⟩)
      have h0' : (len : Int) < (sz : Int) := by omega
      clear HX h0 hsub
      go_enter Try.func20, Try.ntmps20
      go_wp2_with (first
        | (go_at_call 24; (with_reducible refine cp.mono ?_); rintro e w1 ⟨rfl, hb1⟩; obtain ⟨hk1, hres1, hbw1⟩ := HW.out _ hb1; clear cp)
        | (go_at_call 14; (with_reducible refine (cs _ hb1).mono ?_); rintro e w2 ⟨rfl, hb2⟩; obtain ⟨hk2, hres2, hbw2⟩ := HW.out _ hb2; have hr2 := hr.below hbw2; have hth := val_there hres2 0 ⟨#[]⟩)
        | (with_reducible refine wpList_store_named rfl 25 (.tmp 4) (.tmp 30) rfl (w.heap.size + 1) 0 #[.int .i64 0, .string ⟨#[]⟩] rfl rfl hth HI.out HO.out ?_))
      intro w3 hw3
      obtain ⟨hB, hb⟩ := val_stored hres2 hw3 (Nat.le_succ w.heap.size) hbw2
      go_wp2
      refine bodyPost_ret (results_cell3 (b := w.heap.size + 1) (o := 0) rfl rfl hB.whole Try.underlying25 rfl (val_info2 _ _)) rfl ?_
      exact ⟨rfl, hb⟩
    · rw [if_neg h0]
      have h0' : ¬ (len : Int) < (sz : Int) := by omega
      have hn := num_lt sz (xs.take sz) (by rw [List.length_take]; omega) (fun x hm => HX.out x (List.mem_of_mem_take hm))
      have hp : (256 : Nat) ^ sz ≤ 256 ^ 6 := Nat.pow_le_pow_right (by omega) hs6
      have hu : num (xs.take sz) < 281474976710656 := by have : (256 : Nat) ^ 6 = 281474976710656 := by decide
                                                         omega
      clear hn hp
      obtain ⟨u, hone⟩ : ∃ u, Hid (num (xs.take sz) = u) := ⟨_, rfl⟩
      rw [hone.out] at hu ⊢
      by_cases h2 : (T : Int) < (u : Int)
      · rw [if_pos h2, show strOf ([] : List Nat) = ⟨#[]⟩ from rfl]
        have h2' : (u : Int) > (T : Int) := h2
        clear h2
        have HI := hid (val_info (0) ⟨#[]⟩)
        have HO := hid (val_one (0) ⟨#[]⟩)
        go_enter Try.func20, Try.ntmps20
        go_wp2_with (first
          | (go_at_call 24; (with_reducible refine cp.mono ?_); rintro e w1 ⟨rfl, hb1⟩; obtain ⟨hk1, hres1, hbw1⟩ := HW.out _ hb1; clear cp)
          | (go_at_call 14; (with_reducible refine (cs _ hb1).mono ?_); rintro e w2 ⟨rfl, hb2⟩; obtain ⟨hk2, hres2, hbw2⟩ := HW.out _ hb2; have hr2 := hr.below hbw2))
        go_loopw [12, 13] (fun u i wr => ∃ (k : Nat), u = .int .i64 (num (xs.take k) : Int) ∧ i = .int .i64 (k : Int) ∧ k ≤ sz ∧ w2 = wr) (fun u i wr => sz - (intOf i).toNat)
        case atStart => exact ⟨0, by simp [num], rfl, Nat.zero_le _, rfl⟩
        case round =>
          obtain ⟨k, rfl, rfl, hk, rfl⟩ := hrel
          by_cases hlt : k < sz
          · obtain ⟨b, off, rfl, hbb, hcell⟩ := hr2.at (i := k) (by omega)
            have hck := hcell k (by omega)
            have hn1 := num_lt k (xs.take k) (by rw [List.length_take]; omega) (fun x hm => HX.out x (List.mem_of_mem_take hm))
            have hp : (256 : Nat) ^ k ≤ 256 ^ 5 := Nat.pow_le_pow_right (by omega) (by omega)
            have hs := num_take_succ xs k (by omega)
            have hxk : xs.getD k 0 < 256 := by
              rw [List.getD_eq_getElem?_getD, List.getElem?_eq_getElem (by omega)]
              exact HX.out _ (List.getElem_mem (by omega))
            have hkl : k < len := by omega
            obtain ⟨Y, hY⟩ : ∃ Y, Hid (xs.getD k 0 = Y) := ⟨_, rfl⟩
            obtain ⟨M, hM⟩ : ∃ M, Hid (num (xs.take k) = M) := ⟨_, rfl⟩
            rw [hY.out] at hck hs hxk
            rw [hM.out] at hn1 hs ⊢
            have hN5 : M < 1099511627776 := by have : (256 : Nat) ^ 5 = 1099511627776 := by decide
                                               omega
            have HS := hid hs
            clear hp hs hn1 hcell
            go_wp2
            go_round
            · exact ⟨k + 1, by rw [HS.out]; simp, by simp, by omega, trivial⟩
            · simp [intOf]; omega
          · obtain rfl : k = sz := by omega
            rw [hone.out]
            clear hlt
            have hth := val_there hres2 (0) ⟨#[]⟩
            clear hr hr2
            go_wp2_with (with_reducible refine wpList_store_named rfl 25 (.tmp 4) (.tmp 70) rfl (w.heap.size + 1) 0 #[.int .i64 (0), .string ⟨#[]⟩] rfl rfl hth HI.out HO.out ?_)
            intro w3 hw3
            obtain ⟨hB, hb⟩ := val_stored hres2 hw3 (Nat.le_succ w.heap.size) hbw2
            go_wp2
            refine bodyPost_ret (results_cell3 (b := w.heap.size + 1) (o := 0) rfl rfl hB.whole Try.underlying25 rfl (val_info2 _ _)) rfl ?_
            exact ⟨rfl, hb⟩
      · rw [if_neg h2, show strOf ([] : List Nat) = ⟨#[]⟩ from rfl]
        have h2' : ¬ (u : Int) > (T : Int) := h2
        have h2n : u ≤ T := by omega
        clear h2
        have HI := hid (val_info (f.lo + (u : Int)) ⟨#[]⟩)
        have HO := hid (val_one (f.lo + (u : Int)) ⟨#[]⟩)
        go_enter Try.func20, Try.ntmps20
        go_wp2_with (first
          | (go_at_call 24; (with_reducible refine cp.mono ?_); rintro e w1 ⟨rfl, hb1⟩; obtain ⟨hk1, hres1, hbw1⟩ := HW.out _ hb1; clear cp)
          | (go_at_call 14; (with_reducible refine (cs _ hb1).mono ?_); rintro e w2 ⟨rfl, hb2⟩; obtain ⟨hk2, hres2, hbw2⟩ := HW.out _ hb2; have hr2 := hr.below hbw2))
        go_loopw [12, 13] (fun u i wr => ∃ (k : Nat), u = .int .i64 (num (xs.take k) : Int) ∧ i = .int .i64 (k : Int) ∧ k ≤ sz ∧ w2 = wr) (fun u i wr => sz - (intOf i).toNat)
        case atStart => exact ⟨0, by simp [num], rfl, Nat.zero_le _, rfl⟩
        case round =>
          obtain ⟨k, rfl, rfl, hk, rfl⟩ := hrel
          by_cases hlt : k < sz
          · obtain ⟨b, off, rfl, hbb, hcell⟩ := hr2.at (i := k) (by omega)
            have hck := hcell k (by omega)
            have hn1 := num_lt k (xs.take k) (by rw [List.length_take]; omega) (fun x hm => HX.out x (List.mem_of_mem_take hm))
            have hp : (256 : Nat) ^ k ≤ 256 ^ 5 := Nat.pow_le_pow_right (by omega) (by omega)
            have hs := num_take_succ xs k (by omega)
            have hxk : xs.getD k 0 < 256 := by
              rw [List.getD_eq_getElem?_getD, List.getElem?_eq_getElem (by omega)]
              exact HX.out _ (List.getElem_mem (by omega))
            have hkl : k < len := by omega
            obtain ⟨Y, hY⟩ : ∃ Y, Hid (xs.getD k 0 = Y) := ⟨_, rfl⟩
            obtain ⟨M, hM⟩ : ∃ M, Hid (num (xs.take k) = M) := ⟨_, rfl⟩
            rw [hY.out] at hck hs hxk
            rw [hM.out] at hn1 hs ⊢
            have hN5 : M < 1099511627776 := by have : (256 : Nat) ^ 5 = 1099511627776 := by decide
                                               omega
            have HS := hid hs
            clear hp hs hn1 hcell
            go_wp2
            go_round
            · exact ⟨k + 1, by rw [HS.out]; simp, by simp, by omega, trivial⟩
            · simp [intOf]; omega
          · obtain rfl : k = sz := by omega
            rw [hone.out]
            clear hlt
            have hth := val_there hres2 (f.lo + (u : Int)) ⟨#[]⟩
            clear hr hr2
            go_wp2_with (with_reducible refine wpList_store_named rfl 25 (.tmp 4) (.tmp 74) rfl (w.heap.size + 1) 0 #[.int .i64 (f.lo + (u : Int)), .string ⟨#[]⟩] rfl rfl hth HI.out HO.out ?_)
            intro w3 hw3
            obtain ⟨hB, hb⟩ := val_stored hres2 hw3 (Nat.le_succ w.heap.size) hbw2
            go_wp2
            refine bodyPost_ret (results_cell3 (b := w.heap.size + 1) (o := 0) rfl rfl hB.whole Try.underlying25 rfl (val_info2 _ _)) rfl ?_
            exact ⟨rfl, hb⟩
end Go.Proofs.Ythpiffafakoheaa.field

