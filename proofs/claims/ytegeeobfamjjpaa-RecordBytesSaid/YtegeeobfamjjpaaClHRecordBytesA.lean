/- Lemmas of the claim HRecordBytes. Each says its own conditions. -/
import Derived.Test.YtegeeobfamjjpaaCmH
import Derived.Lib.ConvBytes
import Derived.Lib.AtoiErrMem
import Derived.Conc.WalkWords
/- Contract of the reference's Take of layer 12 (field). No condition but a right field. -/
namespace Go.Proofs.Ytegeeobfamjjpaa.field
open Go.RowKit Go.Proofs.Ytegeeobfamjjpaa.cut
set_option linter.unusedVariables false

theorem num_one (xs : List Nat) (h : 0 < xs.length) : num (xs.take 1) = xs.getD 0 0 := by
  cases xs with
  | nil => simp at h
  | cons x l => simp [num]
set_option maxRecDepth 20000 in
set_option maxHeartbeats 8000000 in
theorem refTake_any (f : Fd) (h : f.Right) (a : Option Addr) (len cap : Nat) (xs : List Nat) (w : World) (hr : Reads .u8 w a len xs) (hx : ∀ x ∈ xs, x < 256) (hc : len ≤ cap) (hm : cap ≤ 9223372036854775807) :
    Calls Try.prog 32 #[.agg #[.int .i64 f.id, .int .i64 f.kind, .int .i64 f.lo, .int .i64 f.hi, .int .i64 f.most], .slice a len cap] w (TakesAs (f.take xs) w) := by
  have HW := hid (W2.all f w)
  have hlen := hr.1
  have cp := span_from f h (w0 := W2 f w) (Below.refl _ _)
  have cs := fun W (hb : Below (W2 f w).heap.size (W2 f w) W) => gives_from (refSize_any f W) hb
  have hsp := h.span
  have HX := hid hx
  by_cases h4 : f.kind = 4
  · have ht : f.take xs = if xs.length < 1 then ⟨0, [], 0, 5⟩ else if f.most < (xs.getD 0 0 : Nat) then ⟨0, [], 0, 16⟩ else if xs.length < 1 + xs.getD 0 0 then ⟨0, [], 0, 5⟩ else ⟨0, (xs.drop 1).take (xs.getD 0 0), 1 + xs.getD 0 0, 0⟩ := by
      unfold Fd.take
      rw [if_neg (show ¬¬ f.Right from fun k => k h), if_pos h4]
    rw [ht, hlen]
    have hl : f.long = f.most := by unfold Fd.long; rw [if_pos h4]
    rw [hl] at cp
    have hmost : 0 ≤ f.most ∧ f.most ≤ 32 := by unfold Fd.Right at h; omega
    have e4 : (f.kind == 4) = true := by rw [beq_iff_eq]; exact h4
    clear ht hl h h4 hsp hx
    generalize f.great = G at *
    generalize f.size = sz at *
    unfold TakesAs
    unfold W2 at HW cp cs
    by_cases h0 : len < 1
    · rw [if_pos h0, show strOf ([] : List Nat) = ⟨#[]⟩ from rfl]
      obtain rfl : len = 0 := by omega
      have HI := hid (val_info 0 ⟨#[]⟩)
      have HO := hid (val_one 0 ⟨#[]⟩)
      clear HX h0
      go_enter Try.func32, Try.ntmps32
      go_wp2_with (first
        | (go_at_call 35; (with_reducible refine cp.mono ?_); rintro e w1 ⟨rfl, hb1⟩; obtain ⟨hk1, hres1, hbw1⟩ := HW.out _ hb1; clear cp)
        | (go_at_call 34; (with_reducible refine (cs _ hb1).mono ?_); rintro e w2 ⟨rfl, hb2⟩; obtain ⟨hk2, hres2, hbw2⟩ := HW.out _ hb2; have hr2 := hr.below hbw2; have hth := val_there hres2 0 ⟨#[]⟩)
        | (with_reducible refine wpList_store_named rfl 48 (.tmp 4) (.tmp 30) rfl (w.heap.size + 1) 0 #[.int .i64 0, .string ⟨#[]⟩] rfl rfl hth HI.out HO.out ?_))
      intro w3 hw3
      obtain ⟨hB, hb⟩ := val_stored hres2 hw3 (Nat.le_succ w.heap.size) hbw2
      go_wp2
      refine bodyPost_ret (results_cell3 (b := w.heap.size + 1) (o := 0) rfl rfl hB.whole Try.underlying48 rfl (val_info2 _ _)) rfl ?_
      exact ⟨rfl, hb⟩
    · rw [if_neg h0]
      have hlp : 1 ≤ len := by omega
      have hxk : xs.getD 0 0 < 256 := by
        rw [List.getD_eq_getElem?_getD, List.getElem?_eq_getElem (by omega)]
        exact HX.out _ (List.getElem_mem (by omega))
      obtain ⟨X, hX⟩ : ∃ X, Hid (xs.getD 0 0 = X) := ⟨_, rfl⟩
      have hone : Hid (num (xs.take 1) = X) := hid (by rw [num_one xs (by omega)]; exact hX.out)
      rw [hX.out] at hxk ⊢
      clear h0
      by_cases h1 : f.most < (X : Int)
      · rw [if_pos h1, show strOf ([] : List Nat) = ⟨#[]⟩ from rfl]
        have h1' : (X : Int) > f.most := h1
        clear h1
        have HI := hid (val_info (0) ⟨#[]⟩)
        have HO := hid (val_one (0) ⟨#[]⟩)
        go_enter Try.func32, Try.ntmps32
        go_wp2_with (first
          | (go_at_call 35; (with_reducible refine cp.mono ?_); rintro e w1 ⟨rfl, hb1⟩; obtain ⟨hk1, hres1, hbw1⟩ := HW.out _ hb1; clear cp)
          | (go_at_call 34; (with_reducible refine (cs _ hb1).mono ?_); rintro e w2 ⟨rfl, hb2⟩; obtain ⟨hk2, hres2, hbw2⟩ := HW.out _ hb2; have hr2 := hr.below hbw2))
        go_loopw [12, 13] (fun u i wr => ∃ (k : Nat), u = .int .i64 (num (xs.take k) : Int) ∧ i = .int .i64 (k : Int) ∧ k ≤ 1 ∧ w2 = wr) (fun u i wr => 1 - (intOf i).toNat)
        case atStart => exact ⟨0, by simp [num], rfl, Nat.zero_le _, rfl⟩
        case round =>
          obtain ⟨k, rfl, rfl, hk, rfl⟩ := hrel
          by_cases hlt : k < 1
          · obtain ⟨b, off, rfl, hbb, hcell⟩ := hr2.at (i := k) (by omega)
            have hck := hcell k (by omega)
            have hn1 := num_lt k (xs.take k) (by rw [List.length_take]; omega) (fun x hm => HX.out x (List.mem_of_mem_take hm))
            have hp : (256 : Nat) ^ k ≤ 256 ^ 5 := Nat.pow_le_pow_right (by omega) (by omega)
            have hs := num_take_succ xs k (by omega)
            have hxk : xs.getD k 0 < 256 := by
              rw [List.getD_eq_getElem?_getD, List.getElem?_eq_getElem (by omega)]
              exact HX.out _ (List.getElem_mem (by omega))
            have hkl : k < len := by omega
            obtain ⟨Y, hY⟩ : ∃ Y, Hid (xs.getD k 0 = Y) := ⟨_, rfl⟩
            obtain ⟨M, hM⟩ : ∃ M, Hid (num (xs.take k) = M) := ⟨_, rfl⟩
            rw [hY.out] at hck hs hxk
            rw [hM.out] at hn1 hs ⊢
            have hN5 : M < 1099511627776 := by have : (256 : Nat) ^ 5 = 1099511627776 := by decide
                                               omega
            have HS := hid hs
            clear hp hs hn1 hcell
            go_wp2
            go_round
            · exact ⟨k + 1, by rw [HS.out]; simp, by simp, by omega, trivial⟩
            · simp [intOf]; omega
          · obtain rfl : k = 1 := by omega
            rw [hone.out]
            clear hlt
            have hth := val_there hres2 (0) ⟨#[]⟩
            clear hr hr2
            go_wp2_with (with_reducible refine wpList_store_named rfl 48 (.tmp 4) (.tmp 50) rfl (w.heap.size + 1) 0 #[.int .i64 (0), .string ⟨#[]⟩] rfl rfl hth HI.out HO.out ?_)
            intro w3 hw3
            obtain ⟨hB, hb⟩ := val_stored hres2 hw3 (Nat.le_succ w.heap.size) hbw2
            go_wp2
            refine bodyPost_ret (results_cell3 (b := w.heap.size + 1) (o := 0) rfl rfl hB.whole Try.underlying48 rfl (val_info2 _ _)) rfl ?_
            exact ⟨rfl, hb⟩
      · rw [if_neg h1]
        have h1' : ¬ (X : Int) > f.most := h1
        clear h1
        by_cases h2 : len < 1 + X
        · rw [if_pos h2, show strOf ([] : List Nat) = ⟨#[]⟩ from rfl]
          have h2' : (len : Int) < 1 + (X : Int) := by omega
          have HI := hid (val_info (0) ⟨#[]⟩)
          have HO := hid (val_one (0) ⟨#[]⟩)
          go_enter Try.func32, Try.ntmps32
          go_wp2_with (first
            | (go_at_call 35; (with_reducible refine cp.mono ?_); rintro e w1 ⟨rfl, hb1⟩; obtain ⟨hk1, hres1, hbw1⟩ := HW.out _ hb1; clear cp)
            | (go_at_call 34; (with_reducible refine (cs _ hb1).mono ?_); rintro e w2 ⟨rfl, hb2⟩; obtain ⟨hk2, hres2, hbw2⟩ := HW.out _ hb2; have hr2 := hr.below hbw2))
          go_loopw [12, 13] (fun u i wr => ∃ (k : Nat), u = .int .i64 (num (xs.take k) : Int) ∧ i = .int .i64 (k : Int) ∧ k ≤ 1 ∧ w2 = wr) (fun u i wr => 1 - (intOf i).toNat)
          case atStart => exact ⟨0, by simp [num], rfl, Nat.zero_le _, rfl⟩
          case round =>
            obtain ⟨k, rfl, rfl, hk, rfl⟩ := hrel
            by_cases hlt : k < 1
            · obtain ⟨b, off, rfl, hbb, hcell⟩ := hr2.at (i := k) (by omega)
              have hck := hcell k (by omega)
              have hn1 := num_lt k (xs.take k) (by rw [List.length_take]; omega) (fun x hm => HX.out x (List.mem_of_mem_take hm))
              have hp : (256 : Nat) ^ k ≤ 256 ^ 5 := Nat.pow_le_pow_right (by omega) (by omega)
              have hs := num_take_succ xs k (by omega)
              have hxk : xs.getD k 0 < 256 := by
                rw [List.getD_eq_getElem?_getD, List.getElem?_eq_getElem (by omega)]
                exact HX.out _ (List.getElem_mem (by omega))
              have hkl : k < len := by omega
              obtain ⟨Y, hY⟩ : ∃ Y, Hid (xs.getD k 0 = Y) := ⟨_, rfl⟩
              obtain ⟨M, hM⟩ : ∃ M, Hid (num (xs.take k) = M) := ⟨_, rfl⟩
              rw [hY.out] at hck hs hxk
              rw [hM.out] at hn1 hs ⊢
              have hN5 : M < 1099511627776 := by have : (256 : Nat) ^ 5 = 1099511627776 := by decide
                                                 omega
              have HS := hid hs
              clear hp hs hn1 hcell
              go_wp2
              go_round
              · exact ⟨k + 1, by rw [HS.out]; simp, by simp, by omega, trivial⟩
              · simp [intOf]; omega
            · obtain rfl : k = 1 := by omega
              rw [hone.out]
              clear hlt
              have hth := val_there hres2 (0) ⟨#[]⟩
              clear hr hr2
              go_wp2_with (with_reducible refine wpList_store_named rfl 48 (.tmp 4) (.tmp 56) rfl (w.heap.size + 1) 0 #[.int .i64 (0), .string ⟨#[]⟩] rfl rfl hth HI.out HO.out ?_)
              intro w3 hw3
              obtain ⟨hB, hb⟩ := val_stored hres2 hw3 (Nat.le_succ w.heap.size) hbw2
              go_wp2
              refine bodyPost_ret (results_cell3 (b := w.heap.size + 1) (o := 0) rfl rfl hB.whole Try.underlying48 rfl (val_info2 _ _)) rfl ?_
              exact ⟨rfl, hb⟩
        · rw [if_neg h2]
          have h2' : ¬ (len : Int) < 1 + (X : Int) := by omega
          have hcut : ∀ W : World, (Instr.slice 34 (.slice a len cap) (some (.int .i64 1)) (some (.int .i64 (1 + (X : Int)))) none).run Try.prog W = .ok (.slice (shift a 1 cap) X (cap - 1)) W := fun W => by
            have := cut_both W a len cap 1 (1 + X) (by omega) (by omega)
            rw [show ((1 + X : Nat) : Int) = 1 + (X : Int) by omega, show 1 + X - 1 = X by omega] at this
            exact this
          have HS2 : Hid (∀ W : World, Below w.heap.size w W → (convert 34 9 (.slice (shift a 1 cap) X (cap - 1))).run Try.prog W = .ok (.string (strOf ((xs.drop 1).take X))) W) := hid (fun W hb => by
            have hrs := reads_pre (n := X) (reads_shift (k := 1) (hr.below hb) (by omega) hc) (by omega)
            exact Reads.str (P := Try.prog) hrs 34 5 Try.underlying34 Try.underlying5 (cap - 1) 9 Try.underlying9)
          generalize strOf ((xs.drop 1).take X) = Z at *
          obtain ⟨A2, hA2⟩ : ∃ A2, shift a 1 cap = A2 := ⟨_, rfl⟩
          rw [hA2] at hcut HS2
          clear hA2
          have HI := hid (val_info (0) Z)
          have HO := hid (val_one (0) Z)
          go_enter Try.func32, Try.ntmps32
          go_wp2_with (first
            | (go_at_call 35; (with_reducible refine cp.mono ?_); rintro e w1 ⟨rfl, hb1⟩; obtain ⟨hk1, hres1, hbw1⟩ := HW.out _ hb1; clear cp)
            | (go_at_call 34; (with_reducible refine (cs _ hb1).mono ?_); rintro e w2 ⟨rfl, hb2⟩; obtain ⟨hk2, hres2, hbw2⟩ := HW.out _ hb2; have hr2 := hr.below hbw2))
          go_loopw [12, 13] (fun u i wr => ∃ (k : Nat), u = .int .i64 (num (xs.take k) : Int) ∧ i = .int .i64 (k : Int) ∧ k ≤ 1 ∧ w2 = wr) (fun u i wr => 1 - (intOf i).toNat)
          case atStart => exact ⟨0, by simp [num], rfl, Nat.zero_le _, rfl⟩
          case round =>
            obtain ⟨k, rfl, rfl, hk, rfl⟩ := hrel
            by_cases hlt : k < 1
            · obtain ⟨b, off, rfl, hbb, hcell⟩ := hr2.at (i := k) (by omega)
              have hck := hcell k (by omega)
              have hn1 := num_lt k (xs.take k) (by rw [List.length_take]; omega) (fun x hm => HX.out x (List.mem_of_mem_take hm))
              have hp : (256 : Nat) ^ k ≤ 256 ^ 5 := Nat.pow_le_pow_right (by omega) (by omega)
              have hs := num_take_succ xs k (by omega)
              have hxk : xs.getD k 0 < 256 := by
                rw [List.getD_eq_getElem?_getD, List.getElem?_eq_getElem (by omega)]
                exact HX.out _ (List.getElem_mem (by omega))
              have hkl : k < len := by omega
              obtain ⟨Y, hY⟩ : ∃ Y, Hid (xs.getD k 0 = Y) := ⟨_, rfl⟩
              obtain ⟨M, hM⟩ : ∃ M, Hid (num (xs.take k) = M) := ⟨_, rfl⟩
              rw [hY.out] at hck hs hxk
              rw [hM.out] at hn1 hs ⊢
              have hN5 : M < 1099511627776 := by have : (256 : Nat) ^ 5 = 1099511627776 := by decide
                                                 omega
              have HS := hid hs
              clear hp hs hn1 hcell
              go_wp2
              go_round
              · exact ⟨k + 1, by rw [HS.out]; simp, by simp, by omega, trivial⟩
              · simp [intOf]; omega
            · obtain rfl : k = 1 := by omega
              rw [hone.out]
              clear hlt
              have hth := val_there hres2 (0) Z
              have hcv := HS2.out w2 hbw2
              clear hr hr2
              go_wp2_with (with_reducible refine wpList_store_named rfl 48 (.tmp 4) (.tmp 62) rfl (w.heap.size + 1) 0 #[.int .i64 (0), .string Z] rfl rfl hth HI.out HO.out ?_)
              intro w3 hw3
              obtain ⟨hB, hb⟩ := val_stored hres2 hw3 (Nat.le_succ w.heap.size) hbw2
              go_wp2
              refine bodyPost_ret (results_cell3 (b := w.heap.size + 1) (o := 0) rfl rfl hB.whole Try.underlying48 rfl (val_info2 _ _)) rfl ?_
              exact ⟨by rw [show ((1 + X : Nat) : Int) = 1 + (X : Int) by omega]; rfl, hb⟩
  · have ht := Fd.take_num h h4 xs
    rw [ht, hlen]
    have hs6 := Fd.size_num h h4
    have e4 : (f.kind == 4) = false := by rw [beq_eq_false_iff_ne]; exact h4
    obtain ⟨T, hT⟩ : ∃ T : Nat, f.great - f.lo = (T : Int) := ⟨(f.great - f.lo).toNat, by omega⟩
    have hTb : T ≤ 2199023255552 := by omega
    have s1 := hsp.2.2.1
    have s2 := hsp.2.2.2.1
    rw [hT]
    have hG : f.great = f.lo + (T : Int) := by omega
    rw [hG] at cp
    have hsub : f.lo + (T : Int) - f.lo = (T : Int) := by omega
    clear ht h h4 hsp hx hG hT
    generalize f.long = L at *
    generalize f.size = sz at *
    unfold TakesAs
    unfold W2 at HW cp cs
    by_cases h0 : len < sz
    · rw [if_pos h0, show strOf ([] : List Nat) = ⟨#[]⟩ from rfl]
      have HI := hid (val_info 0 ⟨#[]⟩)
      have HO := hid (val_one 0 ⟨#[]⟩)
      have h0' : (len : Int) < (sz : Int) := by omega
      clear HX h0 hsub
      go_enter Try.func32, Try.ntmps32
      go_wp2_with (first
        | (go_at_call 35; (with_reducible refine cp.mono ?_); rintro e w1 ⟨rfl, hb1⟩; obtain ⟨hk1, hres1, hbw1⟩ := HW.out _ hb1; clear cp)
        | (go_at_call 34; (with_reducible refine (cs _ hb1).mono ?_); rintro e w2 ⟨rfl, hb2⟩; obtain ⟨hk2, hres2, hbw2⟩ := HW.out _ hb2; have hr2 := hr.below hbw2; have hth := val_there hres2 0 ⟨#[]⟩)
        | (with_reducible refine wpList_store_named rfl 48 (.tmp 4) (.tmp 30) rfl (w.heap.size + 1) 0 #[.int .i64 0, .string ⟨#[]⟩] rfl rfl hth HI.out HO.out ?_))
      intro w3 hw3
      obtain ⟨hB, hb⟩ := val_stored hres2 hw3 (Nat.le_succ w.heap.size) hbw2
      go_wp2
      refine bodyPost_ret (results_cell3 (b := w.heap.size + 1) (o := 0) rfl rfl hB.whole Try.underlying48 rfl (val_info2 _ _)) rfl ?_
      exact ⟨rfl, hb⟩
    · rw [if_neg h0]
      have h0' : ¬ (len : Int) < (sz : Int) := by omega
      have hn := num_lt sz (xs.take sz) (by rw [List.length_take]; omega) (fun x hm => HX.out x (List.mem_of_mem_take hm))
      have hp : (256 : Nat) ^ sz ≤ 256 ^ 6 := Nat.pow_le_pow_right (by omega) hs6
      have hu : num (xs.take sz) < 281474976710656 := by have : (256 : Nat) ^ 6 = 281474976710656 := by decide
                                                         omega
      clear hn hp
      obtain ⟨u, hone⟩ : ∃ u, Hid (num (xs.take sz) = u) := ⟨_, rfl⟩
      rw [hone.out] at hu ⊢
      by_cases h2 : (T : Int) < (u : Int)
      · rw [if_pos h2, show strOf ([] : List Nat) = ⟨#[]⟩ from rfl]
        have h2' : (u : Int) > (T : Int) := h2
        clear h2
        have HI := hid (val_info (0) ⟨#[]⟩)
        have HO := hid (val_one (0) ⟨#[]⟩)
        go_enter Try.func32, Try.ntmps32
        go_wp2_with (first
          | (go_at_call 35; (with_reducible refine cp.mono ?_); rintro e w1 ⟨rfl, hb1⟩; obtain ⟨hk1, hres1, hbw1⟩ := HW.out _ hb1; clear cp)
          | (go_at_call 34; (with_reducible refine (cs _ hb1).mono ?_); rintro e w2 ⟨rfl, hb2⟩; obtain ⟨hk2, hres2, hbw2⟩ := HW.out _ hb2; have hr2 := hr.below hbw2))
        go_loopw [12, 13] (fun u i wr => ∃ (k : Nat), u = .int .i64 (num (xs.take k) : Int) ∧ i = .int .i64 (k : Int) ∧ k ≤ sz ∧ w2 = wr) (fun u i wr => sz - (intOf i).toNat)
        case atStart => exact ⟨0, by simp [num], rfl, Nat.zero_le _, rfl⟩
        case round =>
          obtain ⟨k, rfl, rfl, hk, rfl⟩ := hrel
          by_cases hlt : k < sz
          · obtain ⟨b, off, rfl, hbb, hcell⟩ := hr2.at (i := k) (by omega)
            have hck := hcell k (by omega)
            have hn1 := num_lt k (xs.take k) (by rw [List.length_take]; omega) (fun x hm => HX.out x (List.mem_of_mem_take hm))
            have hp : (256 : Nat) ^ k ≤ 256 ^ 5 := Nat.pow_le_pow_right (by omega) (by omega)
            have hs := num_take_succ xs k (by omega)
            have hxk : xs.getD k 0 < 256 := by
              rw [List.getD_eq_getElem?_getD, List.getElem?_eq_getElem (by omega)]
              exact HX.out _ (List.getElem_mem (by omega))
            have hkl : k < len := by omega
            obtain ⟨Y, hY⟩ : ∃ Y, Hid (xs.getD k 0 = Y) := ⟨_, rfl⟩
            obtain ⟨M, hM⟩ : ∃ M, Hid (num (xs.take k) = M) := ⟨_, rfl⟩
            rw [hY.out] at hck hs hxk
            rw [hM.out] at hn1 hs ⊢
            have hN5 : M < 1099511627776 := by have : (256 : Nat) ^ 5 = 1099511627776 := by decide
                                               omega
            have HS := hid hs
            clear hp hs hn1 hcell
            go_wp2
            go_round
            · exact ⟨k + 1, by rw [HS.out]; simp, by simp, by omega, trivial⟩
            · simp [intOf]; omega
          · obtain rfl : k = sz := by omega
            rw [hone.out]
            clear hlt
            have hth := val_there hres2 (0) ⟨#[]⟩
            clear hr hr2
            go_wp2_with (with_reducible refine wpList_store_named rfl 48 (.tmp 4) (.tmp 70) rfl (w.heap.size + 1) 0 #[.int .i64 (0), .string ⟨#[]⟩] rfl rfl hth HI.out HO.out ?_)
            intro w3 hw3
            obtain ⟨hB, hb⟩ := val_stored hres2 hw3 (Nat.le_succ w.heap.size) hbw2
            go_wp2
            refine bodyPost_ret (results_cell3 (b := w.heap.size + 1) (o := 0) rfl rfl hB.whole Try.underlying48 rfl (val_info2 _ _)) rfl ?_
            exact ⟨rfl, hb⟩
      · rw [if_neg h2, show strOf ([] : List Nat) = ⟨#[]⟩ from rfl]
        have h2' : ¬ (u : Int) > (T : Int) := h2
        have h2n : u ≤ T := by omega
        clear h2
        have HI := hid (val_info (f.lo + (u : Int)) ⟨#[]⟩)
        have HO := hid (val_one (f.lo + (u : Int)) ⟨#[]⟩)
        go_enter Try.func32, Try.ntmps32
        go_wp2_with (first
          | (go_at_call 35; (with_reducible refine cp.mono ?_); rintro e w1 ⟨rfl, hb1⟩; obtain ⟨hk1, hres1, hbw1⟩ := HW.out _ hb1; clear cp)
          | (go_at_call 34; (with_reducible refine (cs _ hb1).mono ?_); rintro e w2 ⟨rfl, hb2⟩; obtain ⟨hk2, hres2, hbw2⟩ := HW.out _ hb2; have hr2 := hr.below hbw2))
        go_loopw [12, 13] (fun u i wr => ∃ (k : Nat), u = .int .i64 (num (xs.take k) : Int) ∧ i = .int .i64 (k : Int) ∧ k ≤ sz ∧ w2 = wr) (fun u i wr => sz - (intOf i).toNat)
        case atStart => exact ⟨0, by simp [num], rfl, Nat.zero_le _, rfl⟩
        case round =>
          obtain ⟨k, rfl, rfl, hk, rfl⟩ := hrel
          by_cases hlt : k < sz
          · obtain ⟨b, off, rfl, hbb, hcell⟩ := hr2.at (i := k) (by omega)
            have hck := hcell k (by omega)
            have hn1 := num_lt k (xs.take k) (by rw [List.length_take]; omega) (fun x hm => HX.out x (List.mem_of_mem_take hm))
            have hp : (256 : Nat) ^ k ≤ 256 ^ 5 := Nat.pow_le_pow_right (by omega) (by omega)
            have hs := num_take_succ xs k (by omega)
            have hxk : xs.getD k 0 < 256 := by
              rw [List.getD_eq_getElem?_getD, List.getElem?_eq_getElem (by omega)]
              exact HX.out _ (List.getElem_mem (by omega))
            have hkl : k < len := by omega
            obtain ⟨Y, hY⟩ : ∃ Y, Hid (xs.getD k 0 = Y) := ⟨_, rfl⟩
            obtain ⟨M, hM⟩ : ∃ M, Hid (num (xs.take k) = M) := ⟨_, rfl⟩
            rw [hY.out] at hck hs hxk
            rw [hM.out] at hn1 hs ⊢
            have hN5 : M < 1099511627776 := by have : (256 : Nat) ^ 5 = 1099511627776 := by decide
                                               omega
            have HS := hid hs
            clear hp hs hn1 hcell
            go_wp2
            go_round
            · exact ⟨k + 1, by rw [HS.out]; simp, by simp, by omega, trivial⟩
            · simp [intOf]; omega
          · obtain rfl : k = sz := by omega
            rw [hone.out]
            clear hlt
            have hth := val_there hres2 (f.lo + (u : Int)) ⟨#[]⟩
            clear hr hr2
            go_wp2_with (with_reducible refine wpList_store_named rfl 48 (.tmp 4) (.tmp 74) rfl (w.heap.size + 1) 0 #[.int .i64 (f.lo + (u : Int)), .string ⟨#[]⟩] rfl rfl hth HI.out HO.out ?_)
            intro w3 hw3
            obtain ⟨hB, hb⟩ := val_stored hres2 hw3 (Nat.le_succ w.heap.size) hbw2
            go_wp2
            refine bodyPost_ret (results_cell3 (b := w.heap.size + 1) (o := 0) rfl rfl hB.whole Try.underlying48 rfl (val_info2 _ _)) rfl ?_
            exact ⟨rfl, hb⟩
end Go.Proofs.Ytegeeobfamjjpaa.field
/- Contract of the reference of layer 14 (record): Take. No condition. -/
namespace Go.Proofs.Ytegeeobfamjjpaa.record
open Go.RowKit Go.Proofs.Ytegeeobfamjjpaa.cut
open Go.Proofs.Ytegeeobfamjjpaa.field (Va Gives newB gives_from refTake_any TakesAs)
open Go.Proofs.Ytegeeobfamjjpaa.schema (below_out field_at Fine wpList_append_fromN)
set_option linter.unusedVariables false

set_option maxRecDepth 20000 in
set_option maxHeartbeats 1600000 in
theorem refTakeR_any (i : Int) (a : Option Addr) (c : Nat) (L : List field.Fd) (ab : Option Addr) (lenb capb : Nat) (xs : List Nat) (w : World) (h : field.Fds w a L) (hR : ∀ f ∈ L, f.Right) (hL8 : L.length ≤ 8)
    (hrd : Reads .u8 w ab lenb xs) (hxs : ∀ x ∈ xs, x < 256) (hcb : lenb ≤ capb) (hmb : capb ≤ 9223372036854775807) :
    Calls Try.prog 17 #[.agg #[.int .i64 i, .slice a L.length c], .slice ab lenb capb] w (TakesR (fin i (takeL L xs)) w) := by
  have HX := hid (WMR.all i a L c w)
  have hw := (WMR.all i a L c w _ (Below.refl _ _)).2.2.2
  have HF1 := hid (h.below hw)
  have HRD1 := hid (hrd.below hw)
  have HRI := hid hR
  unfold TakesR
  obtain ⟨⟨TF, TV, TE⟩, hT⟩ : ∃ T, Hid (fin i (takeL L xs) = T) := ⟨_, hid rfl⟩
  rw [hT.out]
  simp only
  have HXS := hid hxs
  obtain ⟨w1, hw1⟩ : ∃ x, Hid (WMR i a L c w = x) := ⟨_, hid rfl⟩
  rw [hw1.out] at HX HF1 HRD1
  obtain ⟨z0, z1, hR1, hbo⟩ := HX.out w1 (Below.refl _ _)
  have hsz0 : w.heap.size < w1.heap.size := (by have := hR1.lt; omega)
  unfold WMR at hw1
  clear h hw hrd hxs hR
  go_enter Try.func17, Try.ntmps17
  go_wp2
  rw [hw1.out]
  have HR1 := hid hR1
  have HBO := hid hbo
  have HS2 := hid (RS.start w1 i)
  have HSZ : Hid (w.heap.size + 1 < w1.heap.size) := hid hR1.lt
  have hF : Hid (w.heap.size + 1 + 1 = w1.heap.size) := hid (by rw [← hw1.out]; simp)
  obtain ⟨F, hF1⟩ : ∃ F, Hid (w1.heap.size = F) := ⟨_, hid rfl⟩
  rw [hF.out]
  rw [hF1.out] at HS2 HSZ ⊢
  clear hR1 hbo z0 z1 hsz0 hF
  go_loopw [1, 7] (fun v m wr => ∃ k : Nat, k ≤ L.length ∧ m = .int .i64 (k : Int) ∧ Hid (TS i L w1 F (TF, TV, TE) k v wr)) (fun _ m _ => L.length - (intOf m).toNat)
  case atStart => exact ⟨0, Nat.zero_le _, rfl, hid ⟨_, _, _, xs, [], _, rfl, HRD1.out, HXS.out, hcb, hmb, HS2.out, by rw [List.drop_zero, onto_nil]; exact hT.out⟩⟩
  case round =>
    obtain ⟨k, hk, rfl, HTS⟩ := hrel
    obtain ⟨a', len', cap', ys, V, u, rfl, hr', hx', hc', hm', hS, hfin⟩ := HTS.out
    obtain ⟨ua, uc, rfl, _⟩ := ownsRow_slice hS.row
    clear HTS hT HRD1 hcb hmb HS2
    obtain ⟨z0, z1, _, _⟩ := HX.out _ hS.low
    by_cases hlt : k < L.length
    · obtain ⟨g, off, p, rfl, hbl, hp, c0, c1, c2, c3, c4⟩ := field_at HF1.out hS.low hlt
      have i1 : (k : Int) < L.length := by omega
      have cT := refTake_any p (HRI.out p (List.mem_of_getElem? hp)) a' len' cap' ys wr (hr'.below hS.low) hx' hc' hm'
      unfold TakesAs at cT
      have hlen' := hr'.1
      by_cases he : (p.take ys).e = 0
      · have hcl : (p.take ys).c ≤ len' := by have := (field.Fd.lay_take hx' he).2.1; omega
        have HRN := hid (reads_shift hr' hcl hc')
        have HXN : Hid (∀ x ∈ ys.drop (p.take ys).c, x < 256) := hid (fun x hm => hx' x (List.mem_of_mem_drop hm))
        have HFN := hid ((onto_step V hp he).symm ▸ hfin)
        have HCN : Hid (len' - (p.take ys).c ≤ cap' - (p.take ys).c ∧ cap' - (p.take ys).c ≤ 9223372036854775807) := hid (by omega)
        have hcut := fun W => cut_from W a' len' cap' (p.take ys).c hcl
        rw [he] at cT
        have HS := hid hS
        clear hp hS hfin he hr' hx'
        generalize strOf (p.take ys).s = st at *
        generalize (p.take ys).n = nn at *
        generalize (p.take ys).c = cc at *
        generalize shift a' cc cap' = a2 at *
        obtain ⟨i0, hi, hz0, hz1, hz2⟩ := va_info_parts
        go_wp2_with (first
          | (go_at_call 32; ((with_reducible refine cT.mono ?_); rintro e w3 ⟨rfl, hb3⟩; have HS3 := hid ((HS.out.later hb3).later (newB w3 (.cells #[.int .i64 nn, .string st] 48))); have hcF := HS3.out.f.cell 1; have HS4 := hid (HS3.out.later (newB (w3.alloc (.cells #[.int .i64 nn, .string st] 48)) (.cells #[.int .i64 nn, .string st] 48)))))
          | (at_builtin; refine wpList_append_fromN rfl _ _ 25 rfl (F + 1) 48 i0 (.agg #[.int .i64 0, .string ⟨#[]⟩]) 2 24 Try.underlying25 hi hz0 hz1 hz2 (by simp [Value.cells]) (by omega) _ k (vaV V) rfl HS4.out.row (some ⟨w3.heap.size + 1, 0, none⟩) 1 1 (vaC ⟨nn, st⟩) rfl rfl (by have := one_va (w3.alloc (.cells #[.int .i64 nn, .string st] 48)) ⟨nn, st⟩; rw [World.size_alloc] at this; exact this) (vaC_one _) (by unfold maxLen; omega) (by omega) HS4.out.f.lt ?_; intro z w5 ho5 hg5; have hF5 := HS4.out.held hg5; have hc5 := hF5.cell 1; have hz5 := hF5.frozen 1; have HS6 := hid (HS4.out.push (p := ⟨nn, st⟩) hg5 (by rw [vaV_append]; simpa [vaV] using ho5)); obtain ⟨qa, qc, rfl, _⟩ := ownsRow_slice ho5; clear ho5 hg5 hF5))
        exact ⟨⟨k + 1, by omega, by go_num, hid ⟨_, _, _, _, _, _, rfl, HRN.out, HXN.out, HCN.out.1, HCN.out.2, HS6.out, HFN.out⟩⟩, by simp [intOf]; omega⟩
      · have hst := fin_stop i V hp he
        rw [hfin] at hst
        obtain ⟨rfl, rfl, hTE⟩ : TF = 0 ∧ TV = [] ∧ TE = (p.take ys).e := ⟨congrArg (·.1) hst, congrArg (·.2.1) hst, congrArg (·.2.2) hst⟩
        have HE0 : Hid ((TE != 0) = true) := hid (by rw [hTE]; simpa using he)
        rw [← hTE] at cT
        have hS1 := hS
        have HB := hid (HBO.out.trans (hS1.low.mono HBO.out.size))
        have HR := hid (HR1.out.later hS1.low)
        clear hp hS hfin he hr' hx' hst hS1 hTE
        generalize strOf (p.take ys).s = st at *
        generalize (p.take ys).n = nn at *
        generalize (p.take ys).c = cc at *
        have he0 := HE0.out
        go_wp2_with (go_at_call 32; ((with_reducible refine cT.mono ?_); rintro e w3 ⟨rfl, hb3⟩; have hR3 := (HR.out.later hb3).alloc (.cells #[.int .i64 nn, .string st] 48); have x0 := hR3.cell 0; have x1 := hR3.cell 1; have p0 := hR3.frozen 0; have p1 := hR3.frozen 1; have HR3 := hid hR3; have HB3 := hid ((HB.out.trans (hb3.mono HB.out.size)).trans ((newB w3 (.cells #[.int .i64 nn, .string st] 48)).mono (HB.out.trans (hb3.mono HB.out.size)).size)); clear hR3))
        have hB := (HR3.out.setCell 0 (.int .i64 0)).setCell 1 (.slice none 0 0)
        exact bodyPost_ret (results_cell2 (b := w.heap.size + 1) (o := 0) rfl rfl hB.whole Try.underlying27 rfl (rc_info _ _)) rfl ⟨none, 0, rfl, .inl rfl, below_setCells (below_setCells HB3.out (by omega) 0 [.int .i64 0]) (by omega) 1 [.slice none 0 0]⟩
    · obtain rfl : k = L.length := by omega
      have hR := HR1.out.later hS.low
      have x0 := hR.cell 0
      have x1 := hR.cell 1
      have p0 := hR.frozen 0
      have p1 := hR.frozen 1
      have y0 := hS.f.cell 0
      have y1 := hS.f.cell 1
      have hlen' := hr'.1
      have HB3 := hid (HBO.out.trans (hS.low.mono HBO.out.size))
      by_cases h0 : len' = 0
      · have hst := fin_end i V (xs := ys) (L := L) (by omega)
        rw [hfin] at hst
        obtain ⟨rfl, rfl, rfl⟩ : TF = i ∧ TV = V ∧ TE = 0 := ⟨congrArg (·.1) hst, congrArg (·.2.1) hst, congrArg (·.2.2) hst⟩
        have hd0 : ¬ (0 < len') := by omega
        have hd1 : decide ((len' : Int) > 0) = false := decide_eq_false (by omega)
        have hd2 : ¬ (0 < (len' : Int)) := by omega
        have HS3 := hid hS
        have HR3 := hid hR
        clear hS hR hfin hst hr' hx' h0
        go_wp2
        obtain ⟨d1, d2, d3⟩ := HS3.out.done HR3.out HSZ.out (by omega) HB3.out
        exact bodyPost_ret (results_cell2 (b := w.heap.size + 1) (o := 0) rfl rfl d1.whole Try.underlying27 rfl (rc_info _ _)) rfl (by first | exact ⟨_, _, rfl, d2, d3⟩ | exact ⟨_, ⟨_, rfl⟩, d2, d3⟩)
      · have hst := fin_rest i V (xs := ys) (L := L) (by omega)
        rw [hfin] at hst
        obtain ⟨rfl, rfl, rfl⟩ : TF = 0 ∧ TV = [] ∧ TE = 6 := ⟨congrArg (·.1) hst, congrArg (·.2.1) hst, congrArg (·.2.2) hst⟩
        have hd0 : 0 < len' := by omega
        have hd1 : decide ((len' : Int) > 0) = true := decide_eq_true (by omega)
        have hd2 : 0 < (len' : Int) := by omega
        have HR3 := hid hR
        clear hS hR hfin hst hr' hx' h0
        go_wp2
        have hB := (HR3.out.setCell 0 (.int .i64 0)).setCell 1 (.slice none 0 0)
        exact bodyPost_ret (results_cell2 (b := w.heap.size + 1) (o := 0) rfl rfl hB.whole Try.underlying27 rfl (rc_info _ _)) rfl ⟨none, 0, rfl, .inl rfl, below_setCells (below_setCells HB3.out (by omega) 0 [.int .i64 0]) (by omega) 1 [.slice none 0 0]⟩
end Go.Proofs.Ytegeeobfamjjpaa.record
/- Contract of the reference's Lay of layer 12 (field). No condition but a value that belongs to the field. -/
namespace Go.Proofs.Ytegeeobfamjjpaa.field
open Go.RowKit Go.Proofs.Ytegeeobfamjjpaa.cut
set_option linter.unusedVariables false

theorem u8v_one (xs : List Nat) : ∀ v ∈ u8v xs, v.oneCell' = true := by intro v hv; obtain ⟨x, _, rfl⟩ := List.mem_map.1 hv; rfl
theorem reads_news {w : World} {a : Option Addr} {len : Nat} {xs : List Nat} (h : Reads .u8 w a len xs) : len = 0 ∨ ∃ ad, a = some ad ∧ ∀ j u, (u8v xs)[j]? = some u → w.cell? (ad.add j) = some u := by
  rcases h.2 with h0 | ⟨b, off, ha, _, hc⟩
  · exact .inl h0
  · refine .inr ⟨_, ha, fun j u hj => ?_⟩
    have hl : j < xs.length := by have := (List.getElem?_eq_some_iff.1 hj).1; simpa [u8v] using this
    rw [u8v_get xs j hl] at hj
    cases hj
    rw [Addr.add_lit]
    exact hc j (by have := h.1; omega)
theorem refSize_any' (f : Fd) (w : World) (sz : Nat) (h : Hid (f.size = sz)) : Calls Try.prog 34 #[.agg #[.int .i64 f.id, .int .i64 f.kind, .int .i64 f.lo, .int .i64 f.hi, .int .i64 f.most]] w (Gives (.int .i64 (sz : Int)) w) := by rw [← h.out]; exact refSize_any f w
theorem refLayNum_any (f : Fd) (v : Va) (h : f.Has v) (h4 : f.kind ≠ 4) (w : World) : Calls Try.prog 33 #[.agg #[.int .i64 f.id, .int .i64 f.kind, .int .i64 f.lo, .int .i64 f.hi, .int .i64 f.most], .agg #[.int .i64 v.n, .string v.s]] w fun e w' => ∃ u, e = .returned u ∧ w'.ownsRow w.heap.size 5 1 u (f.layB v).length (u8v (f.layB v)) ∧ Below w.heap.size w w' := by
  have HW := hid (WV.all f v w)
  obtain ⟨hr, ⟨k1, k2⟩, hh⟩ := h
  have hL : f.layB v = digits f.size (v.n - f.lo).toNat := by unfold Fd.layB; rw [if_neg (show ¬¬ f.Has v from fun k => k ⟨hr, ⟨k1, k2⟩, hh⟩), if_neg h4]
  rw [hL]
  have hsp := hr.span
  have cs := span_from f hr (w0 := WV f v w) (Below.refl _ _)
  have hs6 := Fd.size_num hr h4
  have e4 : (f.kind == 4) = false := by rw [beq_eq_false_iff_ne]; exact h4
  obtain ⟨N, hN⟩ : ∃ N : Nat, v.n - f.lo = (N : Int) := ⟨(v.n - f.lo).toNat, by omega⟩
  rw [hN, show ((N : Int)).toNat = N from rfl, digits_length]
  have hNb : N < 281474976710656 := by omega
  have s1 := hsp.2.2.1
  have s2 := hsp.2.2.2.1
  have hw1 : IntKind.i64.wrap (v.n - f.lo) = (N : Int) := by rw [IntWalk.i64_in _ (by omega), hN]
  have hw2 : wrap64 (v.n - f.lo) = (N : Int) := by rw [IntWalk.wrap64_in _ (by omega), hN]
  have HN := hid hN
  obtain ⟨i0, hi, hz0, hz1, hz2⟩ := info_parts u8_info
  clear hr k1 k2 hh h4 hL hsp hN
  generalize f.great = G at *
  generalize f.long = LL at *
  obtain ⟨sz, HSZ⟩ : ∃ sz, Hid (f.size = sz) := ⟨_, rfl⟩
  rw [HSZ.out] at hs6 ⊢
  unfold WV at HW cs
  go_enter Try.func33, Try.ntmps33
  go_wp2_with (go_at_call 35; (with_reducible refine cs.mono ?_); rintro e w1 ⟨rfl, hb1⟩; obtain ⟨hf1, hv1, hbw1⟩ := HW.out _ hb1; clear cs)
  go_loopw [9, 10, 11] (fun n b i wr => ∃ (k : Nat) (a : Option Addr) (c : Nat), n = .int .i64 ((N / 256 ^ k : Nat) : Int) ∧ b = .slice a k c ∧ i = .int .i64 (k : Int) ∧ k ≤ sz ∧ wr.ownsRow w.heap.size 5 1 (.slice a k c) k (u8v (digits k N)) ∧ Hid (Below ((w.alloc (.cells #[.int .i64 f.id, .int .i64 f.kind, .int .i64 f.lo, .int .i64 f.hi, .int .i64 f.most] 46)).alloc (.cells #[.int .i64 v.n, .string v.s] 48)).heap.size ((w.alloc (.cells #[.int .i64 f.id, .int .i64 f.kind, .int .i64 f.lo, .int .i64 f.hi, .int .i64 f.most] 46)).alloc (.cells #[.int .i64 v.n, .string v.s] 48)) wr)) (fun n b i wr => sz - (intOf i).toNat)
  case atStart => exact ⟨0, none, 0, by simp, rfl, rfl, Nat.zero_le _, World.ownsRow_nil _ _ _ _, hid hb1⟩
  case round =>
    obtain ⟨k, a, c, rfl, rfl, rfl, hk, ho, hbr⟩ := hrel
    have hbr' := hbr.out
    obtain ⟨hfr, hvr, hbwr⟩ := HW.out _ hbr'
    have hNk : N / 256 ^ k ≤ N := Nat.div_le_self _ _
    by_cases hlt : k < sz
    · have hd := digits_cons k N
      have hdiv : N / 256 ^ (k + 1) = N / 256 ^ k / 256 := by rw [Nat.pow_succ, Nat.div_div_eq_div_mul]
      rw [show k + 1 = 1 + k by omega] at hd
      obtain ⟨M, hM⟩ : ∃ M, Hid (N / 256 ^ k = M) := ⟨_, rfl⟩
      rw [hM.out] at hd hdiv hNk ⊢
      have hMb : M < 281474976710656 := by omega
      have hm8 : IntKind.u8.wrap ((M : Int) % 256) = ((M % 256 : Nat) : Int) := by rw [IntWalk.u8_in _ (by omega)]; omega
      have HD := hid hd
      have HDV := hid hdiv
      have HO := hid ho
      clear hd hdiv ho
      have cz1 := refSize_any' f wr sz HSZ
      obtain ⟨V, hV⟩ : ∃ V, Hid (u8v (digits k N) = V) := ⟨_, rfl⟩
      have hVl : Hid (V.length = k) := hid (by rw [← hV.out, u8v_length, digits_length])
      go_wp2_with (first
        | (go_at_call 34; (with_reducible refine cz1.mono ?_); rintro e w2 ⟨rfl, hb2⟩; have hbW := hbr'.trans (hb2.mono hbr'.size); obtain ⟨hf2, hv2, hbw2⟩ := HW.out _ hbW; have ho2 := ownsRow_later HO.out hb2; have hrow := World.ownsRow_lit (base := w.heap.size) (e := 5) (size := 1) w2 #[.int .u8 ((M : Int) % 256)] 1 hbw2.size (by unfold maxLen; omega) rfl; have hnews := reads_news (Reads.own (k := .u8) (xs := digits k N) (w := w2.alloc (.cells #[.int .u8 ((M : Int) % 256)] 5)) (ho2.alloc _)); rw [hV.out] at hnews)
        | (at_builtin; refine wpList_append_from rfl _ _ 34 rfl w.heap.size 5 i0 (.int .u8 0) 1 Try.underlying34 hi hz0 hz1 hz2 rfl (.slice (some ⟨w2.heap.size, 0, none⟩) 1 1) 1 [.int .u8 ((M : Int) % 256)] rfl hrow a k c V rfl hVl.out hnews (by rw [← hV.out]; exact u8v_one _) (by unfold maxLen; omega) (by omega) (Nat.le_trans hbw2.size (by simp)) ?_))
      intro u w3 ho3 hg3
      have hb3 := (hbW.alloc hbW.size (.cells #[.int .u8 ((M : Int) % 256)] 5)).grown hg3 (Nat.le_trans hbW.size (by simp)) (fun k hk => by cases hk; exact hbW.size)
      rw [show Value.int .u8 ((M : Int) % 256) :: V = u8v (digits (1 + k) N) by rw [HD.out, ← hV.out]; simp [u8v], Nat.add_comm 1 k] at ho3
      obtain ⟨a3, c3, rfl, _⟩ := ownsRow_slice ho3
      have HO3 := hid ho3
      have HB3 := hid hb3
      clear ho3 hb3 hg3 hnews hrow ho2
      go_wp2
      go_round
      · exact ⟨k + 1, a3, c3, by rw [HDV.out]; simp, rfl, by simp, by omega, HO3.out, HB3⟩
      · simp [intOf]; omega
    · obtain rfl : k = sz := by omega
      have cz1 := refSize_any' f wr k HSZ
      have HO := hid ho
      clear ho
      go_wp2_with (go_at_call 34; (with_reducible refine cz1.mono ?_); rintro e w2 ⟨rfl, hb2⟩; have hbW := hbr'.trans (hb2.mono hbr'.size); obtain ⟨hf2, hv2, hbw2⟩ := HW.out _ hbW; have ho2 := ownsRow_later HO.out hb2)
      go_ret
      exact ⟨_, rfl, ho2, hbw2⟩
theorem refLayText_any (f : Fd) (v : Va) (h : f.Has v) (h4 : f.kind = 4) (w : World) : Calls Try.prog 33 #[.agg #[.int .i64 f.id, .int .i64 f.kind, .int .i64 f.lo, .int .i64 f.hi, .int .i64 f.most], .agg #[.int .i64 v.n, .string v.s]] w fun e w' => ∃ u, e = .returned u ∧ w'.ownsRow w.heap.size 5 1 u (f.layB v).length (u8v (f.layB v)) ∧ Below w.heap.size w w' := by
  have HW := hid (WV.all f v w)
  obtain ⟨hr, ⟨k1, k2⟩, hh⟩ := h
  have hL : f.layB v = v.s.size :: bytesOf v.s := by unfold Fd.layB; rw [if_neg (show ¬¬ f.Has v from fun k => k ⟨hr, ⟨k1, k2⟩, hh⟩), if_pos h4]
  rw [hL]
  have hsp := hr.span
  have hs32 : v.s.size ≤ 32 := by omega
  have cs := span_from f hr (w0 := WV f v w) (Below.refl _ _)
  have e4 : (f.kind == 4) = true := by rw [beq_iff_eq]; exact h4
  obtain ⟨i0, hi, hz0, hz1, hz2⟩ := info_parts u8_info
  have hbl : (v.s.size :: bytesOf v.s).length = 1 + v.s.size := by rw [List.length_cons, bytesOf_length]; omega
  have hbv : u8v (v.s.size :: bytesOf v.s) = [Value.int .u8 (v.s.size : Int)] ++ u8v (bytesOf v.s) := rfl
  rw [hbl, hbv]
  have hwr : IntKind.u8.wrap (v.s.size : Int) = (v.s.size : Int) := IntWalk.u8_in _ (by omega)
  have hcv : Hid (∀ w1 : World, (convert 9 34 (.string v.s)).run Try.prog w1 = .ok (.slice (some ⟨w1.heap.size, 0, none⟩) v.s.size (grownCap w1 v.s.size 0 5)) (Lib.bytesWorld w1 5 v.s)) :=
    hid fun w1 => Lib.run_convert_string_bytes w1 _ _ _ _ Try.underlying9 Try.underlying34 Try.underlying5
  have hnw : Hid (∀ w1 : World, v.s.size = 0 ∨ ∃ ad, (some ⟨w1.heap.size, 0, none⟩ : Option Addr) = some ad ∧ ∀ j u, (u8v (bytesOf v.s))[j]? = some u → (Lib.bytesWorld w1 5 v.s).cell? (ad.add j) = some u) := hid fun w1 => by
    refine reads_news (xs := bytesOf v.s) ⟨by rw [bytesOf_length], .inr ⟨_, _, rfl, by rw [Lib.bytesWorld_size]; omega, fun i hi => ?_⟩⟩
    rw [Nat.zero_add, Lib.bytesWorld_cell _ _ _ _ hi]
    have hi' : i < v.s.data.toList.length := by rw [Array.length_toList]; exact hi
    simp [bytesOf, List.getD_eq_getElem?_getD, List.getElem?_eq_getElem hi']
  have hun : Hid ((u8v (bytesOf v.s)).length = v.s.size) := hid (by rw [u8v_length, bytesOf_length])
  clear hr k1 k2 hh h4 hL hsp hbl hbv
  generalize f.great = G at *
  generalize f.long = LL at *
  unfold WV at HW cs
  go_enter Try.func33, Try.ntmps33
  go_wp2_with (first
    | (go_at_call 35; (with_reducible refine cs.mono ?_); rintro e w2 ⟨rfl, hb2⟩; obtain ⟨hf2, hv2, hbw2⟩ := HW.out _ hb2; clear cs; have hlt : w.heap.size + 1 < w2.heap.size := (by have := hb2.size; simp at this; omega); have hrow := World.ownsRow_lit (base := w.heap.size) (e := 5) (size := 1) w2 #[.int .u8 (v.s.size : Int)] 1 hbw2.size (by unfold maxLen; omega) rfl; have hc1 := hcv.out (w2.alloc (.cells #[.int .u8 (v.s.size : Int)] 5)))
    | (at_builtin; refine wpList_append_from rfl _ _ 34 rfl w.heap.size 5 i0 (.int .u8 0) 1 Try.underlying34 hi hz0 hz1 hz2 rfl (.slice (some ⟨w2.heap.size, 0, none⟩) 1 1) 1 [.int .u8 (v.s.size : Int)] rfl (ownsRow_later hrow (Lib.bytesWorld_below _ _ _)) (some ⟨w2.heap.size + 1, 0, none⟩) v.s.size _ (u8v (bytesOf v.s)) rfl hun.out (by simpa using hnw.out (w2.alloc (.cells #[.int .u8 (v.s.size : Int)] 5))) (u8v_one _) (by unfold maxLen; omega) (by omega) (by rw [Lib.bytesWorld_size]; simp; omega) ?_))
  intro u w3 ho3 hg3
  have hbb := (hbw2.alloc hbw2.size (.cells #[.int .u8 (v.s.size : Int)] 5))
  have hbc := hbb.trans ((Lib.bytesWorld_below (w2.alloc (.cells #[.int .u8 (v.s.size : Int)] 5)) 5 v.s).mono hbb.size)
  have hb3 := hbc.grown hg3 hbc.size (fun k hk => by cases hk; exact hbw2.size)
  go_wp2
  go_ret
  exact ⟨_, rfl, ho3, hb3⟩
theorem refLay_any (f : Fd) (v : Va) (h : f.Has v) (w : World) : Calls Try.prog 33 #[.agg #[.int .i64 f.id, .int .i64 f.kind, .int .i64 f.lo, .int .i64 f.hi, .int .i64 f.most], .agg #[.int .i64 v.n, .string v.s]] w fun e w' => ∃ u, e = .returned u ∧ w'.ownsRow w.heap.size 5 1 u (f.layB v).length (u8v (f.layB v)) ∧ Below w.heap.size w w' := by
  by_cases h4 : f.kind = 4
  · exact refLayText_any f v h h4 w
  · exact refLayNum_any f v h h4 w
end Go.Proofs.Ytegeeobfamjjpaa.field
/- Contract of the reference of layer 14 (record): Lay. No condition. -/
namespace Go.Proofs.Ytegeeobfamjjpaa.record
open Go.RowKit
open Go.Proofs.Ytegeeobfamjjpaa.field (Va Gives newB gives_from WV refLay_any LaysAs u8v u8v_length u8_info)
open Go.Proofs.Ytegeeobfamjjpaa.schema (below_out field_at Fine boxM own_cap)
set_option linter.unusedVariables false

set_option maxHeartbeats 800000 in
theorem refLayR_any (i : Int) (a : Option Addr) (c : Nat) (L : List field.Fd) (j : Int) (b : Option Addr) (d : Nat) (V : List Va) (w : World) (h : field.Fds w a L) (h' : field.Vas w b V) (hH : HasL L V) (hL : L.length ≤ 8) :
    Calls Try.prog 18 #[.agg #[.int .i64 i, .slice a L.length c], .agg #[.int .i64 j, .slice b V.length d]] w fun e w' => ∃ z, e = .returned z ∧ w'.ownsRow w.heap.size 5 1 z (layL L V).length (u8v (layL L V)) ∧ Below w.heap.size w w' := by
  have HX := hid (WF.all i a L c j b V d w)
  have hw := (WF.all i a L c j b V d w _ (Below.refl _ _)).2.2.2.2
  have HF := hid (h.below hw)
  have HG := hid (h'.below hw)
  have HLEN := hid hH.length
  have HH := hid hH
  have HBD := hid (fun k => lay_bound L V k hL)
  obtain ⟨w1, hw1⟩ : ∃ x, Hid (WF i a L c j b V d w = x) := ⟨_, hid rfl⟩
  rw [hw1.out] at HX HF HG
  obtain ⟨z0, z1, z2, z3, hbo⟩ := HX.out w1 (Below.refl _ _)
  have HBO := hid hbo
  obtain ⟨i0, hi, hz0, hz1, hz2⟩ := info_parts u8_info
  unfold WF at hw1
  clear h h' hw hH hbo
  go_enter Try.func18, Try.ntmps18
  go_wp2
  rw [hw1.out]
  clear z0 z1 z2 z3
  go_loopw [5, 6] (fun v n wr => ∃ k : Nat, k ≤ L.length ∧ n = .int .i64 (k : Int) ∧ Hid (wr.ownsRow w1.heap.size 5 1 v (layL (L.take k) (V.take k)).length (u8v (layL (L.take k) (V.take k)))) ∧ Hid (Below w1.heap.size w1 wr)) (fun _ n _ => L.length - (intOf n).toNat)
  case atStart => exact ⟨0, Nat.zero_le _, rfl, hid (by rw [layL_zero]; exact World.ownsRow_nil _ _ _ _), hid (Below.refl _ _)⟩
  case round =>
    obtain ⟨k, hk, rfl, HO, HB⟩ := hrel
    obtain ⟨z0, z1, z2, z3, hbo⟩ := HX.out _ HB.out
    obtain ⟨ua, uc, rfl, _⟩ := ownsRow_slice HO.out
    have hVL : (V.length : Int) = L.length := by rw [HLEN.out]
    by_cases hlt : k < L.length
    · obtain ⟨g, off, p, rfl, hbl, hp, c0, c1, c2, c3, c4⟩ := field_at HF.out HB.out hlt
      obtain ⟨g', off', q, rfl, hbl', hq, d0, d1⟩ := val_at HG.out HB.out (k := k) (by rw [← HLEN.out]; exact hlt)
      have i1 : (k : Int) < V.length := by omega
      have i2 : (k : Int) < L.length := by omega
      have HLT := hid (layL_take hp hq)
      have cS := fun W => refLay_any p q (HH.out.at hp hq) W
      have hb33 : (p.layB q).length ≤ 33 := Nat.le_trans (layB_le p q) p.size_le
      have hbk := HBD.out k
      clear hp hq hbo
      generalize layL (L.take k) (V.take k) = X at *
      generalize p.layB q = Y at *
      go_wp2
      refine tail.regionFrom 1 11 (by kernel_rfl) (by kernel_rfl) ?_
      simp only [List.take_succ_cons, List.take_zero, List.drop_succ_cons, List.drop_zero]
      repeat (go_big_quiet_step (fail))
      refine wpQuiet_nil ?_
      rintro _ ⟨nq, rfl⟩
      go_wp2_with (first
        | (go_at_call 33; ((with_reducible refine (cS _).mono ?_); rintro e w2 ⟨z, rfl, ho2, hb2⟩; obtain ⟨za, zc, rfl, _⟩ := ownsRow_slice ho2; have HN := hid (own_news ho2); have HUL := hid (u8v_length Y); have HB2 := hid ((below_drewN (Below.refl wr.heap.size wr) nq).trans (hb2.mono (by simp))); have HO2 := hid (ownsRow_later HO.out HB2.out)))
        | (at_builtin; refine wpList_append_from rfl _ _ 34 rfl w1.heap.size 5 i0 (.int .u8 0) 1 Try.underlying34 hi hz0 hz1 hz2 rfl _ X.length (u8v X) rfl HO2.out za Y.length zc (u8v Y) rfl HUL.out HN.out (u8v_one Y) (by unfold maxLen; omega) (by omega) (by have := HB.out.size; have := HB2.out.size; omega) ?_; intro z w3 ho3 hg3; have HO3 := hid ho3; have HB3 := hid ((HB.out.trans (HB2.out.mono HB.out.size)).grown hg3 (by have := HB.out.size; have := HB2.out.size; omega) (fun k hk => (World.ownsRow.lt HO2.out k hk).1)); clear ho3 hg3))
      refine NoPanic.normal ?_
      go_wp2
      exact ⟨⟨k + 1, by omega, by go_num, hid (by rw [HLT.out, List.length_append, u8v_append]; exact HO3.out), HB3⟩, by simp [intOf]; omega⟩
    · obtain rfl : k = L.length := by omega
      go_wp2
      go_ret
      have he : layL (L.take L.length) (V.take L.length) = layL L V := by rw [List.take_of_length_le (Nat.le_refl _), List.take_of_length_le (by rw [HLEN.out]; exact Nat.le_refl _)]
      have ho : wr.ownsRow w1.heap.size 5 1 (.slice ua (layL (L.take L.length) (V.take L.length)).length uc) (layL L V).length (u8v (layL L V)) := by have := HO.out; rw [he] at this ⊢; exact this
      exact ⟨_, rfl, schema.own_low ho (by have := HBO.out.size; omega), HBO.out.trans (HB.out.mono HBO.out.size)⟩
end Go.Proofs.Ytegeeobfamjjpaa.record
/- RecordBytes returns true. No condition. -/
namespace Go.Proofs.Ytegeeobfamjjpaa.recordBytes
open Go.RowKit Go.Proofs.Ytegeeobfamjjpaa.record
open Go.Proofs.Ytegeeobfamjjpaa.field (Va Gives newB gives_from u8v)
open Go.Proofs.Ytegeeobfamjjpaa.schema (Fine refFine_any exec_load_at info_fm)
set_option linter.unusedVariables false

theorem eqs_str (s : ByteArray) (w : World) : (binOp .eql 9 (.string s) (.string s)).run Try.prog w = .ok (.bool true) w := by simp [go_sem]
theorem eqg_str (x y : Operand) (s t : ByteArray) (w : World) : (eqGuard .eql 9 x y (.string s) (.string t)).run Try.prog w = .ok () w := by simp [go_sem]
set_option maxRecDepth 20000 in
set_option maxHeartbeats 3200000 in
theorem walk0 (i : Int) (a : Option Addr) (c : Nat) (L : List field.Fd) (j : Int) (b : Option Addr) (d : Nat) (V : List Va) (ab : Option Addr) (lenb capb : Nat) (xs : List Nat) (w : World)
    (hl : field.Fds w a L) (hL : L.length ≤ maxLen) (hv : field.Vas w b V) (hV : V.length ≤ maxLen) (hrd : Reads .u8 w ab lenb xs) (hxs : ∀ x ∈ xs, x < 256) (hcb : lenb ≤ capb) (hmb : capb ≤ 9223372036854775807) :
    Calls Try.prog 4 #[.agg #[.int .i64 i, .slice a L.length c], .agg #[.int .i64 j, .slice b V.length d], .slice ab lenb capb] w (Yes w) := by
  have hw := (WF.all i a L c j b V d w _ (Below.refl _ _)).2.2.2.2
  have hRF := (Block.new w 24 [.int .i64 i, .slice a L.length c]).alloc (.cells #[.int .i64 j, .slice b V.length d] 27)
  have hRR := Block.new (w.alloc (.cells #[.int .i64 i, .slice a L.length c] 24)) 27 [.int .i64 j, .slice b V.length d]
  rw [show ((w.alloc (.cells #[.int .i64 i, .slice a L.length c] 24))).heap.size = w.heap.size + 1 by simp] at hRR
  have hl0 := hl.below hw
  have hv0 := hv.below hw
  have hrd0 := hrd.below hw
  have cA : ∀ w', Calls Try.prog 7 #[] w' (Gives (.bool true) w') := fun w' => awake_any w'
  unfold WF at hl0 hv0 hrd0 hw
  obtain ⟨W0, hW0⟩ : ∃ x, (w.alloc (.cells #[.int .i64 i, .slice a L.length c] 24)).alloc (.cells #[.int .i64 j, .slice b V.length d] 27) = x := ⟨_, rfl⟩
  have HW0 := hid hW0
  rw [hW0] at hl0 hv0 hrd0 hw
  have HL := hid hl0
  have HV := hid hv0
  have HRD := hid hrd0
  have HXS := hid hxs
  have HRF : Hid (Block W0 w.heap.size 24 [.int .i64 i, .slice a L.length c]) := hid (by rw [← hW0]; exact hRF)
  have HRR : Hid (Block W0 (w.heap.size + 1) 27 [.int .i64 j, .slice b V.length d]) := hid (by rw [← hW0]; exact hRR)
  have HB0 := hid hw
  obtain ⟨g, hg⟩ : ∃ g, Hid (decide (40 < L.length ∨ 40 < V.length) = g) := ⟨_, hid rfl⟩
  have cG0 := great_any i a c L j b d V W0 g hg.out
  have cFn := fun w' (hb : Below W0.heap.size W0 w') => refFine_any i a c L w' (HL.out.below hb) hL
  have cLay := fun w' (hb : Below W0.heap.size W0 w') => layR_any i a c L j b d V w' (HL.out.below hb) (HV.out.below hb) hL hV
  have cTake := fun w' (hb : Below W0.heap.size W0 w') => takeR_any i a c L ab lenb capb xs w' (HL.out.below hb) hL (HRD.out.below hb) HXS.out hcb hmb
  clear hl hv hl0 hv0 hRF hRR hw hW0 hrd hrd0 hxs
  rw [← HW0.out] at cG0
  unfold Gives at cA cG0 cFn
  unfold LaysR at cLay
  unfold TakesR at cTake
  by_cases hgt : g = true
  · subst hgt
    clear cFn cLay cTake
    go_enter Try.func4, Try.ntmps4
    go_wp2_with (first
      | (go_at_call 6; ((with_reducible refine cG0.mono ?_); clear cG0; rintro e w1 ⟨rfl, hb01⟩; rw [HW0.out] at hb01; have fb1 := HRF.out.later hb01; have rb1 := HRR.out.later hb01; have x0 := fb1.cell 0; have x1 := fb1.cell 1; have v0 := rb1.cell 0; have v1 := rb1.cell 1))
      | (go_at_call 7; ((with_reducible refine (cA _).mono ?_); rintro e w9 ⟨rfl, hb9⟩)))
    go_ret
    exact ⟨rfl, HB0.out.trans ((hb01.trans (hb9.mono hb01.size)).mono HB0.out.size)⟩
  rw [Bool.not_eq_true] at hgt
  subst hgt
  by_cases hf : Fine (i, L)
  · simp only [decide_eq_true hf] at cFn
    have hL8 := fine_len hf
    have cRT := fun w' (hb : Below W0.heap.size W0 w') => refTakeR_any i a c L ab lenb capb xs w' (HL.out.below hb) (fine_right hf) hL8 (HRD.out.below hb) HXS.out hcb hmb
    have cRH := fun w' (hb : Below W0.heap.size W0 w') => refHas_any' i a c L j b d V w' (HL.out.below hb) (HV.out.below hb) hL hV
    unfold Gives at cRH
    rw [show takeR i L xs = fin i (takeL L xs) from if_neg (fun k => k hf)] at cTake
    unfold TakesR at cRT
    have hVL : (fin i (takeL L xs)).2.1.length ≤ maxLen := by
      have h1 := takeL_len L xs
      unfold fin
      unfold maxLen
      split
      · simp
      · split
        · simp
        · simp only; omega
    obtain ⟨⟨TF, TV, TE⟩, hT⟩ : ∃ T, Hid (fin i (takeL L xs) = T) := ⟨_, hid rfl⟩
    rw [hT.out] at cTake cRT hVL
    simp only at cTake cRT hVL
    have cRS := fun x3 c3 x5 c5 w' (h3 : field.Vas w' x3 TV) (h5 : field.Vas w' x5 TV) => refSame_any TF x3 c3 TV TF x5 c5 TV w' h3 h5 hVL hVL
    simp only at cRS
    unfold Gives at cRS
    by_cases hh : j = i ∧ HasL L V
    · rw [show layB i L j V = layL L V from if_pos ⟨hf, hh⟩, show layE i L j V = 0 from (if_neg (fun k => k hf)).trans (if_neg (fun k => k hh))] at cLay
      simp only [decide_eq_true (show Has i L j V from ⟨hf, hh⟩)] at cRH
      have cRL := fun w' (hb : Below W0.heap.size W0 w') => refLayR_any i a c L j b d V w' (HL.out.below hb) (HV.out.below hb) hh.2 hL8
      have HLT := hid (layL_lt L V)
      clear hh hf hL8 hT hmb hcb
      generalize layL L V = Y at *
      go_enter Try.func4, Try.ntmps4
      go_wp2_with (first
        | (go_at_call 6; ((with_reducible refine cG0.mono ?_); clear cG0; rintro e w1 ⟨rfl, hb01⟩; rw [HW0.out] at hb01; have fb1 := HRF.out.later hb01; have rb1 := HRR.out.later hb01; have x0 := fb1.cell 0; have x1 := fb1.cell 1; have v0 := rb1.cell 0; have v1 := rb1.cell 1))
        | (go_at_call 15; ((with_reducible refine (cLay _ hb01).mono ?_); rintro e w2 ⟨z2, rfl, ho2, hb2⟩; have hb02 := hb01.trans (hb2.mono hb01.size); have fb2 := HRF.out.later hb02; have rb2 := HRR.out.later hb02; have x0 := fb2.cell 0; have x1 := fb2.cell 1; have v0 := rb2.cell 0; have v1 := rb2.cell 1; obtain ⟨ua, uc, rfl, _⟩ := ownsRow_slice ho2; have HO2 := hid ho2))
        | (go_at_call 16; ((with_reducible refine (cTake _ hb02).mono ?_); rintro e w3 ⟨x3, c3, rfl, hv3, hb3⟩; have hb03 := hb02.trans (hb3.mono hb02.size); have fb3 := HRF.out.later hb03; have rb3 := HRR.out.later hb03; have x0 := fb3.cell 0; have x1 := fb3.cell 1; have v0 := rb3.cell 0; have v1 := rb3.cell 1; have hz3 : w.heap.size < w3.heap.size := fb3.lt; have HV3 := hid hv3; have hbA := hb03.trans ((newB w3 (.cells #[.int .i64 TF, .slice x3 TV.length c3] 27)).mono hb03.size); have HY3 := hid (Block.new w3 27 [.int .i64 TF, .slice x3 TV.length c3]); have HB23 := hid (hb3.trans ((newB w3 (.cells #[.int .i64 TF, .slice x3 TV.length c3] 27)).mono hb3.size))))
        | (go_at_call 8; ((with_reducible refine (cFn _ hbA).mono ?_); rintro e w4 ⟨rfl, hb4⟩; have hb04 := hbA.trans (hb4.mono hbA.size); have fb4 := HRF.out.later hb04; have rb4 := HRR.out.later hb04; have x0 := fb4.cell 0; have x1 := fb4.cell 1; have v0 := rb4.cell 0; have v1 := rb4.cell 1; have HY4 := hid (HY3.out.later hb4); have HB24 := hid (HB23.out.trans (hb4.mono HB23.out.size)); have y0 := HY4.out.cell 0; have y1 := HY4.out.cell 1; have HV4 := hid (HV3.out.below ((newB w3 _).trans (hb4.mono (newB w3 _).size)))))
        | (go_at_call 17; ((with_reducible refine (cRT _ hb04).mono ?_); rintro e w5 ⟨x5, c5, rfl, hv5, hb5⟩; have hb05 := hb04.trans (hb5.mono hb04.size); have fb5 := HRF.out.later hb05; have rb5 := HRR.out.later hb05; have x0 := fb5.cell 0; have x1 := fb5.cell 1; have v0 := rb5.cell 0; have v1 := rb5.cell 1; have HY5 := hid (HY4.out.later hb5); have y0 := HY5.out.cell 0; have y1 := HY5.out.cell 1; have hz5 : w3.heap.size < w5.heap.size := HY5.out.lt; have hbB := hb05.trans ((newB w5 (.cells #[.int .i64 TF, .slice x5 TV.length c5] 27)).mono hb05.size); have HN5 := hid (newB w5 (.cells #[.int .i64 TF, .slice x5 TV.length c5] 27)); have hvA := (HV4.out.below hb5).below HN5.out; have hvB := hv5.below HN5.out; have HB25 := hid (HB24.out.trans ((hb5.trans (HN5.out.mono hb5.size)).mono HB24.out.size)); have hz5w : w.heap.size < w5.heap.size := fb5.lt; have hz5r : w.heap.size + 1 < w5.heap.size := rb5.lt))
        | (go_at_call 12; ((with_reducible refine (cRS x3 c3 x5 c5 _ hvA hvB).mono ?_); rintro e w6 ⟨rfl, hb6⟩; have hb06 := hbB.trans (hb6.mono hbB.size); have fb6 := HRF.out.later hb06; have rb6 := HRR.out.later hb06; have x0 := fb6.cell 0; have x1 := fb6.cell 1; have v0 := rb6.cell 0; have v1 := rb6.cell 1; have HB26 := hid (HB25.out.trans (hb6.mono HB25.out.size))))
        | (go_at_call 11; ((with_reducible refine (cRH _ hb06).mono ?_); rintro e w7 ⟨rfl, hb7⟩; have hb07 := hb06.trans (hb7.mono hb06.size); have fb7 := HRF.out.later hb07; have rb7 := HRR.out.later hb07; have x0 := fb7.cell 0; have x1 := fb7.cell 1; have v0 := rb7.cell 0; have v1 := rb7.cell 1; have HB27 := hid (HB26.out.trans (hb7.mono HB26.out.size)))))
      have HO7 := hid ((Reads.own (xs := Y) HO2.out).below (HB27.out.trans (below_drewN (Below.refl _ _) 1 |>.mono HB27.out.size)))
      have HZ := hid (fun w' (hb' : Below w7.heap.size w7 w') => (⟨((HRF.out.later hb07).later hb').whole, ((HRR.out.later hb07).later hb').whole⟩ : w'.rangeAt w.heap.size 0 [.int .i64 i, .slice a L.length c] ∧ w'.rangeAt (w.heap.size + 1) 0 [.int .i64 j, .slice b V.length d]))
      have HB07 := hid hb07
      have hb : Below w7.heap.size w7 w7.drew := below_drewN (Below.refl _ _) 1
      have cRL7 := fun w' (hb : Below w7.heap.size w7 w') => cRL w' (HB07.out.trans (hb.mono HB07.out.size))
      have hrx := HO7.out
      refine plan.region (by kernel_rfl) ?_
      refine plan.Rest.first 0 _ (.slice ua Y.length uc) rfl (by kernel_rfl) (by kernel_rfl) (by kernel_rfl) (by kernel_rfl) (fun w' hb' => (by kernel_rfl)) ?_
      refine plan.Rest.first 1 _ (.string (strOf Y)) rfl (by kernel_rfl) (by kernel_rfl) (by kernel_rfl) (by kernel_rfl) (fun w' hb' => plan.exec_convert (v := .slice ua Y.length uc) rfl (by kernel_rfl) ((hrx.below hb').str (P := Try.prog) 34 5 Try.underlying34 Try.underlying5 uc 9 Try.underlying9)) ?_
      refine plan.Rest.first 2 _ (.agg #[.int .i64 i, .slice a L.length c]) rfl (by kernel_rfl) (by kernel_rfl) (by kernel_rfl) (by kernel_rfl) (fun w' hb' => exec_load_at (b := w.heap.size) (off := 0) rfl (by kernel_rfl) (HZ.out _ (hb.trans (hb'.mono hb.size))).1 Try.underlying24 rfl info_fm.out) ?_
      refine plan.Rest.first 3 _ (.agg #[.int .i64 j, .slice b V.length d]) rfl (by kernel_rfl) (by kernel_rfl) (by kernel_rfl) (by kernel_rfl) (fun w' hb' => exec_load_at (b := w.heap.size + 1) (off := 0) rfl (by kernel_rfl) (HZ.out _ (hb.trans (hb'.mono hb.size))).2 Try.underlying27 rfl info_rc.out) ?_
      refine plan.Rest.call 4 _ 18 #[.agg #[.int .i64 i, .slice a L.length c], .agg #[.int .i64 j, .slice b V.length d]] rfl (by kernel_rfl) (by kernel_rfl) (by kernel_rfl) ((cRL7 w7.drew hb).mono ?_)
      rintro e W1 ⟨u8, rfl, ho8, hn⟩
      obtain ⟨a8, c8, rfl, _⟩ := ownsRow_slice ho8
      have hr3 := Reads.own (xs := Y) ho8
      have hb := hb.trans (hn.mono hb.size)
      refine ⟨_, rfl, hn, ?_⟩
      refine plan.Rest.first 5 _ (.string (strOf Y)) rfl (by kernel_rfl) (by kernel_rfl) (by kernel_rfl) (by kernel_rfl) (fun w' hb' => plan.exec_convert (v := .slice a8 Y.length c8) rfl (by kernel_rfl) ((hr3.below hb').str (P := Try.prog) 34 5 Try.underlying34 Try.underlying5 c8 9 Try.underlying9)) ?_
      refine plan.Rest.first 6 _ (.bool true) rfl (by kernel_rfl) (by kernel_rfl) (by kernel_rfl) (by kernel_rfl) (fun w' hb' => (plan.exec_eql (vx := .string (strOf Y)) (vy := .string (strOf Y)) rfl (by kernel_rfl) (by kernel_rfl) (eqg_str _ _ _ _ _) (eqs_str _ _))) ?_
      refine plan.Rest.first 7 _ (.bool true) rfl (by kernel_rfl) (by kernel_rfl) (by kernel_rfl) (by kernel_rfl) (fun w' hb' => (by kernel_rfl)) ?_
      refine plan.Rest.first 8 _ (.int .i64 0) rfl (by kernel_rfl) (by kernel_rfl) (by kernel_rfl) (by kernel_rfl) (fun w' hb' => (by kernel_rfl)) ?_
      refine plan.Rest.first 9 _ (.bool true) rfl (by kernel_rfl) (by kernel_rfl) (by kernel_rfl) (by kernel_rfl) (fun w' hb' => (by kernel_rfl)) ?_
      refine plan.Rest.first 10 _ (.bool true) rfl (by kernel_rfl) (by kernel_rfl) (by kernel_rfl) (by kernel_rfl) (fun w' hb' => (by kernel_rfl)) ?_
      refine plan.Rest.first 11 _ (.bool true) rfl (by kernel_rfl) (by kernel_rfl) (by kernel_rfl) (by kernel_rfl) (fun w' hb' => (by kernel_rfl)) ?_
      refine plan.Rest.call 12 _ 7 #[] rfl (by kernel_rfl) (by kernel_rfl) (by kernel_rfl) ((cA W1).mono ?_)
      rintro e W2 ⟨rfl, hn⟩
      have hb := hb.trans (hn.mono hb.size)
      refine ⟨_, rfl, hn, ?_⟩
      refine plan.Rest.first 13 _ (.bool true) rfl (by kernel_rfl) (by kernel_rfl) (by kernel_rfl) (by kernel_rfl) (fun w' hb' => (by kernel_rfl)) ?_
      refine plan.Rest.value 14 _ (.bool true) rfl (by kernel_rfl) (by kernel_rfl) (by kernel_rfl) ?_
      refine plan.Rest.done (by kernel_rfl) ?_
      walk_nrm
      go_wp2
      go_ret
      exact ⟨rfl, HB0.out.trans ((HB07.out.trans (hb.mono HB07.out.size)).mono HB0.out.size)⟩
    · rw [show layB i L j V = [] from if_neg (fun k => hh k.2), show layE i L j V = 16 from (if_neg (fun k => k hf)).trans (if_pos hh)] at cLay
      simp only [decide_eq_false (show ¬ Has i L j V from fun k => hh k.2)] at cRH
      simp only [List.length_nil] at cLay
      clear hh hf hL8 hT hmb hcb
      go_enter Try.func4, Try.ntmps4
      go_wp2_with (first
        | (go_at_call 6; ((with_reducible refine cG0.mono ?_); clear cG0; rintro e w1 ⟨rfl, hb01⟩; rw [HW0.out] at hb01; have fb1 := HRF.out.later hb01; have rb1 := HRR.out.later hb01; have x0 := fb1.cell 0; have x1 := fb1.cell 1; have v0 := rb1.cell 0; have v1 := rb1.cell 1))
        | (go_at_call 15; ((with_reducible refine (cLay _ hb01).mono ?_); rintro e w2 ⟨z2, rfl, ho2, hb2⟩; have hb02 := hb01.trans (hb2.mono hb01.size); have fb2 := HRF.out.later hb02; have rb2 := HRR.out.later hb02; have x0 := fb2.cell 0; have x1 := fb2.cell 1; have v0 := rb2.cell 0; have v1 := rb2.cell 1; obtain ⟨ua, uc, rfl, _⟩ := ownsRow_slice ho2; have HO2 := hid ho2))
        | (go_at_call 16; ((with_reducible refine (cTake _ hb02).mono ?_); rintro e w3 ⟨x3, c3, rfl, hv3, hb3⟩; have hb03 := hb02.trans (hb3.mono hb02.size); have fb3 := HRF.out.later hb03; have rb3 := HRR.out.later hb03; have x0 := fb3.cell 0; have x1 := fb3.cell 1; have v0 := rb3.cell 0; have v1 := rb3.cell 1; have hz3 : w.heap.size < w3.heap.size := fb3.lt; have HV3 := hid hv3; have hbA := hb03.trans ((newB w3 (.cells #[.int .i64 TF, .slice x3 TV.length c3] 27)).mono hb03.size); have HY3 := hid (Block.new w3 27 [.int .i64 TF, .slice x3 TV.length c3]); have HB23 := hid (hb3.trans ((newB w3 (.cells #[.int .i64 TF, .slice x3 TV.length c3] 27)).mono hb3.size))))
        | (go_at_call 8; ((with_reducible refine (cFn _ hbA).mono ?_); rintro e w4 ⟨rfl, hb4⟩; have hb04 := hbA.trans (hb4.mono hbA.size); have fb4 := HRF.out.later hb04; have rb4 := HRR.out.later hb04; have x0 := fb4.cell 0; have x1 := fb4.cell 1; have v0 := rb4.cell 0; have v1 := rb4.cell 1; have HY4 := hid (HY3.out.later hb4); have HB24 := hid (HB23.out.trans (hb4.mono HB23.out.size)); have y0 := HY4.out.cell 0; have y1 := HY4.out.cell 1; have HV4 := hid (HV3.out.below ((newB w3 _).trans (hb4.mono (newB w3 _).size)))))
        | (go_at_call 17; ((with_reducible refine (cRT _ hb04).mono ?_); rintro e w5 ⟨x5, c5, rfl, hv5, hb5⟩; have hb05 := hb04.trans (hb5.mono hb04.size); have fb5 := HRF.out.later hb05; have rb5 := HRR.out.later hb05; have x0 := fb5.cell 0; have x1 := fb5.cell 1; have v0 := rb5.cell 0; have v1 := rb5.cell 1; have HY5 := hid (HY4.out.later hb5); have y0 := HY5.out.cell 0; have y1 := HY5.out.cell 1; have hz5 : w3.heap.size < w5.heap.size := HY5.out.lt; have hbB := hb05.trans ((newB w5 (.cells #[.int .i64 TF, .slice x5 TV.length c5] 27)).mono hb05.size); have HN5 := hid (newB w5 (.cells #[.int .i64 TF, .slice x5 TV.length c5] 27)); have hvA := (HV4.out.below hb5).below HN5.out; have hvB := hv5.below HN5.out; have HB25 := hid (HB24.out.trans ((hb5.trans (HN5.out.mono hb5.size)).mono HB24.out.size)); have hz5w : w.heap.size < w5.heap.size := fb5.lt; have hz5r : w.heap.size + 1 < w5.heap.size := rb5.lt))
        | (go_at_call 12; ((with_reducible refine (cRS x3 c3 x5 c5 _ hvA hvB).mono ?_); rintro e w6 ⟨rfl, hb6⟩; have hb06 := hbB.trans (hb6.mono hbB.size); have fb6 := HRF.out.later hb06; have rb6 := HRR.out.later hb06; have x0 := fb6.cell 0; have x1 := fb6.cell 1; have v0 := rb6.cell 0; have v1 := rb6.cell 1; have HB26 := hid (HB25.out.trans (hb6.mono HB25.out.size))))
        | (go_at_call 11; ((with_reducible refine (cRH _ hb06).mono ?_); rintro e w7 ⟨rfl, hb7⟩; have hb07 := hb06.trans (hb7.mono hb06.size); have fb7 := HRF.out.later hb07; have rb7 := HRR.out.later hb07; have x0 := fb7.cell 0; have x1 := fb7.cell 1; have v0 := rb7.cell 0; have v1 := rb7.cell 1; have HB27 := hid (HB26.out.trans (hb7.mono HB26.out.size))))
        | (go_at_call 7; ((with_reducible refine (cA _).mono ?_); rintro e w9 ⟨rfl, hb9⟩)))
      go_ret
      exact ⟨rfl, HB0.out.trans ((hb07.trans (hb9.mono hb07.size)).mono HB0.out.size)⟩
  · simp only [decide_eq_false hf] at cFn
    rw [show layB i L j V = [] from if_neg (fun k => hf k.1), show layE i L j V = 2 from if_pos hf] at cLay
    rw [show takeR i L xs = (0, [], 2) from if_pos hf] at cTake
    simp only [List.length_nil] at cLay cTake
    have cRS := fun x3 c3 w' (h3 : field.Vas w' x3 ([] : List Va)) => refSame_any 0 x3 c3 [] 0 none 0 [] w' h3 (.inl rfl) (by simp) (by simp)
    simp only [List.length_nil] at cRS
    unfold Gives at cRS
    clear hf hmb hcb
    go_enter Try.func4, Try.ntmps4
    go_wp2_with (first
      | (go_at_call 6; ((with_reducible refine cG0.mono ?_); clear cG0; rintro e w1 ⟨rfl, hb01⟩; rw [HW0.out] at hb01; have fb1 := HRF.out.later hb01; have rb1 := HRR.out.later hb01; have x0 := fb1.cell 0; have x1 := fb1.cell 1; have v0 := rb1.cell 0; have v1 := rb1.cell 1))
      | (go_at_call 15; ((with_reducible refine (cLay _ hb01).mono ?_); rintro e w2 ⟨z2, rfl, ho2, hb2⟩; have hb02 := hb01.trans (hb2.mono hb01.size); have fb2 := HRF.out.later hb02; have rb2 := HRR.out.later hb02; have x0 := fb2.cell 0; have x1 := fb2.cell 1; have v0 := rb2.cell 0; have v1 := rb2.cell 1; obtain ⟨ua, uc, rfl, _⟩ := ownsRow_slice ho2; have HO2 := hid ho2))
      | (go_at_call 16; ((with_reducible refine (cTake _ hb02).mono ?_); rintro e w3 ⟨x3, c3, rfl, hv3, hb3⟩; have hb03 := hb02.trans (hb3.mono hb02.size); have fb3 := HRF.out.later hb03; have rb3 := HRR.out.later hb03; have x0 := fb3.cell 0; have x1 := fb3.cell 1; have v0 := rb3.cell 0; have v1 := rb3.cell 1; have hz3 : w.heap.size < w3.heap.size := fb3.lt; have HV3 := hid hv3; have hbA := hb03.trans ((newB w3 (.cells #[.int .i64 0, .slice x3 0 c3] 27)).mono hb03.size); have HY3 := hid (Block.new w3 27 [.int .i64 0, .slice x3 0 c3]); have HB23 := hid (hb3.trans ((newB w3 (.cells #[.int .i64 0, .slice x3 0 c3] 27)).mono hb3.size))))
      | (go_at_call 8; ((with_reducible refine (cFn _ hbA).mono ?_); rintro e w4 ⟨rfl, hb4⟩; have hb04 := hbA.trans (hb4.mono hbA.size); have fb4 := HRF.out.later hb04; have rb4 := HRR.out.later hb04; have x0 := fb4.cell 0; have x1 := fb4.cell 1; have v0 := rb4.cell 0; have v1 := rb4.cell 1; have HY4 := hid (HY3.out.later hb4); have HB24 := hid (HB23.out.trans (hb4.mono HB23.out.size)); have y0 := HY4.out.cell 0; have y1 := HY4.out.cell 1; have HV4 := hid (HV3.out.below ((newB w3 _).trans (hb4.mono (newB w3 _).size)))))
      | (go_at_call 12; ((with_reducible refine (cRS x3 c3 _ HV4.out).mono ?_); rintro e w6 ⟨rfl, hb6⟩; have hb06 := hb04.trans (hb6.mono hb04.size); have fb6 := HRF.out.later hb06; have rb6 := HRR.out.later hb06; have x0 := fb6.cell 0; have x1 := fb6.cell 1; have v0 := rb6.cell 0; have v1 := rb6.cell 1))
      | (go_at_call 7; ((with_reducible refine (cA _).mono ?_); rintro e w9 ⟨rfl, hb9⟩)))
    go_ret
    exact ⟨rfl, HB0.out.trans ((hb06.trans (hb9.mono hb06.size)).mono HB0.out.size)⟩
theorem walk (f : schema.Fm) (r : Rc) (ab : Option Addr) (lenb capb : Nat) (xs : List Nat) (w : World) (hf : f.Good w) (hr : r.Good w) (hrd : Reads .u8 w ab lenb xs) (hx : ∀ x ∈ xs, x < 256) (hc : lenb ≤ capb) (hm : capb * 1 ≤ 140737488351232) :
    Calls Try.prog 4 #[f.val, r.val, .slice ab lenb capb] w (Yes w) :=
  walk0 f.id f.f f.fCap f.fL r.form r.v r.vCap r.vL ab lenb capb xs w hf.rf (Nat.le_trans hf.cf hf.df) hr.rv (Nat.le_trans hr.cv hr.dv) hrd hx hc (by omega)
end Go.Proofs.Ytegeeobfamjjpaa.recordBytes
