/- Contracts of Join and of the reference's Join. No condition beyond the lengths. -/
import Derived.Test.YtdlebjogbhgheaaDoorTextsSame
namespace Go.Proofs.YtdlebjogbhgheaaDoor.texts
open Go.RowKit Go.Lib Go.Shelf
set_option linter.unusedVariables false

/-- the text of rows; none, where one of them is no line's -/
def joinOut (wss : List (List (List UInt8))) : List UInt8 := if wss.any badRow then [] else joinText wss
def joinErr (wss : List (List (List UInt8))) : Int := if wss.any badRow then 4 else 0
theorem join_bad {wss : List (List (List UInt8))} {k : Nat} (hk : k < wss.length) (h : badRow (wss.getD k []) = true) : joinOut wss = [] ∧ joinErr wss = 4 := by
  have ha : wss.any badRow = true := by
    rw [List.any_eq_true]
    refine ⟨wss[k], List.getElem_mem hk, ?_⟩
    rwa [List.getD_eq_getElem?_getD, List.getElem?_eq_getElem hk] at h
  unfold joinOut joinErr
  rw [if_pos ha, if_pos ha]; exact ⟨rfl, rfl⟩
theorem join_good {wss : List (List (List UInt8))} (h : ∀ j, j < wss.length → badRow (wss.getD j []) = false) : joinOut wss = joinText wss ∧ joinErr wss = 0 := by
  have ha : wss.any badRow = false := by
    rw [List.any_eq_false]
    intro x hx
    obtain ⟨j, hj, rfl⟩ := List.getElem_of_mem hx
    have := h j hj
    rw [List.getD_eq_getElem?_getD, List.getElem?_eq_getElem hj] at this
    simpa using this
  unfold joinOut joinErr
  rw [if_neg (by rw [ha]; simp), if_neg (by rw [ha]; simp)]; exact ⟨rfl, rfl⟩
theorem join_room {wss : List (List (List UInt8))} {k j : Nat} (hk : k < wss.length) (hj : j ≤ (wss.getD k []).length) : (joinTo wss k ++ wordsTo (wss.getD k []) j).length + 1 ≤ (joinText wss).length := by
  have h1 := joinTo_mono wss (a := k + 1) (b := wss.length) (by omega)
  have h2 := wordsTo_mono (wss.getD k []) hj
  rw [joinTo] at h1
  unfold rowText at h1
  unfold joinText
  simp only [List.length_append, List.length_cons, List.length_nil] at *
  omega
theorem bad_empty : badRow [] = true := rfl
theorem bad_word {ws : List (List UInt8)} {j : Nat} (hj : j < ws.length) (h : noWord (ws.getD j []) = true) : badRow ws = true := by
  unfold badRow
  rw [Bool.or_eq_true]
  exact .inr (any_of_mem (List.getElem_mem hj) (by rwa [List.getD_eq_getElem?_getD, List.getElem?_eq_getElem hj] at h))
theorem any_words_next {ws : List (List UInt8)} {j : Nat} (hj : j < ws.length) (h : (ws.take j).any noWord = false) (h2 : noWord (ws.getD j []) = false) : (ws.take (j + 1)).any noWord = false := by
  rw [List.take_add_one, List.any_append, h, List.getElem?_eq_getElem hj]
  rw [List.getD_eq_getElem?_getD, List.getElem?_eq_getElem hj] at h2
  simpa using h2

set_option maxRecDepth 20000 in
set_option maxHeartbeats 1000000 in
theorem refJoin_any (wss : List (List (List UInt8))) (a : Option Addr) (c : Nat) (hn : wss.length ≤ 140737488351232) (hrow : ∀ i, i < wss.length → (wss.getD i []).length ≤ 140737488351232) (hword : ∀ i, i < wss.length → ∀ j, j < (wss.getD i []).length → ((wss.getD i []).getD j []).length ≤ 140737488351232) (htot : (joinText wss).length ≤ 140737488351232) (w : World) (ha : StrRows w a wss) :
    Calls Tryd.prog 19 #[.slice a wss.length c] w fun e w' => e = .returned (.tuple #[.string (strL (joinOut wss)), .int .i64 (joinErr wss)]) ∧ w' = w := by
  have HA := hid ha
  have HROW := hid hrow
  have HWORD := hid hword
  have HROOM : Hid (∀ k j, k < wss.length → j ≤ (wss.getD k []).length → (joinTo wss k ++ wordsTo (wss.getD k []) j).length + 1 ≤ 140737488351232) := fun k j h1 h2 => Nat.le_trans (join_room h1 h2) htot
  have HBAD : Hid (∀ k, k < wss.length → badRow (wss.getD k []) = true → joinOut wss = [] ∧ joinErr wss = 4) := fun k h1 h2 => join_bad h1 h2
  have HGOOD : Hid ((∀ j, j < wss.length → badRow (wss.getD j []) = false) → joinOut wss = joinText wss ∧ joinErr wss = 0) := join_good
  clear ha hrow hword htot
  obtain ⟨n, hN⟩ : ∃ n, Hid (wss.length = n) := ⟨_, rfl⟩
  obtain ⟨JO, hJO⟩ : ∃ JO, Hid (joinOut wss = JO) := ⟨_, rfl⟩
  obtain ⟨JE, hJE⟩ : ∃ JE, Hid (joinErr wss = JE) := ⟨_, rfl⟩
  rw [hJO.out, hJE.out] at HBAD HGOOD ⊢
  rw [hN.out] at hn HROOM HBAD HGOOD ⊢
  go_enter Tryd.func19, Tryd.ntmps19
  go_wp2
  go_loopw [4, 5] (fun s v wr => ∃ (k : Nat) (S : ByteArray), k ≤ n ∧ s = .string S ∧ v = .int .i64 k ∧ Hid (S = strL (joinTo wss k)) ∧ Hid (∀ j, j < k → badRow (wss.getD j []) = false) ∧ w = wr) (fun _ v _ => n - (intOf v).toNat)
  case atStart => exact ⟨0, ⟨#[]⟩, Nat.zero_le _, rfl, rfl, rfl, (fun j h => by omega), rfl⟩
  case round =>
    obtain ⟨k, S, hk, rfl, rfl, hS, hgood, rfl⟩ := hrel
    by_cases hlt : k < n
    · have i1 : (k : Int) < n := by omega
      have hlt' : k < wss.length := by rw [hN.out]; exact hlt
      obtain ⟨ba, oa, ai, ca, rfl, hba, hca, hla, hsa⟩ := row_at HA.out hlt'
      have hm := HROW.out k hlt'
      have HSA := hid hsa
      have HBK := hid (HBAD.out k hlt)
      have HRK := hid (HROOM.out k · hlt)
      have HWK := hid (HWORD.out k hlt')
      have HJN : Hid (joinTo wss (k + 1) = joinTo wss k ++ rowText (wss.getD k [])) := rfl
      have HJG : Hid (badRow (wss.getD k []) = false → ∀ j, j < k + 1 → badRow (wss.getD j []) = false) := fun h j hj => by
        by_cases e : j = k
        · rw [e]; exact h
        · exact hgood.out j (by omega)
      clear hsa
      obtain ⟨ws, hw⟩ : ∃ ws, Hid (wss.getD k [] = ws) := ⟨_, rfl⟩
      rw [hw.out] at hca hla hm HSA HBK HRK HWK HJN HJG
      obtain ⟨m, hM⟩ : ∃ m, Hid (ws.length = m) := ⟨_, rfl⟩
      rw [hM.out] at hca hla hm HRK HWK
      by_cases h0 : m = 0
      · subst h0
        obtain ⟨e1, e2⟩ := HBK.out (by rw [List.eq_nil_of_length_eq_zero hM.out]; rfl)
        subst e1 e2
        go_wp2
        go_ret2
        exact ⟨rfl, rfl⟩
      · have hq : ((m : Int) == 0) = false := by rw [beq_eq_false_iff_ne]; omega
        clear h0
        go_wp2
        go_loopw [4, 6] (fun s v wr => ∃ (j : Nat) (S : ByteArray), j ≤ m ∧ s = .string S ∧ v = .int .i64 j ∧ Hid (S = strL (joinTo wss k ++ wordsTo ws j)) ∧ Hid ((ws.take j).any noWord = false) ∧ w = wr) (fun _ v _ => m - (intOf v).toNat)
        case atStart => exact ⟨0, S, Nat.zero_le _, rfl, rfl, hid (by rw [hS.out, wordsTo, List.append_nil]), hid (by simp), rfl⟩
        case round =>
          obtain ⟨j, S2, hj, rfl, rfl, hS2, hok, rfl⟩ := hrel
          by_cases hjl : j < m
          · have i2 : (j : Int) < m := by omega
            have hjl' : j < ws.length := by rw [hM.out]; exact hjl
            obtain ⟨xa, pa, rfl, hxa, hda⟩ := str_at HSA.out hjl'
            have cw := word_any (ws.getD j []) (HWK.out j hjl) w
            have HB2 := hid (fun h => HBK.out (bad_word hjl' h))
            have HO2 := hid (any_words_next hjl' hok.out)
            have hr0 := HRK.out j (by omega)
            have hr1 := HRK.out (j + 1) (by omega)
            have hsz : S2.size = (joinTo wss k ++ wordsTo ws j).length := by rw [hS2.out, strL_size]
            have hwn : wordsTo ws (j + 1) = wordsTo ws j ++ (if j = 0 then [] else [32]) ++ ws.getD j [] := rfl
            have hwn2 : strL (joinTo wss k ++ wordsTo ws (j + 1)) = S2 ++ strL (if j = 0 then [] else [32]) ++ strL (ws.getD j []) := by
              rw [hwn, hS2.out, strL_app, strL_app, List.append_assoc, List.append_assoc, List.append_assoc]
            rw [hwn] at hr1
            simp only [List.length_append] at hr0 hr1 hsz
            have hxs : (strL (ws.getD j [])).size = (ws.getD j []).length := strL_size _
            have hX1 : (S2.size : Int) ≤ 140737488351232 := by omega
            have hX2 : ((strL (ws.getD j [])).size : Int) ≤ 140737488351232 := by omega
            obtain ⟨b, hb⟩ : ∃ b, Hid (noWord (ws.getD j []) = b) := ⟨_, rfl⟩
            rw [hb.out] at cw HB2 HO2
            obtain ⟨X, hX⟩ : ∃ X, Hid (strL (ws.getD j []) = X) := ⟨_, rfl⟩
            rw [hX.out] at cw hda hwn2 hX2 hxs
            have HWN := hid hwn2
            clear hwn hwn2 hr0 hr1 hsz hxs
            cases b
            · simp only [Bool.not_false] at cw
              have HO3 := hid (HO2.out rfl)
              by_cases hj0 : j = 0
              · have i3 : ¬ (0 : Int) < j := by omega
                have HW3 := HWN.out
                rw [if_pos hj0] at HW3
                have HW4 : Hid (S2 ++ X = strL (joinTo wss k ++ wordsTo ws (j + 1))) := by
                  show _ = _
                  rw [HW3, show strL ([] : List UInt8) = ByteArray.empty from rfl, ByteArray.append_empty]
                clear HW3 hj0 HWN
                go_wp2_with (go_at_call 36; with_reducible refine cw.mono ?_; clear cw; rintro e w2 ⟨rfl, hw⟩; rw [hw]; clear hw w2)
                exact ⟨⟨j + 1, _, by omega, rfl, by go_num, HW4, HO3, trivial⟩, by simp [intOf]; omega⟩
              · have i3 : (0 : Int) < j := by omega
                have HW3 := HWN.out
                rw [if_neg hj0, show strL [32] = ⟨#[32]⟩ from rfl] at HW3
                have HW4 := hid HW3.symm
                have hX4 : ((S2 ++ ⟨#[32]⟩).size : Int) ≤ 140737488351233 := by rw [ByteArray.size_append]; show ((S2.size + 1 : Nat) : Int) ≤ _; omega
                clear HW3 hj0 HWN
                go_wp2_with (go_at_call 36; with_reducible refine cw.mono ?_; clear cw; rintro e w2 ⟨rfl, hw⟩; rw [hw]; clear hw w2)
                exact ⟨⟨j + 1, _, by omega, rfl, by go_num, HW4, HO3, trivial⟩, by simp [intOf]; omega⟩
            · simp only [Bool.not_true] at cw
              obtain ⟨e1, e2⟩ := HB2.out rfl
              subst e1 e2
              go_wp2_with (go_at_call 36; with_reducible refine cw.mono ?_; clear cw; rintro e w2 ⟨rfl, hw⟩; rw [hw]; clear hw w2)
              go_ret2
              exact ⟨rfl, rfl⟩
          · obtain rfl : j = m := by omega
            have hr0 := HRK.out j (Nat.le_refl _)
            have hsz : S2.size = (joinTo wss k ++ wordsTo ws j).length := by rw [hS2.out, strL_size]
            have hX1 : (S2.size : Int) ≤ 140737488351232 := by omega
            have HW4 : Hid (S2 ++ ⟨#[10]⟩ = strL (joinTo wss (k + 1))) := by
              show _ = _
              rw [HJN.out, rowText, hM.out, hS2.out, ← List.append_assoc, ← strL_app]; rfl
            have hbr : badRow ws = false := by
              unfold badRow
              have := hok.out
              rw [← hM.out, List.take_length] at this
              rw [this, Bool.or_false]
              cases ws with
              | nil => simp at hM; have := hM.out; simp at hq; omega
              | cons _ _ => rfl
            have HG5 := hid (HJG.out hbr)
            clear hr0 hsz hbr
            go_wp2
            exact ⟨⟨k + 1, _, by omega, rfl, by go_num, HW4, HG5, trivial⟩, by simp [intOf]; omega⟩
    · obtain rfl : k = n := by omega
      obtain ⟨e1, e2⟩ := HGOOD.out hgood.out
      have hfin : Hid (strL (joinText wss) = S) := by show _ = _; unfold joinText; rw [hN.out]; exact hS.out.symm
      subst e1 e2
      go_wp2
      go_ret2
      exact ⟨by rw [hfin.out]; rfl, rfl⟩
end Go.Proofs.YtdlebjogbhgheaaDoor.texts
