/- Contract of Join. No condition beyond the lengths. -/
import Derived.Test.YtdlebjogbhgheaaDoorTextsJoin
namespace Go.Proofs.YtdlebjogbhgheaaDoor.texts
open Go.RowKit Go.Lib Go.Shelf
set_option linter.unusedVariables false
attribute [local go_sem] Oper.semAt_some

theorem built_later {B b : Nat} {l : List UInt8} {w w' : World} (h : Built B b l w) (hb : Below w.heap.size w w') : Built B b l w' := by
  rcases h with ⟨hB, v, h1, h2, h3⟩ | ⟨hB, v, h1, h2, h3⟩
  · exact .inl ⟨hB, v, (hb.block b (Array.getElem?_eq_some_iff.1 h1).1).trans h1, ownsRow_later h2 hb, h3⟩
  · exact .inr ⟨hB, v, (hb.block b (Array.getElem?_eq_some_iff.1 h1).1).trans h1, ownsRow_later h2 hb, h3⟩
theorem built_new (w : World) : Built w.heap.size w.heap.size [] (w.alloc (.cells #[.pointer none, .slice none 0 0] 55)) :=
  .inl ⟨Nat.le_refl _, _, World.alloc_heap_new w _, World.ownsRow_nil _ _ _ _, by simp [Value.ownBlock]⟩
theorem values_fn (a : Option Addr) (n c : Nat) (w : World) : Calls Tryd.prog 33 #[.slice a n c] w fun e w' => e = .returned (.func (.func 47) #[] #[.pointer (some ⟨w.heap.size, 0, none⟩)]) ∧ w' = w.alloc (.cells #[.slice a n c] 51) := by
  have hmf : ∀ (fn : Fn) (first cap : Array Value) (w : World), (Instr.makeFunc fn first cap).run Tryd.prog w = .ok (.func fn first cap) w := fun _ _ _ _ => rfl
  go_enter Tryd.func33, Tryd.ntmps33
  go_wp2
  go_ret
  exact ⟨rfl, rfl⟩
theorem has_row (a : Option Addr) (c : Nat) (ws : List (List UInt8)) (w : World) (hne : 0 < ws.length) (hs : Strs w a ws) (hl : ws.length ≤ 140737488351232) :
    Calls Tryd.prog 32 #[.func (.func 47) #[] #[.pointer (some ⟨w.heap.size, 0, none⟩)], .func (.func 34) #[] #[]] (w.alloc (.cells #[.slice a ws.length c] 51)) fun e w' => e = .returned (.bool (ws.any noWord)) ∧ Below w.heap.size w w' := by
  have hb0 : Below w.heap.size w (w.alloc (.cells #[.slice a ws.length c] 51)) := (Below.refl _ w).alloc (Nat.le_refl _) _
  obtain ⟨xb, xo, rfl, hxb, _⟩ := str_at hs hne
  refine (has_any 47 _ (fun _ => False) (fun k => ∃ off, (some ⟨xb, xo, none⟩ : Option Addr) = some ⟨k, off, none⟩) ws _ (enters_of Tryd.func47 (by kernel_rfl) rfl)
    (fun W hW => values_iter 2 (some ⟨xb, xo, none⟩) c w.heap.size ws W ((hW.cell (p := ⟨w.heap.size, 0, none⟩) (by show w.heap.size < _; simp)).trans (Boxed.new w _ _).cell) ((hs.below hb0).below hW) hl) (fun k h => h.elim) (fun k h => by
      obtain ⟨off, he⟩ := h
      cases he
      simp; omega)).mono ?_
  rintro e w2 ⟨rfl, ht⟩
  exact ⟨rfl, hb0.trans (ht.below hb0.size (fun k hk h => h))⟩

set_option maxRecDepth 20000 in
set_option maxHeartbeats 1000000 in
theorem join_any (wss : List (List (List UInt8))) (a : Option Addr) (c : Nat) (hn : wss.length ≤ 140737488351232) (hrow : ∀ i, i < wss.length → (wss.getD i []).length ≤ 140737488351232) (htot : (joinText wss).length ≤ 140737488351232) (w : World) (ha : StrRows w a wss) :
    Calls Tryd.prog 18 #[.slice a wss.length c] w fun e w' => e = .returned (.tuple #[.string (strL (joinOut wss)), .int .i64 (joinErr wss)]) ∧ Below w.heap.size w w' := by
  have HA := hid ha
  have HROW := hid hrow
  have HROOM : Hid (∀ k j, k < wss.length → j ≤ (wss.getD k []).length → (joinTo wss k ++ wordsTo (wss.getD k []) j).length + 1 ≤ 140737488351232) := fun k j h1 h2 => Nat.le_trans (join_room h1 h2) htot
  have HBAD : Hid (∀ k, k < wss.length → badRow (wss.getD k []) = true → joinOut wss = [] ∧ joinErr wss = 4) := fun k h1 h2 => join_bad h1 h2
  have HGOOD : Hid ((∀ j, j < wss.length → badRow (wss.getD j []) = false) → joinOut wss = joinText wss ∧ joinErr wss = 0) := join_good
  have hb0 := built_new w
  clear ha hrow htot
  obtain ⟨n, hN⟩ : ∃ n, Hid (wss.length = n) := ⟨_, rfl⟩
  obtain ⟨JO, hJO⟩ : ∃ JO, Hid (joinOut wss = JO) := ⟨_, rfl⟩
  obtain ⟨JE, hJE⟩ : ∃ JE, Hid (joinErr wss = JE) := ⟨_, rfl⟩
  rw [hJO.out, hJE.out] at HBAD HGOOD ⊢
  rw [hN.out] at hn HROOM HBAD HGOOD ⊢
  have HB0 := hid hb0
  clear hb0
  go_enter Tryd.func18, Tryd.ntmps18
  go_wp2
  go_loopw [11] (fun v wr => ∃ (k : Nat), k ≤ n ∧ v = .int .i64 k ∧ Hid (∀ j, j < k → badRow (wss.getD j []) = false) ∧ Hid (Built w.heap.size w.heap.size (joinTo wss k) wr) ∧ Below w.heap.size w wr) (fun v _ => n - (intOf v).toNat)
  case atStart => exact ⟨0, Nat.zero_le _, rfl, (fun j h => by omega), HB0, (Below.refl _ w).alloc (Nat.le_refl _) _⟩
  case round =>
    obtain ⟨k, hk, rfl, hgood, hbu, hbl⟩ := hrel
    have hws := hbl.size
    have HBL := hid hbl
    by_cases hlt : k < n
    · have i1 : (k : Int) < n := by omega
      have hlt' : k < wss.length := by rw [hN.out]; exact hlt
      obtain ⟨ba, oa, ai, ca, rfl, hba, hca0, hla, hsa⟩ := row_at HA.out hlt'
      have hca := (hbl.cell (p := ⟨ba, oa + k, none⟩) hba).trans hca0
      have hm := HROW.out k hlt'
      have HSA := hid hsa
      have HBK := hid (HBAD.out k hlt)
      have HRK := hid (HROOM.out k · hlt)
      have HJN : Hid (joinTo wss (k + 1) = joinTo wss k ++ rowText (wss.getD k [])) := rfl
      have HJG : Hid (badRow (wss.getD k []) = false → ∀ j, j < k + 1 → badRow (wss.getD j []) = false) := fun h j hj => by
        by_cases e : j = k
        · rw [e]; exact h
        · exact hgood.out j (by omega)
      clear hsa hbl hca0
      obtain ⟨ws, hw⟩ : ∃ ws, Hid (wss.getD k [] = ws) := ⟨_, rfl⟩
      rw [hw.out] at hca hla hm HSA HBK HRK HJN HJG
      by_cases h0 : ws.length = 0
      · obtain ⟨e1, e2⟩ := HBK.out (by rw [List.eq_nil_of_length_eq_zero h0]; rfl)
        subst e1 e2
        rw [h0] at hca
        go_wp2
        go_ret2
        exact ⟨rfl, HBL.out⟩
      · have hv := values_fn ai ws.length ca wr
        have hh := has_row ai ca ws wr (by omega) (HSA.out.below HBL.out) (by omega)
        have hq : ((ws.length : Int) == 0) = false := by rw [beq_eq_false_iff_ne]; omega
        have HBADW : Hid (ws.any noWord = true → badRow ws = true) := fun h => by unfold badRow; rw [h, Bool.or_true]
        have HOKW : Hid (ws.any noWord = false → badRow ws = false) := fun h => by
          unfold badRow; rw [h, Bool.or_false]
          cases ws with
          | nil => simp at h0
          | cons _ _ => rfl
        obtain ⟨bad, hbad⟩ : ∃ bad, Hid (ws.any noWord = bad) := ⟨_, rfl⟩
        rw [hbad.out] at hh HBADW HOKW
        obtain ⟨m, hM⟩ : ∃ m, Hid (ws.length = m) := ⟨_, rfl⟩
        rw [hM.out] at hca hla hm HRK hv hh hq h0
        clear h0
        cases bad
        · have HG5 := hid (HJG.out (HOKW.out rfl))
          go_wp2_with (first
            | (go_at_call 33; with_reducible refine hv.mono ?_; clear hv; rintro e w2 ⟨rfl, hw⟩; rw [hw]; clear hw w2)
            | (go_at_call 32; with_reducible refine hh.mono ?_; clear hh; rintro e w2 ⟨rfl, hb2⟩; have HBU2 := hid (built_later hbu.out hb2); have HBL2 := hid (HBL.out.trans (hb2.mono hws)); clear hb2 hbu HBL))
          clear HBADW HOKW HBK hbad HJG hca hba
          go_loopw [25] (fun v wr => ∃ (j : Nat), j ≤ m ∧ v = .int .i64 j ∧ Hid (Built w.heap.size w.heap.size (joinTo wss k ++ wordsTo ws j) wr) ∧ Hid (Below w.heap.size w wr)) (fun v _ => m - (intOf v).toNat)
          case atStart => exact ⟨0, Nat.zero_le _, rfl, hid (by rw [wordsTo, List.append_nil]; exact HBU2.out), HBL2⟩
          case round =>
            clear HBU2 HBL2
            obtain ⟨j, hj, rfl, hbu, hbl⟩ := hrel
            have hws3 := hbl.out.size
            by_cases hjl : j < m
            · have i2 : (j : Int) < m := by omega
              have hjl' : j < ws.length := by rw [hM.out]; exact hjl
              obtain ⟨xa, pa, rfl, hxa, hda0⟩ := str_at HSA.out hjl'
              have hda := (hbl.out.cell (p := ⟨xa, pa + j, none⟩) hxa).trans hda0
              clear hda0
              have hr1 := HRK.out (j + 1) (by omega)
              have HWN : Hid (joinTo wss k ++ wordsTo ws (j + 1) = (joinTo wss k ++ wordsTo ws j) ++ (if j = 0 then [] else [32]) ++ ws.getD j []) := by
                show _ = _
                rw [show wordsTo ws (j + 1) = wordsTo ws j ++ (if j = 0 then [] else [32]) ++ ws.getD j [] from rfl, List.append_assoc, List.append_assoc, List.append_assoc]
              rw [HWN.out] at hr1
              rw [List.length_append, List.length_append] at hr1
              obtain ⟨x, hx⟩ : ∃ x, Hid (ws.getD j [] = x) := ⟨_, rfl⟩
              rw [hx.out] at hda hr1 HWN
              obtain ⟨T, hT⟩ : ∃ T, Hid (joinTo wss k ++ wordsTo ws j = T) := ⟨_, rfl⟩
              rw [hT.out] at hr1 HWN hbu
              by_cases hj0 : j = 0
              · have i3 : ¬ (0 : Int) < j := by omega
                rw [if_pos hj0] at HWN hr1
                rw [List.append_nil] at HWN
                have cs := put_string w.heap.size w.heap.size T x _ hbu.out (by simp at hr1; omega) hws3
                obtain ⟨X, hX⟩ : ∃ X, Hid (strL x = X) := ⟨_, rfl⟩
                rw [hX.out] at cs hda
                clear hj0
                go_wp2_with (go_at_call 35; with_reducible refine cs.mono ?_; clear cs; rintro e w3 ⟨rfl, hB3, hb3⟩; have HB3 := hid hB3; have HL3 := hid hb3; clear hB3 hb3)
                exact ⟨⟨j + 1, by omega, by go_num, hid (by rw [HWN.out]; exact HB3.out), hid (hbl.out.trans HL3.out)⟩, by simp [intOf]; omega⟩
              · have i3 : (0 : Int) < j := by omega
                rw [if_neg hj0] at HWN hr1
                simp only [List.length_cons, List.length_nil] at hr1
                have cb := put_byte w.heap.size w.heap.size T 32 _ hbu.out (by omega) hws3
                rw [show (((32 : UInt8).toNat : Nat) : Int) = 32 from rfl] at cb
                have cs := fun w3 (h1 : Built w.heap.size w.heap.size (T ++ [32]) w3) (h2 : w.heap.size ≤ w3.heap.size) => put_string w.heap.size w.heap.size (T ++ [32]) x w3 h1 (by simp; omega) h2
                obtain ⟨X, hX⟩ : ∃ X, Hid (strL x = X) := ⟨_, rfl⟩
                rw [hX.out] at cs hda
                have CS := hid cs
                clear hj0 cs
                go_wp2_with (first
                  | (go_at_call 26; with_reducible refine cb.mono ?_; clear cb; rintro e w3 ⟨rfl, hB3, hb3⟩; have HB3 := hid hB3; have HL3 := hid hb3; have hda3 := (hb3.cell (p := ⟨xa, pa + j, none⟩) hxa).trans hda; have hws4 := hb3.size; clear hB3 hb3)
                  | (go_at_call 35; with_reducible refine (CS.out _ HB3.out (Nat.le_trans hws3 hws4)).mono ?_; clear CS; rintro e w4 ⟨rfl, hB4, hb4⟩; have HB4 := hid hB4; have HL4 := hid hb4; clear hB4 hb4))
                exact ⟨⟨j + 1, by omega, by go_num, hid (by rw [HWN.out]; exact HB4.out), hid ((hbl.out.trans HL3.out).trans HL4.out)⟩, by simp [intOf]; omega⟩
            · obtain rfl : j = m := by omega
              have hr0 := HRK.out j (Nat.le_refl _)
              have cb := put_byte w.heap.size w.heap.size (joinTo wss k ++ wordsTo ws j) 10 _ hbu.out (by omega) hws3
              rw [show (((10 : UInt8).toNat : Nat) : Int) = 10 from rfl] at cb
              have HW5 : Hid (joinTo wss k ++ wordsTo ws j ++ [10] = joinTo wss (k + 1)) := by
                show _ = _
                rw [HJN.out, rowText, hM.out, List.append_assoc]
              rw [HW5.out] at cb
              clear hr0 hbu
              go_wp2_with (go_at_call 26; with_reducible refine cb.mono ?_; clear cb; rintro e w3 ⟨rfl, hB3, hb3⟩; have HB3 := hid hB3; have HL3 := hid hb3; clear hB3 hb3)
              exact ⟨⟨k + 1, by omega, by go_num, HG5, HB3, hbl.out.trans HL3.out⟩, by simp [intOf]; omega⟩
        · obtain ⟨e1, e2⟩ := HBK.out (HBADW.out rfl)
          subst e1 e2
          go_wp2_with (first
            | (go_at_call 33; with_reducible refine hv.mono ?_; clear hv; rintro e w2 ⟨rfl, hw⟩; rw [hw]; clear hw w2)
            | (go_at_call 32; with_reducible refine hh.mono ?_; clear hh; rintro e w2 ⟨rfl, hb2⟩; have HB2 := hid hb2; clear hb2))
          go_ret2
          exact ⟨rfl, HBL.out.trans (HB2.out.mono hws)⟩
    · obtain rfl : k = n := by omega
      obtain ⟨e1, e2⟩ := HGOOD.out hgood.out
      have hfin : Hid (joinText wss = joinTo wss k) := by show _ = _; unfold joinText; rw [hN.out]
      subst e1 e2
      have cs := built_text w.heap.size w.heap.size (joinTo wss k) wr hbu.out hws
      rw [← hfin.out] at cs
      clear hbl
      go_wp2_with (go_at_call 27; with_reducible refine cs.mono ?_; clear cs; rintro e w3 ⟨rfl, hb3⟩; have HL3 := hid hb3; clear hb3)
      go_ret2
      exact ⟨rfl, HBL.out.trans HL3.out⟩
end Go.Proofs.YtdlebjogbhgheaaDoor.texts
