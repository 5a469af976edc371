/- Contracts of Of and Bytes of layer 3, and of the law's own awake, where the constants' table holds what its text lays. -/
import Derived.Test.YtlpbfkfamanaiaaDoorShaSum
namespace Go.Proofs.YtlpbfkfamanaiaaDoor.sha
open Go.RowKit Go.Proofs.YtlpbfkfamanaiaaDoor.word
set_option linter.unusedVariables false

set_option maxHeartbeats 1600000 in
theorem of_any (a : Option Addr) (len cap : Nat) (xs : List Nat) (w : World) (ht : Tab w) (hr : Reads .u8 w a len xs) (hx : ∀ x ∈ xs, x < 256) (hlc : len ≤ cap) (hn : len < 288230376151711744) :
    Calls Tryd.prog 8 #[.slice a len cap] w fun e w' => e = .returned (.agg (u32s (digest xs)).toArray) ∧ Below w.heap.size w w' := by
  obtain ⟨hz8, hs8⟩ := zero_of_info info8
  have HY : ∃ Y, Hid (u32s (List.replicate 8 0) = Y) := ⟨_, rfl⟩
  obtain ⟨Y, hY⟩ := HY
  rw [hY.out] at hz8
  have HS8 := hid hs8
  have hlen := hr.1
  have HT := hid ht
  have HR := hid hr
  have HX := hid hx
  clear hs8 ht hr hx
  have hb1 : Below w.heap.size w (w.alloc (.cells Y.toArray 25)) := (Below.refl _ _).alloc (Nat.le_refl _) _
  have hr1 : Block (w.alloc (.cells Y.toArray 25)) w.heap.size 25 Y := Block.new _ _ _
  have hsz1 : (w.alloc (.cells Y.toArray 25)).heap.size = w.heap.size + 1 := by simp
  have hN := new_any (w.alloc (.cells Y.toArray 25))
  rw [hsz1] at hN
  have HN := hid hN
  clear hN
  go_enter Tryd.func8, Tryd.ntmps8
  go_wp2_with (go_at_call 11; (with_reducible refine HN.out.mono ?_))
  rintro e W2 ⟨rfl, hh2, hb2⟩
  have hB2 : Below w.heap.size w W2 := hb1.trans (hb2.mono (by omega))
  have hr2 := hr1.below hb2 (by omega)
  have hh2' := hh2
  obtain ⟨B2, hBB2, _, _⟩ := hh2'
  have h12 := hBB2.2.2.lt
  have hbes : Beside (w.heap.size + 1) a len := by
    rcases HR.out.2 with h | ⟨g, off, rfl, hlt, _⟩
    · exact .inl h
    · exact .inr ⟨g, off, rfl, by omega⟩
  have hWr := write_any (w.heap.size + 1) (by omega) [] a len cap xs W2 (HT.out.below hB2 HT.out.1) hh2 (HR.out.below hB2) hbes HX.out hlc (by simp; omega)
  have HB2 := hid hB2
  have HR2 := hid hr2
  have HWr := hid hWr
  clear hb1 hr1 hsz1 hh2 hb2 hB2 hr2 hBB2 hbes hWr HN
  go_wp2_with (go_at_call 12; (with_reducible refine HWr.out.mono ?_))
  rintro e W3 ⟨rfl, hh3, hbut3⟩
  rw [List.nil_append] at hh3
  have hr3 : Block W3 w.heap.size 25 Y := HR2.out.but hbut3 HR2.out.lt (by omega)
  have hb3 : Below w.heap.size w W3 := HB2.out.trans (hbut3.below (by omega) (by omega))
  have hSm := sum_any (w.heap.size + 1) xs W3 (HT.out.below hb3 HT.out.1) hh3 (by omega)
  have HB3 := hid hb3
  have HR3 := hid hr3
  have HSm := hid hSm
  clear hh3 hbut3 hr3 hb3 hSm HWr
  go_wp2_with (go_at_call 13; (with_reducible refine HSm.out.mono ?_))
  rintro e W4 ⟨rfl, hb4⟩
  have hr4 := HR3.out.later hb4
  have hB4 := HB3.out.trans (hb4.mono HB3.out.size)
  have hdl : (digest xs).length = 8 := chain_length _ _
  have hds : (u32s (digest xs)).toArray.size = 8 := by rw [List.size_toArray, u32s_length, hdl]
  have hYl : Y.length = 8 := by rw [← hY.out, u32s_length]; rfl
  have HLD := hid (show (Tryd.prog.info? 25).map (·.size) = some (u32s (digest xs)).length by rw [u32s_length, hdl]; exact HS8.out)
  have HLE := hid (show (Tryd.prog.info? 25).map (·.size) = some (u32s (digest xs)).toArray.size by rw [hds]; exact HS8.out)
  have HTE := hid (show W4.there w.heap.size 0 (u32s (digest xs)).toArray.size by rw [hds]; exact hr4.there 0 8 (by omega))
  have H1D := hid (show (u32s (digest xs)).toArray.all (·.oneCell') = true from all_oneCell_toArray (u32s_one _))
  have hfin : Block (W4.setCells w.heap.size 0 (u32s (digest xs))) w.heap.size 25 (u32s (digest xs)) := by
    have := hr4.setCells (vs := u32s (digest xs)) (o := 0)
    rwa [put_all _ _ (by rw [u32s_length, hdl, hYl])] at this
  have HFIN := hid hfin
  have HBF := hid (below_setCells hB4 (Nat.le_refl _) 0 (u32s (digest xs)))
  clear hr4 hb4 hB4 hdl hds hYl hfin
  generalize hD : u32s (digest xs) = D at *
  have HD := hid hD
  clear hD
  go_wp2_with (with_reducible refine wpList_store_mid rfl 25 (.tmp 2) (.tmp 9) rfl w.heap.size 0 D.toArray rfl rfl HTE.out HLE.out H1D.out ?_)
  exact bodyPost_ret (results_cell rfl rfl HFIN.out.whole Tryd.underlying25 rfl HLD.out) rfl ⟨by rw [HD.out], HBF.out⟩

theorem ownsRow_base {w : World} {base base' e size n : Nat} {v : Value} {xs : List Value} (h : w.ownsRow base e size v n xs) (hb : base' ≤ base) : w.ownsRow base' e size v n xs :=
  ⟨h.1, h.2.imp id fun ⟨g, cap, cur, hv, h1, r⟩ => ⟨g, cap, cur, hv, Nat.le_trans hb h1, r⟩⟩
theorem bytes32_any (d : List Nat) (hd : d.length = 8) (hdx : ∀ x ∈ d, x < 4294967296) (w : World) :
    Calls Tryd.prog 9 #[.agg (u32s d).toArray] w fun e w' => ∃ v, e = .returned v ∧ w'.ownsRow w.heap.size 5 1 v 32 (u8s (wordBytes d)) ∧ Below w.heap.size w w' := by
  have hb1 : Below w.heap.size w (w.alloc (.cells (u32s d).toArray 25)) := (Below.refl _ _).alloc (Nat.le_refl _) _
  have hr1 : Block (w.alloc (.cells (u32s d).toArray 25)) w.heap.size 25 (u32s d) := Block.new _ _ _
  have hrd : Reads .u32 (w.alloc (.cells (u32s d).toArray 25)) (some ⟨w.heap.size, 0, none⟩) 8 d := hr1.reads 0 d (fun i hi => by rw [Nat.zero_add]; exact u32s_get d i hi) 8 hd
  have hBy := bytesOf_any (some ⟨w.heap.size, 0, none⟩) 8 8 d _ hrd hdx (by omega)
  have hsl : ∀ w', (Instr.sliceAt 25 (.pointer (some ⟨w.heap.size, 0, none⟩)) none none none).run Tryd.prog w' = .ok (.slice (some ⟨w.heap.size, 0, none⟩) 8 8) w' := fun _ => by kernel_rfl
  have HBy := hid hBy
  have HB1 := hid hb1
  clear hb1 hr1 hrd hBy hdx
  generalize u32s d = D at *
  go_enter Tryd.func9, Tryd.ntmps9
  go_wp2_with (go_at_call 20; (with_reducible refine HBy.out.mono ?_))
  rintro e w' ⟨v, rfl, ho, hb⟩
  go_wp2
  go_ret
  exact ⟨v, rfl, ownsRow_base ho (by simp), HB1.out.trans (hb.mono HB1.out.size)⟩

set_option maxHeartbeats 1600000 in
theorem awake_any (w : World) (ht : Tab w) : Calls Tryd.prog 6 #[] w (Yes w) := by
  obtain ⟨hz8, hs8⟩ := zero_of_info info8
  have HY : ∃ Y, Hid (u32s (List.replicate 8 0) = Y) := ⟨_, rfl⟩
  obtain ⟨Y, hY⟩ := HY
  rw [hY.out] at hz8
  have HS8 := hid hs8
  have hb1 : Below w.heap.size w (w.alloc (.cells #[.int .u8 97, .int .u8 98, .int .u8 99] 5)) := (Below.refl _ _).alloc (Nat.le_refl _) _
  have hr1 : Reads .u8 (w.alloc (.cells #[.int .u8 97, .int .u8 98, .int .u8 99] 5)) (some ⟨w.heap.size, 0, none⟩) 3 [97, 98, 99] := ⟨rfl, .inr ⟨w.heap.size, 0, rfl, by simp, fun i hi => by
    have h := cells_new w 5 [.int .u8 97, .int .u8 98, .int .u8 99] i
    rw [Addr.add_lit] at h
    have : i = 0 ∨ i = 1 ∨ i = 2 := by omega
    rcases this with rfl | rfl | rfl <;> exact h _ rfl⟩⟩
  have HO := hid (of_any (some ⟨w.heap.size, 0, none⟩) 3 3 [97, 98, 99] _ (ht.below hb1 ht.1) hr1 (by decide) (by decide) (by decide))
  have HB1 := hid hb1
  clear hs8 ht hb1 hr1
  go_enter Tryd.func6, Tryd.ntmps6
  go_wp2_with (go_at_call 8; (with_reducible refine HO.out.mono ?_))
  rintro e W2 ⟨rfl, hb2⟩
  have hB2 := HB1.out.trans (hb2.mono HB1.out.size)
  have hdl : (digest [97, 98, 99]).length = 8 := chain_length _ _
  have hd0 := abc0
  have hd7 := abc7
  obtain ⟨D, hD⟩ : ∃ x, Hid (digest [97, 98, 99] = x) := ⟨_, rfl⟩
  rw [hD.out] at hdl hd0 hd7
  have hYl : Y.length = 8 := by rw [← hY.out, u32s_length]; rfl
  have hds : (u32s D).toArray.size = 8 := by rw [List.size_toArray, u32s_length, hdl]
  have HLE := hid (show (Tryd.prog.info? 25).map (·.size) = some (u32s D).toArray.size by rw [hds]; exact HS8.out)
  have HTE := hid (show (W2.alloc (.cells Y.toArray 25)).there W2.heap.size 0 (u32s D).toArray.size by rw [hds]; exact (Block.new W2 25 Y).there 0 8 (by omega))
  have H1D := hid (show (u32s D).toArray.all (·.oneCell') = true from all_oneCell_toArray (u32s_one _))
  have hfin : Block ((W2.alloc (.cells Y.toArray 25)).setCells W2.heap.size 0 (u32s D)) W2.heap.size 25 (u32s D) := by
    have := (Block.new W2 25 Y).setCells (vs := u32s D) (o := 0)
    rwa [put_all _ _ (by rw [u32s_length, hdl, hYl])] at this
  have HFIN := hid hfin
  have HBF := hid (below_setCells (hB2.alloc hB2.size (.cells Y.toArray 25)) hB2.size 0 (u32s D))
  clear hfin hds hYl hB2 hb2 HO HB1
  rw [hD.out]
  go_wp2_with (with_reducible refine wpList_store_named rfl 25 (.tmp 1) (.tmp 3) rfl W2.heap.size 0 (u32s D).toArray rfl rfl HTE.out HLE.out H1D.out ?_)
  intro W3 hW3
  rw [hW3.out] at HFIN HBF
  have c0 : W3.cell? ⟨W2.heap.size, 0, none⟩ = some (.int .u32 3128432319) := by rw [HFIN.out.cell, u32s_get D 0 (by omega), hd0]; rfl
  have c7 : W3.cell? ⟨W2.heap.size, 7, none⟩ = some (.int .u32 4060091821) := by rw [HFIN.out.cell, u32s_get D 7 (by omega), hd7]; rfl
  clear hd0 hd7 hdl
  go_wp2
  go_ret
  exact ⟨rfl, HBF.out⟩
end Go.Proofs.YtlpbfkfamanaiaaDoor.sha
