/- Contracts of New, Count, Sum, Of and Bytes of layer 3, where the constants' table holds what its text lays. -/
import Derived.Test.YtlpbfkfamanaiaaDoorShaWrite
namespace Go.Proofs.YtlpbfkfamanaiaaDoor.sha
open Go.RowKit Go.Proofs.YtlpbfkfamanaiaaDoor.word
set_option linter.unusedVariables false

theorem wpList_build {P : Program} {w : World} {ops : Array Oper} {rest : List Oper} {o : Oper} {a : Act} {Q : Exit → Act → World → Prop} (hgd : o.guard = none) (t : TypeId) (parts : Array (Nat × Operand)) (ho : o.op = .build t parts)
    (v : Value) (hr : (Instr.build t (parts.map fun (i, x) => (i, a.eval x))).run P w = .ok v w) (h : wpList P ops Q rest (a.put o.dst v) w) : wpList P ops Q (o :: rest) a w := by
  refine wpList_plain hgd fun K hK => ?_
  unfold Oper.wp
  simp only [execOp, ho, Sem.run_bind, hr, Result.andThen]
  exact hK _ _ h
def newCells : List Value := u32s h0 ++ u8s (List.replicate 64 0) ++ [.int .i64 0]
theorem hash_new {w : World} {b : Nat} (h : Block w b 44 newCells) : HashIs w b [] :=
  ⟨List.replicate 64 0, ⟨rfl, rfl, h⟩, by decide, rfl⟩
theorem new_any (w : World) : Calls Tryd.prog 11 #[] w fun e w' => e = .returned (.pointer (some ⟨w.heap.size, 0, none⟩)) ∧ HashIs w' w.heap.size [] ∧ Below w.heap.size w w' := by
  have hN : ∃ N, Hid (newCells = N) := ⟨_, rfl⟩
  obtain ⟨N, hN⟩ := hN
  go_enter Tryd.func11, Tryd.ntmps11
  go_wp2_with (with_reducible refine wpList_build rfl 44 #[(0, .tmp 1)] rfl (.agg N.toArray) (by rw [← hN.out]; kernel_rfl) ?_)
  go_ret
  exact ⟨rfl, hash_new (by rw [hN.out]; exact Block.new w _ N), (Below.refl _ _).alloc (Nat.le_refl _) _⟩
theorem count_nil (w : World) : Calls Tryd.prog 14 #[.pointer none] w (Quiet (.int .i64 0) w) := by
  go_enter Tryd.func14, Tryd.ntmps14
  go_wp2
  go_ret
  exact ⟨rfl, 0, rfl⟩
theorem count_any (b : Nat) (m : List Nat) (w : World) (hh : HashIs w b m) : Calls Tryd.prog 14 #[.pointer (some ⟨b, 0, none⟩)] w (Quiet (.int .i64 m.length) w) := by
  obtain ⟨B, hB, _, _⟩ := hh
  have hc := hB.count
  clear hB
  go_enter Tryd.func14, Tryd.ntmps14
  go_wp2
  go_ret
  exact ⟨rfl, 0, rfl⟩
theorem write_nil (v : Value) (w : World) : Calls Tryd.prog 12 #[.pointer none, v] w (Quiet (.tuple #[]) w) := by
  go_enter Tryd.func12, Tryd.ntmps12
  go_wp2
  exact bodyPost_ret (v := .tuple #[]) (by kernel_rfl) rfl ⟨rfl, 0, rfl⟩
theorem pad_lt (n : Nat) : ∀ x ∈ pad n, x < 256 := by
  intro x hx
  simp only [pad, List.mem_cons, List.mem_append] at hx
  rcases hx with rfl | h | h
  · decide
  · rw [(List.mem_replicate.1 h).2]; decide
  · obtain ⟨i, _, rfl⟩ := List.mem_map.1 h
    exact Nat.mod_lt _ (by decide)
theorem pad_le (n : Nat) : (pad n).length ≤ 72 ∧ 0 < (pad n).length := by
  simp only [pad, List.length_cons, List.length_append, List.length_replicate, lenBytes_length]; omega
theorem digest_eq (m : List Nat) : chain (m ++ pad m.length) ((m ++ pad m.length).length / 64) = digest m := by
  rw [digest, List.length_append, (pad_length m.length).2]
theorem info44 : (Tryd.prog.info? 44).map (fun i => (i.zero, i.size)) = some (some (.agg (u32s (List.replicate 8 0) ++ u8s (List.replicate 64 0) ++ [Value.int .i64 0]).toArray), 73) := by kernel_rfl
theorem sum_nil (w : World) : Calls Tryd.prog 13 #[.pointer none] w fun e w' => e = .returned (.agg (u32s (List.replicate 8 0)).toArray) ∧ Below w.heap.size w w' := by
  obtain ⟨hz8, hs8⟩ := zero_of_info info8
  have HY : ∃ Y, Hid (u32s (List.replicate 8 0) = Y) := ⟨_, rfl⟩
  obtain ⟨Y, hY⟩ := HY
  rw [hY.out] at hz8
  have HL := hid hs8
  clear hs8
  have hYl : Y.length = 8 := by rw [← hY.out, u32s_length]; rfl
  have hYs : Y.toArray.size = 8 := by rw [List.size_toArray]; exact hYl
  have HTH := hid (show (w.alloc (.cells Y.toArray 25)).there w.heap.size 0 Y.toArray.size by rw [hYs]; exact (Block.new w 25 Y).there 0 8 (by omega))
  have HL2 := hid (show (Tryd.prog.info? 25).map (·.size) = some Y.toArray.size by rw [hYs]; exact HL.out)
  have H1 := hid (show Y.toArray.all (·.oneCell') = true by rw [← hY.out]; exact all_oneCell_toArray (u32s_one _))
  have hfin : Block ((w.alloc (.cells Y.toArray 25)).setCells w.heap.size 0 Y) w.heap.size 25 Y := by
    have := (Block.new w 25 Y).setCells (vs := Y) (o := 0)
    rwa [put_all _ _ rfl] at this
  have hbf : Below w.heap.size w ((w.alloc (.cells Y.toArray 25)).setCells w.heap.size 0 Y) := below_setCells ((Below.refl _ _).alloc (Nat.le_refl _) _) (Nat.le_refl _) _ _
  have HF := hid hfin
  have HBF := hid hbf
  have HL3 := hid (show (Tryd.prog.info? 25).map (·.size) = some Y.length by rw [hYl]; exact HL.out)
  clear hfin hbf hYs hYl
  go_enter Tryd.func13, Tryd.ntmps13
  go_wp2_with (with_reducible refine wpList_store_mid rfl 25 (.tmp 2) (.tmp 6) rfl w.heap.size 0 Y.toArray rfl rfl HTH.out HL2.out H1.out ?_)
  exact bodyPost_ret (results_cell rfl rfl HF.out.whole Tryd.underlying25 rfl HL3.out) rfl ⟨by rw [hY.out], HBF.out⟩
set_option maxHeartbeats 1600000 in
theorem sum_any (b : Nat) (m : List Nat) (w : World) (ht : Tab w) (hh : HashIs w b m) (hn : m.length < 288230376151711744) :
    Calls Tryd.prog 13 #[.pointer (some ⟨b, 0, none⟩)] w fun e w' => e = .returned (.agg (u32s (digest m)).toArray) ∧ Below w.heap.size w w' := by
  obtain ⟨hz8, hs8⟩ := zero_of_info info8
  have HY : ∃ Y, Hid (u32s (List.replicate 8 0) = Y) := ⟨_, rfl⟩
  obtain ⟨Y, hY⟩ := HY
  rw [hY.out] at hz8
  obtain ⟨hz44, hs44⟩ := zero_of_info info44
  have HZ : ∃ Z, Hid (u32s (List.replicate 8 0) ++ u8s (List.replicate 64 0) ++ [Value.int .i64 0] = Z) := ⟨_, rfl⟩
  obtain ⟨Z, hZ⟩ := HZ
  rw [hZ.out] at hz44
  obtain ⟨B, hB, hBx, hBt⟩ := hh
  have hl73 := hB.len
  have hBk := hB.2.2
  obtain ⟨H, hH⟩ : ∃ x, Hid (u32s (chain m (m.length / 64)) ++ u8s B ++ [Value.int .i64 (m.length : Int)] = x) := ⟨_, rfl⟩
  rw [hH.out] at hl73 hBk
  go_enter Tryd.func13, Tryd.ntmps13
  have hb1 : Below w.heap.size w (w.alloc (.cells Y.toArray 25)) := (Below.refl _ _).alloc (Nat.le_refl _) _
  have hr1 : Block (w.alloc (.cells Y.toArray 25)) w.heap.size 25 Y := Block.new _ _ _
  have hB1 : Block (w.alloc (.cells Y.toArray 25)) b 44 H := hBk.alloc _
  have HR := hid hB1.whole
  have HL := hid (show (Tryd.prog.info? 44).map (·.size) = some H.length by rw [hl73]; exact hs44)
  have HS8 := hid hs8
  have HS44 := hid hs44
  have HBH := hid hB
  have HT := hid ht
  have HBX := hid hBx
  have HBT := hid hBt
  clear hs8 hs44 hB ht hBx hBt
  have hsz1 : (w.alloc (.cells Y.toArray 25)).heap.size = w.heap.size + 1 := by simp
  have hHs : H.toArray.size = 73 := by rw [List.size_toArray]; exact hl73
  have hZl : Z.length = 73 := by rw [← hZ.out]; simp [u32s_length, u8s_length]
  have hN2 : Block ((w.alloc (.cells Y.toArray 25)).alloc (.cells Z.toArray 44)) (w.heap.size + 1) 44 Z := by
    have := Block.new (w.alloc (.cells Y.toArray 25)) 44 Z
    rwa [hsz1] at this
  have HTH := hid (show ((w.alloc (.cells Y.toArray 25)).alloc (.cells Z.toArray 44)).there (w.heap.size + 1) 0 H.toArray.size by rw [hHs]; exact hN2.there 0 73 (by omega))
  have HL2 := hid (show (Tryd.prog.info? 44).map (·.size) = some H.toArray.size by rw [hHs]; exact HS44.out)
  have H1 := hid (show H.toArray.all (·.oneCell') = true by
    rw [← hH.out]
    refine all_oneCell_toArray fun v hv => ?_
    rcases List.mem_append.1 hv with h | h
    · rcases List.mem_append.1 h with h | h
      · exact u32s_one _ v h
      · exact u8s_one _ v h
    · rw [List.mem_singleton] at h; subst h; rfl)
  have hblt := HBH.out.2.2.lt
  have hb2 : Below w.heap.size w (((w.alloc (.cells Y.toArray 25)).alloc (.cells Z.toArray 44)).setCells (w.heap.size + 1) 0 H) := below_setCells (hb1.alloc hb1.size _) (by omega) _ _
  have hr2 : Block (((w.alloc (.cells Y.toArray 25)).alloc (.cells Z.toArray 44)).setCells (w.heap.size + 1) 0 H) w.heap.size 25 Y := (hr1.alloc _).aparts _ _ _ (by omega)
  have hB2 : HB (((w.alloc (.cells Y.toArray 25)).alloc (.cells Z.toArray 44)).setCells (w.heap.size + 1) 0 H) (w.heap.size + 1) (chain m (m.length / 64)) B m.length := by
    refine ⟨HBH.out.1, HBH.out.2.1, ?_⟩
    have := hN2.setCells (vs := H) (o := 0)
    rw [put_all _ _ (by omega)] at this
    rw [hH.out]; exact this
  have hc2 : (((w.alloc (.cells Y.toArray 25)).alloc (.cells Z.toArray 44)).setCells (w.heap.size + 1) 0 H).cell? ⟨b, 72, none⟩ = some (.int .i64 m.length) := by
    rw [hb2.cell (p := ⟨b, 72, none⟩) hblt]; exact HBH.out.count
  have HB2 := hid hb2
  have HR2 := hid hr2
  have HHB2 := hid hB2
  have HC2 := hid hc2
  clear hb1 hr1 hB1 hHs hZl hN2 hb2 hr2 hB2 hc2 hsz1 hl73 hBk
  go_wp2_with (first
    | (with_reducible refine wpList_load_mid rfl 44 (.tmp 8) rfl b 0 rfl H _ HR.out Tryd.underlying44 rfl HL.out ?_)
    | (with_reducible refine wpList_store_named rfl 44 (.tmp 3) (.tmp 9) rfl (w.heap.size + 1) 0 H.toArray rfl rfl HTH.out HL2.out H1.out ?_))
  intro W3 hW3
  rw [hW3.out] at HB2 HR2 HHB2 HC2
  have hc3 := HC2.out
  have hT3 := HT.out.below HB2.out HT.out.1
  have HT3 := hid hT3
  have hPd : Calls Tryd.prog 22 #[.int .i64 m.length] W3 fun e w' => ∃ g c, e = .returned (.slice (some ⟨g, 0, none⟩) (pad m.length).length c) ∧ W3.heap.size ≤ g ∧ (pad m.length).length ≤ c ∧ Reads .u8 w' (some ⟨g, 0, none⟩) (pad m.length).length (pad m.length) ∧ Below W3.heap.size W3 w' :=
    (padding_any m.length (by omega) W3).mono fun e w' ⟨v, he, ho, hb⟩ => by
      obtain ⟨g, c, rfl, h1, _, h3, _⟩ := ownsRow_form ho (by simp [pad])
      exact ⟨g, c, he, h1, h3, Reads.own ho, hb⟩
  go_wp2_with (go_at_call 22; (with_reducible refine hPd.mono ?_))
  rintro e W4 ⟨g, c, rfl, hg, hgc, hr4, hb4⟩
  have hB4 := HB2.out.trans (hb4.mono HB2.out.size)
  have hR4 := HR2.out.later hb4
  have hH4 : HashIs W4 (w.heap.size + 1) m := HashIs.later ⟨B, HHB2.out, HBX.out, HBT.out⟩ hb4
  have hg2 : g ≠ w.heap.size + 1 := by have := HHB2.out.2.2.lt; omega
  have hpl := pad_le m.length
  have hWr := write_any (w.heap.size + 1) (by omega) m (some ⟨g, 0, none⟩) (pad m.length).length c (pad m.length) W4 (HT.out.below hB4 HT.out.1) hH4 hr4 (.inr ⟨g, 0, rfl, hg2⟩) (pad_lt _) hgc (by omega)
  have h45 : w.heap.size + 2 ≤ W4.heap.size := by have h1 := HHB2.out.2.2.lt; have h2 := hb4.size; omega
  have HB4 := hid hB4
  have HR4 := hid hR4
  clear hc3 hT3 hPd hr4 hb4 hB4 hR4 hH4 hpl
  go_wp2_with (go_at_call 12; (with_reducible refine hWr.mono ?_))
  rintro e W5 ⟨rfl, ⟨B5, hB5, _, _⟩, hbut5⟩
  rw [digest_eq] at hB5
  have hr5 : Block W5 w.heap.size 25 Y := HR4.out.but hbut5 HR4.out.lt (by omega)
  have hb5 : Below w.heap.size w W5 := HB4.out.trans (hbut5.below (by omega) (by omega))
  have hdl : (digest m).length = 8 := chain_length _ _
  have hds : (u32s (digest m)).toArray.size = 8 := by rw [List.size_toArray, u32s_length, hdl]
  have hYl : Y.length = 8 := by rw [← hY.out, u32s_length]; rfl
  have HRD := hid hB5.state
  have HLD := hid (show (Tryd.prog.info? 25).map (·.size) = some (u32s (digest m)).length by rw [u32s_length, hdl]; exact HS8.out)
  have HLE := hid (show (Tryd.prog.info? 25).map (·.size) = some (u32s (digest m)).toArray.size by rw [hds]; exact HS8.out)
  have HTE := hid (show W5.there w.heap.size 0 (u32s (digest m)).toArray.size by rw [hds]; exact hr5.there 0 8 (by omega))
  have H1D := hid (show (u32s (digest m)).toArray.all (·.oneCell') = true from all_oneCell_toArray (u32s_one _))
  have hfin : Block (W5.setCells w.heap.size 0 (u32s (digest m))) w.heap.size 25 (u32s (digest m)) := by
    have := hr5.setCells (vs := u32s (digest m)) (o := 0)
    rwa [put_all _ _ (by rw [u32s_length, hdl, hYl])] at this
  have HFIN := hid hfin
  have HBF := hid (below_setCells hb5 (Nat.le_refl _) 0 (u32s (digest m)))
  clear hB5 hr5 hb5 hdl hds hYl hfin hbut5
  generalize hD : u32s (digest m) = D at *
  have HD := hid hD
  clear hD
  go_wp2_with (first
    | (with_reducible refine wpList_load_mid rfl 25 (.tmp 16) rfl (w.heap.size + 1) 0 rfl D _ HRD.out Tryd.underlying25 rfl HLD.out ?_)
    | (with_reducible refine wpList_store_mid rfl 25 (.tmp 2) (.tmp 17) rfl w.heap.size 0 D.toArray rfl rfl HTE.out HLE.out H1D.out ?_))
  exact bodyPost_ret (results_cell rfl rfl HFIN.out.whole Tryd.underlying25 rfl HLD.out) rfl ⟨by rw [HD.out], HBF.out⟩
end Go.Proofs.YtlpbfkfamanaiaaDoor.sha
