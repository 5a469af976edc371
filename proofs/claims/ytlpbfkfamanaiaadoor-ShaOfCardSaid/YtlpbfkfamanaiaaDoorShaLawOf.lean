/- ShaOf: for every slice of bytes, its digest and the digest's bytes are as the reference says. No condition. -/
import Derived.Test.YtlpbfkfamanaiaaDoorShaEq
import Derived.Test.YtlpbfkfamanaiaaDoorShaOf
import Derived.Test.YtlpbfkfamanaiaaDoorShaRefOf
import Derived.Test.YtlpbfkfamanaiaaDoorShaRefBytes
import Derived.Test.YtlpbfkfamanaiaaDoorPlan
namespace Go.Proofs.YtlpbfkfamanaiaaDoor.shaOf
open Go.RowKit Go.Proofs.YtlpbfkfamanaiaaDoor.word Go.Proofs.YtlpbfkfamanaiaaDoor.sha
set_option linter.unusedVariables false

set_option maxRecDepth 20000 in
set_option maxHeartbeats 3200000 in
theorem walk (a : Option Addr) (len cap : Nat) (xs : List Nat) (w : World) (hr : Reads .u8 w a len xs) (hx : ∀ x ∈ xs, x < 256) (hlc : len ≤ cap) (hrs : cap * 1 ≤ 140737488351232) (ht : Tab w) :
    Calls Tryd.prog 3 #[.slice a len cap] w (Yes w) := by
  by_cases hbig : 4000 < len
  · have hbig' : (4000 : Int) < len := by omega
    have HT := hid ht
    clear hr hx ht
    go_enter Tryd.func3, Tryd.ntmps3
    go_wp2_with (go_at_call 6; (with_reducible refine (awake_any _ HT.out).mono ?_))
    rintro e w2 ⟨rfl, hb2⟩
    go_wp2
    go_ret
    exact ⟨rfl, hb2⟩
  · have hbig' : ¬ (4000 : Int) < len := by omega
    obtain ⟨hz8, hs8⟩ := zero_of_info info8
    have HY : ∃ Y, Hid (u32s (List.replicate 8 0) = Y) := ⟨_, rfl⟩
    obtain ⟨Y, hY⟩ := HY
    rw [hY.out] at hz8
    have hYl : Y.length = 8 := by rw [← hY.out, u32s_length]; rfl
    have hdl : (digest xs).length = 8 := chain_length _ _
    have hdx := chain_lt (xs ++ pad xs.length) ((xs.length + 72) / 64)
    have HREF := hid (refOf_any a len cap xs w hr hx hlc (by omega))
    have HT := hid ht
    have HR := hid hr
    have HX := hid hx
    have HDX : Hid (∀ x ∈ digest xs, x < 4294967296) := hdx
    clear hr hx ht hdx
    go_enter Tryd.func3, Tryd.ntmps3
    go_wp2_with (go_at_call 7; (with_reducible refine HREF.out.mono ?_))
    rintro e W1 rfl hb1
    obtain ⟨d, hd⟩ : ∃ x, Hid (digest xs = x) := ⟨_, rfl⟩
    rw [hd.out] at hdl HDX
    rw [hd.out]
    have hUs : (u32s d).toArray.size = 8 := by rw [List.size_toArray, u32s_length, hdl]
    have hUl : (u32s d).length = 8 := by rw [u32s_length, hdl]
    have HTH := hid (show (W1.alloc (.cells Y.toArray 25)).there W1.heap.size 0 (u32s d).toArray.size by rw [hUs]; exact (Block.new W1 25 Y).there 0 8 (by omega))
    have HLA := hid (show (Tryd.prog.info? 25).map (·.size) = some (u32s d).toArray.size by rw [hUs]; exact hs8)
    have HLL := hid (show (Tryd.prog.info? 25).map (·.size) = some (u32s d).length by rw [hUl]; exact hs8)
    have H1 := hid (show (u32s d).toArray.all (·.oneCell') = true from all_oneCell_toArray (u32s_one _))
    have hv2 : Block ((W1.alloc (.cells Y.toArray 25)).setCells W1.heap.size 0 (u32s d)) W1.heap.size 25 (u32s d) := by
      have := (Block.new W1 25 Y).setCells (vs := u32s d) (o := 0)
      rwa [put_all _ _ (by rw [hUl, hYl])] at this
    have hb2 : Below w.heap.size w ((W1.alloc (.cells Y.toArray 25)).setCells W1.heap.size 0 (u32s d)) := below_setCells (hb1.alloc hb1.size _) hb1.size _ _
    have HV2 := hid hv2
    have HB2 := hid hb2
    clear hUs hUl hs8 hv2 hb2 hb1 HREF
    go_wp2_with (with_reducible refine wpList_store_named rfl 25 (.tmp 3) (.tmp 9) rfl W1.heap.size 0 (u32s d).toArray rfl rfl HTH.out HLA.out H1.out ?_)
    intro W2 hW2
    rw [hW2.out] at HV2 HB2
    clear HTH HLA H1 hz8
    go_wp2
    refine plan.region (by kernel_rfl) ?_
    obtain ⟨W3, hW3⟩ : ∃ x, Hid (W2.drew = x) := ⟨_, rfl⟩
    have hv3 : Block W3 W1.heap.size 25 (u32s d) := by rw [← hW3.out]; exact HV2.out.drewN 1
    have hb3 : Below w.heap.size w W3 := by rw [← hW3.out]; exact below_drewN HB2.out 1
    rw [hW3.out]
    have hOf := of_any a len cap xs W3 (HT.out.below hb3 HT.out.1) (HR.out.below hb3) HX.out hlc (by omega)
    rw [hd.out] at hOf
    have heq : ∀ w', (binOp .eql 25 (.agg (u32s d).toArray) (.agg (u32s d).toArray)).run Tryd.prog w' = .ok (.bool true) w' := fun w' => by
      rw [run_eql_struct, same_eq d hdl]; rfl
    have hse : ∀ (s : ByteArray) w', (binOp .eql 9 (.string s) (.string s)).run Tryd.prog w' = .ok (.bool true) w' := fun s w' => by simp [go_sem]
    have hsg : ∀ (s : ByteArray) x y w', (eqGuard .eql 9 x y (.string s) (.string s)).run Tryd.prog w' = .ok () w' := fun s x y w' => by simp [go_sem]
    refine plan.Rest.first 0 _ (.slice a len cap) rfl (by kernel_rfl) (by kernel_rfl) (by kernel_rfl) (by kernel_rfl) (fun _ _ => by kernel_rfl) ?_
    refine plan.Rest.first 2 _ (.agg (u32s d).toArray) rfl (by kernel_rfl) (by kernel_rfl) (by kernel_rfl) (by kernel_rfl) (fun w' hb' => plan.exec_load rfl (by kernel_rfl) (hv3.later hb').whole Tryd.underlying25 rfl HLL.out) ?_
    refine plan.Rest.call 1 _ 8 #[.slice a len cap] rfl (by kernel_rfl) (by kernel_rfl) (by kernel_rfl) (hOf.mono ?_)
    rintro e W4 ⟨rfl, hb4⟩
    refine ⟨_, rfl, hb4, ?_⟩
    refine plan.Rest.value 3 _ (.bool true) rfl (by kernel_rfl) (by kernel_rfl) (plan.exec_eql (vx := .agg (u32s d).toArray) (vy := .agg (u32s d).toArray) rfl (by kernel_rfl) (by kernel_rfl) (run_eqGuard_agg _ _ _ _ _ _ _ (by kernel_rfl)) (heq _)) ?_
    refine plan.Rest.value 4 _ (.bool true) rfl (by kernel_rfl) (by kernel_rfl) (by kernel_rfl) ?_
    have hv4 := hv3.later hb4
    have hB4 := hb3.trans (hb4.mono hb3.size)
    refine plan.Rest.first 8 _ (.agg (u32s d).toArray) rfl (by kernel_rfl) (by kernel_rfl) (by kernel_rfl) (by kernel_rfl) (fun w' hb' => plan.exec_load rfl (by kernel_rfl) (hv4.later hb').whole Tryd.underlying25 rfl HLL.out) ?_
    refine plan.Rest.first 5 _ (.agg (u32s d).toArray) rfl (by kernel_rfl) (by kernel_rfl) (by kernel_rfl) (by kernel_rfl) (fun w' hb' => plan.exec_load rfl (by kernel_rfl) (hv4.later hb').whole Tryd.underlying25 rfl HLL.out) ?_
    refine plan.Rest.call 6 _ 9 #[.agg (u32s d).toArray] rfl (by kernel_rfl) (by kernel_rfl) (by kernel_rfl) ((bytes32_any d hdl HDX.out W4).mono ?_)
    rintro e W5 ⟨v5, rfl, ho5, hb5⟩
    obtain ⟨g5, c5, rfl, _, _, _, _⟩ := ownsRow_form ho5 (by decide)
    have hR5 : Reads .u8 W5 (some ⟨g5, 0, none⟩) 32 (wordBytes d) := Reads.own ho5
    refine ⟨_, rfl, hb5, ?_⟩
    refine plan.Rest.first 7 _ (.string (strOf (wordBytes d))) rfl (by kernel_rfl) (by kernel_rfl) (by kernel_rfl) (by kernel_rfl) (fun w' hb' => plan.exec_convert (v := .slice (some ⟨g5, 0, none⟩) 32 c5) rfl (by kernel_rfl) ((hR5.below hb').str 22 5 Tryd.underlying22 Tryd.underlying5 c5 9 Tryd.underlying9)) ?_
    refine plan.Rest.call 9 _ 10 #[.agg (u32s d).toArray] rfl (by kernel_rfl) (by kernel_rfl) (by kernel_rfl) ((refBytes32_any d hdl HDX.out W5).mono ?_)
    rintro e W6 ⟨v6, rfl, ho6, hb6⟩
    obtain ⟨g6, c6, rfl, _, _, _, _⟩ := ownsRow_form ho6 (by decide)
    have hR6 : Reads .u8 W6 (some ⟨g6, 0, none⟩) 32 (wordBytes d) := Reads.own ho6
    refine ⟨_, rfl, hb6, ?_⟩
    refine plan.Rest.value 10 _ (.string (strOf (wordBytes d))) rfl (by kernel_rfl) (by kernel_rfl) (plan.exec_convert (v := .slice (some ⟨g6, 0, none⟩) 32 c6) rfl (by kernel_rfl) (hR6.str 22 5 Tryd.underlying22 Tryd.underlying5 c6 9 Tryd.underlying9)) ?_
    refine plan.Rest.value 11 _ (.bool true) rfl (by kernel_rfl) (by kernel_rfl) (plan.exec_eql (vx := .string (strOf (wordBytes d))) (vy := .string (strOf (wordBytes d))) rfl (by kernel_rfl) (by kernel_rfl) (hsg _ _ _ _) (hse _ _)) ?_
    refine plan.Rest.value 12 _ (.bool true) rfl (by kernel_rfl) (by kernel_rfl) (by kernel_rfl) ?_
    refine plan.Rest.value 13 _ (.bool true) rfl (by kernel_rfl) (by kernel_rfl) (by kernel_rfl) ?_
    have hB6 := hB4.trans ((hb5.mono hB4.size).trans (hb6.mono (by have := hB4.size; have := hb5.size; omega)))
    refine plan.Rest.call 14 _ 6 #[] rfl (by kernel_rfl) (by kernel_rfl) (by kernel_rfl) ((awake_any W6 (HT.out.below hB6 HT.out.1)).mono ?_)
    rintro e W7 ⟨rfl, hb7⟩
    refine ⟨_, rfl, hb7, ?_⟩
    have hB7 := hB6.trans (hb7.mono hB6.size)
    refine plan.Rest.value 15 _ (.bool true) rfl (by kernel_rfl) (by kernel_rfl) (by kernel_rfl) ?_
    refine plan.Rest.value 16 _ (.bool true) rfl (by kernel_rfl) (by kernel_rfl) (by kernel_rfl) ?_
    refine plan.Rest.done (by kernel_rfl) ?_
    go_wp2
    exact bodyPost_ret (v := .bool true) (by kernel_rfl) (by kernel_rfl) ⟨rfl, hB7⟩
end Go.Proofs.YtlpbfkfamanaiaaDoor.shaOf
