/- Contracts and lemmas that the claims of this seat share: ReplaceF, Perm, Plan. Each says its own conditions. -/
import Derived.Test.YtaciegkblklokaaGreatCmD
import Derived.Test.YtaciegkblklokaaGreatCmB
import Derived.Deep.MidRow
import Derived.Laws.StructEq
import Derived.Below
set_option linter.unusedVariables false
namespace Go.Proofs.YtaciegkblklokaaGreat.schema
open Go.RowKit Go.Proofs.YtaciegkblklokaaGreat.rows
set_option maxHeartbeats 1600000 in
set_option maxRecDepth 20000 in
theorem replaceF_0end (base N i : Nat) (v : Value) (xs : List Value) (w : World) (hown : w.ownsRow base 26 5 v (N + 1) xs) (hbase : base ≤ w.heap.size) (hi : i = N)
  (hx1 : ∀ u ∈ xs, u.oneCell' = true) (hn : N ≤ 1000) :
  Calls Tryz.prog 94 #[v, .int .i64 i, .int .i64 ((i : Int) + 1), .slice none 0 0] w (MadeF base v.ownBlock (N + 0) (xs.take (i * 5) ++ ([] ++ xs.drop ((i + 1) * 5))) w) := by
 obtain ⟨i0, hi0, hz0, hz1, hz2⟩ := fd_info_parts
 have hxl := hown.1
 rcases hown.2 with ⟨_, h0⟩ | ⟨b, cap, cur, rfl, hbb, hB, hnc, hcm, hcs, htake⟩
 ·omega
 ·obtain ⟨C, rfl⟩ : ∃ C : List Value, cur = C.toArray := ⟨cur.toList, by simp⟩
  simp only [List.size_toArray] at hcs
  have htk : C.take ((N + 1) * 5) = xs := by simpa using htake
  have hX1 : C.take (i * 5) = xs.take (i * 5) := by rw [← htk, List.take_take, Nat.min_eq_left (Nat.mul_le_mul_right _ (by omega))]
  have hX2l : (xs.drop ((i + 1) * 5)).length = (N - i) * 5 := by rw [List.length_drop, hxl, ← Nat.sub_mul]; congr 1; omega
  have hX2c : ∀ j u, (xs.drop ((i + 1) * 5))[j]? = some u → C[(i + 1) * 5 + j]? = some u := fun j u hj => by
   rw [List.getElem?_drop, ← htk, List.getElem?_take] at hj
   split at hj
   ·exact hj
   ·cases hj
  have hX21 : ∀ u ∈ xs.drop ((i + 1) * 5), u.oneCell' = true := fun u hu => hx1 u (List.mem_of_mem_drop hu)
  obtain ⟨X2, hX2⟩ : ∃ X2, xs.drop ((i + 1) * 5) = X2 := ⟨_, rfl⟩
  rw [hX2] at hX2l hX2c hX21 ⊢
  rw [← hX1]
  have hOB : (Value.slice (some ⟨b, 0, none⟩) (N + 1) cap).ownBlock = some b := rfl
  rw [hOB]
  clear hOB
  have c1 : (i : Int) ≤ N := by omega
  have c2 : ¬ ((i : Int) = (i : Int) + 1) := by omega
  have c3 : ¬ (cap = N) := by omega
  have c4 : ¬ (cap = i) := by omega
  have hcm' : cap ≤ 9223372036854775807 := by unfold maxLen at hcm; omega
  have b2 : (N : Int) ≤ 1000 := by omega
  have t1 : ((i : Int) + 1).toNat = i + 1 := by omega
  have t2 : ((N : Int) + 1).toNat = N + 1 := by omega
  have p1 : (0 : Int) ≤ (i : Int) + 1 := by omega
  have hBB : Block w b 26 C := hB
  have hz1c : ∀ u ∈ (Value.cells (.agg #[.int .i64 0, .int .i64 0, .int .i64 0, .int .i64 0, .int .i64 0])).toList, u.oneCell' = true := by simp [Value.cells]; try decide
  have h0z : 0 < 5 := by omega
  have HB := hid hBB
  have HCS := hid hcs
  have HX2l := hid hX2l
  have HX2c := hid hX2c
  have HX21 := hid hX21
  have HCM := hid hcm
  have HBB := hid hbb
  have HBW := hid hbase
  have HNC : Hid ((N + 1) * 5 ≤ cap * 5) := Nat.mul_le_mul_right _ hnc
  clear hown hxl hx1 htake htk hX1 hX2 hX2l hX2c hX21 hB hBB hcs hcm hbb hbase
  subst hi
  go_enter Tryz.func94, Tryz.ntmps94
  go_wp2_with (at_builtin; refine wpList_append_inN rfl _ _ 30 rfl 26 i0 5 Tryz.underlying30 hi0 hz1 b _ _ rfl C HB.out _ 0 _ rfl [] rfl (fun h => absurd h (by omega)) (by simp) (by omega) (by rw [HCS.out]; have := HNC.out; simp; omega) ?_)
  intro w3 h3
  have hB3 : Block w3 b 26 C := by simpa [splice] using h3.out.1
  have HB3 := hid hB3
  clear hB3
  go_wp2_with (refine wpList_clearN rfl _ 30 rfl 26 i0 _ 5 Tryz.underlying30 hi0 hz0 (by simp [Value.cells]) hz1c h0z _ 1 _ rfl b (i * 5) C 26 HB3.out (fun _ => by simp) (by rw [HCS.out]; have := HNC.out; omega) ?_)
  intro Z w4 h4
  go_wp2
  go_ret
  have e2 : X2 = [] := List.eq_nil_of_length_eq_zero (by rw [HX2l.out]; omega)
  subst e2
  refine ⟨_, rfl, own_of h4.out.2.1 HBB.out (by omega) HCM.out (by rw [length_splice _ _ _ (by rw [HCS.out, h4.out.1]; have := HNC.out; omega), HCS.out]) (by have := splice_head C (i * 5) Z (i * 5) (Nat.le_refl _) (by rw [HCS.out]; have := HNC.out; omega); simpa using this), ?_⟩
  exact grown_of_but (v := .slice (some ⟨b, 0, none⟩) i cap) (But.trans h3.out.2.1 (h4.out.2.2.1.mono (by have := h3.out.2.2; omega))) rfl
set_option maxHeartbeats 1600000 in
set_option maxRecDepth 20000 in
theorem replaceF_1end (base N i g vc : Nat) (gC : List Value) (gt : TypeId) (v : Value) (xs news : List Value) (w : World) (hown : w.ownsRow base 26 5 v (N + 1) xs) (hbase : base ≤ w.heap.size) (hi : i = N)
  (hl : news.length = 1 * 5) (hG : Block w g gt gC) (hgo : 1 * 5 ≤ gC.length) (hgv : v.ownBlock ≠ some g) (hnews : ∀ (j : Nat) (u : Value), news[j]? = some u → gC[j]? = some u) (h1 : ∀ u ∈ news, u.oneCell' = true) (hx1 : ∀ u ∈ xs, u.oneCell' = true) (hn : N ≤ 1000) :
  Calls Tryz.prog 94 #[v, .int .i64 i, .int .i64 ((i : Int) + 1), .slice (some ⟨g, 0, none⟩) 1 vc] w (MadeF base v.ownBlock (N + 1) (xs.take (i * 5) ++ (news ++ xs.drop ((i + 1) * 5))) w) := by
 obtain ⟨i0, hi0, hz0, hz1, hz2⟩ := fd_info_parts
 have hxl := hown.1
 rcases hown.2 with ⟨_, h0⟩ | ⟨b, cap, cur, rfl, hbb, hB, hnc, hcm, hcs, htake⟩
 ·omega
 ·obtain ⟨C, rfl⟩ : ∃ C : List Value, cur = C.toArray := ⟨cur.toList, by simp⟩
  simp only [List.size_toArray] at hcs
  have htk : C.take ((N + 1) * 5) = xs := by simpa using htake
  have hbg : g ≠ b := by intro h; subst h; exact hgv rfl
  have hX1 : C.take (i * 5) = xs.take (i * 5) := by rw [← htk, List.take_take, Nat.min_eq_left (Nat.mul_le_mul_right _ (by omega))]
  have hX2l : (xs.drop ((i + 1) * 5)).length = (N - i) * 5 := by rw [List.length_drop, hxl, ← Nat.sub_mul]; congr 1; omega
  have hX2c : ∀ j u, (xs.drop ((i + 1) * 5))[j]? = some u → C[(i + 1) * 5 + j]? = some u := fun j u hj => by
   rw [List.getElem?_drop, ← htk, List.getElem?_take] at hj
   split at hj
   ·exact hj
   ·cases hj
  have hX21 : ∀ u ∈ xs.drop ((i + 1) * 5), u.oneCell' = true := fun u hu => hx1 u (List.mem_of_mem_drop hu)
  obtain ⟨X2, hX2⟩ : ∃ X2, xs.drop ((i + 1) * 5) = X2 := ⟨_, rfl⟩
  rw [hX2] at hX2l hX2c hX21 ⊢
  rw [← hX1]
  have hOB : (Value.slice (some ⟨b, 0, none⟩) (N + 1) cap).ownBlock = some b := rfl
  rw [hOB]
  clear hOB
  have c1 : (i : Int) ≤ N := by omega
  have c2 : ¬ ((i : Int) = (i : Int) + 1) := by omega
  have c3 : ¬ (cap = N) := by omega
  have c4 : ¬ (cap = i) := by omega
  have hcm' : cap ≤ 9223372036854775807 := by unfold maxLen at hcm; omega
  have b2 : (N : Int) ≤ 1000 := by omega
  have t1 : ((i : Int) + 1).toNat = i + 1 := by omega
  have t2 : ((N : Int) + 1).toNat = N + 1 := by omega
  have p1 : (0 : Int) ≤ (i : Int) + 1 := by omega
  have hBB : Block w b 26 C := hB
  have hz1c : ∀ u ∈ (Value.cells (.agg #[.int .i64 0, .int .i64 0, .int .i64 0, .int .i64 0, .int .i64 0])).toList, u.oneCell' = true := by simp [Value.cells]; try decide
  have h0z : 0 < 5 := by omega
  have HB := hid hBB
  have HCS := hid hcs
  have HX2l := hid hX2l
  have HX2c := hid hX2c
  have HX21 := hid hX21
  have HCM := hid hcm
  have HBB := hid hbb
  have HBW := hid hbase
  have HNC : Hid ((N + 1) * 5 ≤ cap * 5) := Nat.mul_le_mul_right _ hnc
  have HG := hid hG
  have HL := hid hl
  have HNW := hid hnews
  have HGO := hid hgo
  have H1 := hid h1
  have HLG := hid hG.lt
  clear hown hxl hx1 htake htk hX1 hX2 hX2l hX2c hX21 hB hBB hcs hcm hbb hbase hG hl hnews hgo h1 hgv
  subst hi
  go_enter Tryz.func94, Tryz.ntmps94
  go_wp2_with (at_builtin; refine wpList_append_fromN rfl _ _ 30 rfl base 26 i0 _ 5 40 Tryz.underlying30 hi0 hz0 hz1 hz2 (by simp [Value.cells]) (by omega) _ i (C.take (i * 5)) rfl (own_of HB.out HBB.out (by omega) HCM.out HCS.out rfl) (some ⟨g, 0, none⟩) 1 vc news rfl HL.out (.inr ⟨_, rfl, fun j u hj => by rw [Addr.add_lit, Nat.zero_add, HG.out.cell]; exact HNW.out j u hj⟩) H1.out (by unfold maxLen; omega) (by omega) HBW.out ?_)
  intro v' w3 ho hg
  obtain ⟨q, qc, rfl, hqc⟩ := ownsRow_slice ho
  have HO := hid ho
  have HGR := hid hg
  have d1 : decide ((i : Int) + 1 < (i : Int) + 1) = false := by simp
  have d2 : ¬ ((i : Int) + 1 < (i : Int) + 1) := by omega
  clear ho hg
  go_wp2
  go_ret
  have e2 : X2 = [] := List.eq_nil_of_length_eq_zero (by rw [HX2l.out]; omega)
  subst e2
  refine ⟨_, rfl, by simpa using HO.out, HGR.out⟩
set_option maxHeartbeats 1600000 in
set_option maxRecDepth 20000 in
theorem replaceF_2end (base N i g vc : Nat) (gC : List Value) (gt : TypeId) (v : Value) (xs news : List Value) (w : World) (hown : w.ownsRow base 26 5 v (N + 1) xs) (hbase : base ≤ w.heap.size) (hi : i = N)
  (hl : news.length = 2 * 5) (hG : Block w g gt gC) (hgo : 2 * 5 ≤ gC.length) (hgv : v.ownBlock ≠ some g) (hnews : ∀ (j : Nat) (u : Value), news[j]? = some u → gC[j]? = some u) (h1 : ∀ u ∈ news, u.oneCell' = true) (hx1 : ∀ u ∈ xs, u.oneCell' = true) (hn : N ≤ 1000) :
  Calls Tryz.prog 94 #[v, .int .i64 i, .int .i64 ((i : Int) + 1), .slice (some ⟨g, 0, none⟩) 2 vc] w (MadeF base v.ownBlock (N + 2) (xs.take (i * 5) ++ (news ++ xs.drop ((i + 1) * 5))) w) := by
 obtain ⟨i0, hi0, hz0, hz1, hz2⟩ := fd_info_parts
 have hxl := hown.1
 rcases hown.2 with ⟨_, h0⟩ | ⟨b, cap, cur, rfl, hbb, hB, hnc, hcm, hcs, htake⟩
 ·omega
 ·obtain ⟨C, rfl⟩ : ∃ C : List Value, cur = C.toArray := ⟨cur.toList, by simp⟩
  simp only [List.size_toArray] at hcs
  have htk : C.take ((N + 1) * 5) = xs := by simpa using htake
  have hbg : g ≠ b := by intro h; subst h; exact hgv rfl
  have hX1 : C.take (i * 5) = xs.take (i * 5) := by rw [← htk, List.take_take, Nat.min_eq_left (Nat.mul_le_mul_right _ (by omega))]
  have hX2l : (xs.drop ((i + 1) * 5)).length = (N - i) * 5 := by rw [List.length_drop, hxl, ← Nat.sub_mul]; congr 1; omega
  have hX2c : ∀ j u, (xs.drop ((i + 1) * 5))[j]? = some u → C[(i + 1) * 5 + j]? = some u := fun j u hj => by
   rw [List.getElem?_drop, ← htk, List.getElem?_take] at hj
   split at hj
   ·exact hj
   ·cases hj
  have hX21 : ∀ u ∈ xs.drop ((i + 1) * 5), u.oneCell' = true := fun u hu => hx1 u (List.mem_of_mem_drop hu)
  obtain ⟨X2, hX2⟩ : ∃ X2, xs.drop ((i + 1) * 5) = X2 := ⟨_, rfl⟩
  rw [hX2] at hX2l hX2c hX21 ⊢
  rw [← hX1]
  have hOB : (Value.slice (some ⟨b, 0, none⟩) (N + 1) cap).ownBlock = some b := rfl
  rw [hOB]
  clear hOB
  have c1 : (i : Int) ≤ N := by omega
  have c2 : ¬ ((i : Int) = (i : Int) + 1) := by omega
  have c3 : ¬ (cap = N) := by omega
  have c4 : ¬ (cap = i) := by omega
  have hcm' : cap ≤ 9223372036854775807 := by unfold maxLen at hcm; omega
  have b2 : (N : Int) ≤ 1000 := by omega
  have t1 : ((i : Int) + 1).toNat = i + 1 := by omega
  have t2 : ((N : Int) + 1).toNat = N + 1 := by omega
  have p1 : (0 : Int) ≤ (i : Int) + 1 := by omega
  have hBB : Block w b 26 C := hB
  have hz1c : ∀ u ∈ (Value.cells (.agg #[.int .i64 0, .int .i64 0, .int .i64 0, .int .i64 0, .int .i64 0])).toList, u.oneCell' = true := by simp [Value.cells]; try decide
  have h0z : 0 < 5 := by omega
  have HB := hid hBB
  have HCS := hid hcs
  have HX2l := hid hX2l
  have HX2c := hid hX2c
  have HX21 := hid hX21
  have HCM := hid hcm
  have HBB := hid hbb
  have HBW := hid hbase
  have HNC : Hid ((N + 1) * 5 ≤ cap * 5) := Nat.mul_le_mul_right _ hnc
  have HG := hid hG
  have HL := hid hl
  have HNW := hid hnews
  have HGO := hid hgo
  have H1 := hid h1
  have HLG := hid hG.lt
  clear hown hxl hx1 htake htk hX1 hX2 hX2l hX2c hX21 hB hBB hcs hcm hbb hbase hG hl hnews hgo h1 hgv
  subst hi
  go_enter Tryz.func94, Tryz.ntmps94
  go_wp2_with (at_builtin; refine wpList_append_fromN rfl _ _ 30 rfl base 26 i0 _ 5 40 Tryz.underlying30 hi0 hz0 hz1 hz2 (by simp [Value.cells]) (by omega) _ i (C.take (i * 5)) rfl (own_of HB.out HBB.out (by omega) HCM.out HCS.out rfl) (some ⟨g, 0, none⟩) 2 vc news rfl HL.out (.inr ⟨_, rfl, fun j u hj => by rw [Addr.add_lit, Nat.zero_add, HG.out.cell]; exact HNW.out j u hj⟩) H1.out (by unfold maxLen; omega) (by omega) HBW.out ?_)
  intro v' w3 ho hg
  obtain ⟨q, qc, rfl, hqc⟩ := ownsRow_slice ho
  have HO := hid ho
  have HGR := hid hg
  have d1 : decide ((i : Int) + 2 < (i : Int) + 1) = false := by simp
  have d2 : ¬ ((i : Int) + 2 < (i : Int) + 1) := by omega
  clear ho hg
  go_wp2
  go_ret
  have e2 : X2 = [] := List.eq_nil_of_length_eq_zero (by rw [HX2l.out]; omega)
  subst e2
  refine ⟨_, rfl, by simpa using HO.out, HGR.out⟩
set_option maxHeartbeats 1600000 in
set_option maxRecDepth 20000 in
theorem replaceF_0mid (base N i : Nat) (v : Value) (xs : List Value) (w : World) (hown : w.ownsRow base 26 5 v (N + 1) xs) (hbase : base ≤ w.heap.size) (hi : i < N)
  (hx1 : ∀ u ∈ xs, u.oneCell' = true) (hn : N ≤ 1000) :
  Calls Tryz.prog 94 #[v, .int .i64 i, .int .i64 ((i : Int) + 1), .slice none 0 0] w (MadeF base v.ownBlock (N + 0) (xs.take (i * 5) ++ ([] ++ xs.drop ((i + 1) * 5))) w) := by
 obtain ⟨i0, hi0, hz0, hz1, hz2⟩ := fd_info_parts
 have hxl := hown.1
 rcases hown.2 with ⟨_, h0⟩ | ⟨b, cap, cur, rfl, hbb, hB, hnc, hcm, hcs, htake⟩
 ·omega
 ·obtain ⟨C, rfl⟩ : ∃ C : List Value, cur = C.toArray := ⟨cur.toList, by simp⟩
  simp only [List.size_toArray] at hcs
  have htk : C.take ((N + 1) * 5) = xs := by simpa using htake
  have hX1 : C.take (i * 5) = xs.take (i * 5) := by rw [← htk, List.take_take, Nat.min_eq_left (Nat.mul_le_mul_right _ (by omega))]
  have hX2l : (xs.drop ((i + 1) * 5)).length = (N - i) * 5 := by rw [List.length_drop, hxl, ← Nat.sub_mul]; congr 1; omega
  have hX2c : ∀ j u, (xs.drop ((i + 1) * 5))[j]? = some u → C[(i + 1) * 5 + j]? = some u := fun j u hj => by
   rw [List.getElem?_drop, ← htk, List.getElem?_take] at hj
   split at hj
   ·exact hj
   ·cases hj
  have hX21 : ∀ u ∈ xs.drop ((i + 1) * 5), u.oneCell' = true := fun u hu => hx1 u (List.mem_of_mem_drop hu)
  obtain ⟨X2, hX2⟩ : ∃ X2, xs.drop ((i + 1) * 5) = X2 := ⟨_, rfl⟩
  rw [hX2] at hX2l hX2c hX21 ⊢
  rw [← hX1]
  have hOB : (Value.slice (some ⟨b, 0, none⟩) (N + 1) cap).ownBlock = some b := rfl
  rw [hOB]
  clear hOB
  have c1 : (i : Int) ≤ N := by omega
  have c2 : ¬ ((i : Int) = (i : Int) + 1) := by omega
  have c3 : ¬ (cap = N) := by omega
  have c4 : ¬ (cap = i) := by omega
  have hcm' : cap ≤ 9223372036854775807 := by unfold maxLen at hcm; omega
  have b2 : (N : Int) ≤ 1000 := by omega
  have t1 : ((i : Int) + 1).toNat = i + 1 := by omega
  have t2 : ((N : Int) + 1).toNat = N + 1 := by omega
  have p1 : (0 : Int) ≤ (i : Int) + 1 := by omega
  have hBB : Block w b 26 C := hB
  have hz1c : ∀ u ∈ (Value.cells (.agg #[.int .i64 0, .int .i64 0, .int .i64 0, .int .i64 0, .int .i64 0])).toList, u.oneCell' = true := by simp [Value.cells]; try decide
  have h0z : 0 < 5 := by omega
  have HB := hid hBB
  have HCS := hid hcs
  have HX2l := hid hX2l
  have HX2c := hid hX2c
  have HX21 := hid hX21
  have HCM := hid hcm
  have HBB := hid hbb
  have HBW := hid hbase
  have HNC : Hid ((N + 1) * 5 ≤ cap * 5) := Nat.mul_le_mul_right _ hnc
  clear hown hxl hx1 htake htk hX1 hX2 hX2l hX2c hX21 hB hBB hcs hcm hbb hbase
  have c5 : ¬ (cap = i + 1) := by omega
  have c6 : ¬ ((i : Int) + 1 = (N : Int) + 1) := by omega
  go_enter Tryz.func94, Tryz.ntmps94
  go_wp2
  refine tail.region 12 (by kernel_rfl) (by kernel_rfl) ?_
  simp only [List.take_succ_cons, List.take_zero, List.drop_succ_cons, List.drop_zero]
  repeat (go_big_quiet_step (fail))
  refine wpQuiet_nil ?_
  rintro _ ⟨nq, rfl⟩
  rw [show (i : Int) + ((N - i : Nat) : Int) = (N : Int) by omega]
  go_wp2_with (refine wpList_copyN rfl _ _ 30 30 rfl 26 i0 5 Tryz.underlying30 hi0 hz1 _ _ _ _ _ _ rfl rfl b (i * 5) C 26 (HB.out.drewN nq) 0 (by simp only [Nat.min_def]; split <;> omega) [] rfl (fun h => absurd h (by omega)) (by rw [HCS.out]; have := HNC.out; simp; omega) (by simp) ?_)
  intro w3 h3
  have hB3 : Block w3 b 26 C := by simpa [splice] using h3.out.1
  have HB3 := hid hB3
  have hs3 := h3.out.2.2
  clear hB3
  go_wp2
  refine tail.region 9 (by kernel_rfl) (by kernel_rfl) ?_
  simp only [List.take_succ_cons, List.take_zero, List.drop_succ_cons, List.drop_zero]
  repeat (go_big_quiet_step (fail))
  refine wpQuiet_nil ?_
  rintro _ ⟨nr, rfl⟩
  refine wpList_copyN rfl _ _ 30 30 rfl 26 i0 5 Tryz.underlying30 hi0 hz1 _ _ _ _ _ _ rfl rfl b (i * 5) C 26 (HB3.out.drewN nr) (N - i) (by simp only [Nat.min_def]; split <;> omega) X2 HX2l.out (fun _ => ⟨rfl, ⟨b, (i + 1) * 5, none⟩, rfl, fun j u hj => by rw [Addr.add_lit, (HB3.out.drewN nr).cell]; exact HX2c.out j u hj⟩) (by rw [HX2l.out, HCS.out]; have := HNC.out; omega) HX21.out ?_
  intro w4 h4
  have hs4 := h4.out.2.2
  have HL4 : Hid ((splice C (i * 5) X2).length = cap * 5) := hid (by rw [length_splice _ _ _ (by rw [HX2l.out, HCS.out]; have := HNC.out; omega), HCS.out])
  go_wp2_with (refine wpList_clearN rfl _ 30 rfl 26 i0 _ 5 Tryz.underlying30 hi0 hz0 (by simp [Value.cells]) hz1c h0z _ 1 _ rfl b (N * 5) (splice C (i * 5) X2) 26 h4.out.1 (fun _ => by simp) (by rw [HL4.out]; have := HNC.out; omega) ?_)
  intro Z w5 h5
  go_wp2
  go_ret
  have hl2 : (splice (splice C (i * 5) X2) (N * 5) Z).take (N * 5) = C.take (i * 5) ++ X2 := by
   rw [splice_head _ _ _ _ (Nat.le_refl _) (by rw [HL4.out]; have := HNC.out; omega)]
   have := splice_take C (i * 5) X2 (by rw [HCS.out]; have := HNC.out; omega)
   rw [HX2l.out, ← Nat.add_mul, show i + (N - i) = N by omega] at this
   exact this
  refine ⟨_, rfl, own_of h5.out.2.1 HBB.out (by omega) HCM.out (by rw [length_splice _ _ _ (by rw [HL4.out, h5.out.1]; have := HNC.out; omega), HL4.out]) (by simpa using hl2), ?_⟩
  exact grown_of_but (v := .slice (some ⟨b, 0, none⟩) N cap) (But.trans (But.drewN h3.out.2.1 0) (But.trans (But.drewN (h4.out.2.1.mono (by simp at hs3 ⊢; omega)) 0) (h5.out.2.2.1.mono (by simp at hs3 hs4 ⊢ <;> omega)))) rfl
set_option maxHeartbeats 1600000 in
set_option maxRecDepth 20000 in
theorem replaceF_1mid (base N i g vc : Nat) (gC : List Value) (gt : TypeId) (v : Value) (xs news : List Value) (w : World) (hown : w.ownsRow base 26 5 v (N + 1) xs) (hbase : base ≤ w.heap.size) (hi : i < N)
  (hl : news.length = 1 * 5) (hG : Block w g gt gC) (hgo : 1 * 5 ≤ gC.length) (hgv : v.ownBlock ≠ some g) (hnews : ∀ (j : Nat) (u : Value), news[j]? = some u → gC[j]? = some u) (h1 : ∀ u ∈ news, u.oneCell' = true) (hx1 : ∀ u ∈ xs, u.oneCell' = true) (hn : N ≤ 1000) :
  Calls Tryz.prog 94 #[v, .int .i64 i, .int .i64 ((i : Int) + 1), .slice (some ⟨g, 0, none⟩) 1 vc] w (MadeF base v.ownBlock (N + 1) (xs.take (i * 5) ++ (news ++ xs.drop ((i + 1) * 5))) w) := by
 obtain ⟨i0, hi0, hz0, hz1, hz2⟩ := fd_info_parts
 have hxl := hown.1
 rcases hown.2 with ⟨_, h0⟩ | ⟨b, cap, cur, rfl, hbb, hB, hnc, hcm, hcs, htake⟩
 ·omega
 ·obtain ⟨C, rfl⟩ : ∃ C : List Value, cur = C.toArray := ⟨cur.toList, by simp⟩
  simp only [List.size_toArray] at hcs
  have htk : C.take ((N + 1) * 5) = xs := by simpa using htake
  have hbg : g ≠ b := by intro h; subst h; exact hgv rfl
  have hX1 : C.take (i * 5) = xs.take (i * 5) := by rw [← htk, List.take_take, Nat.min_eq_left (Nat.mul_le_mul_right _ (by omega))]
  have hX2l : (xs.drop ((i + 1) * 5)).length = (N - i) * 5 := by rw [List.length_drop, hxl, ← Nat.sub_mul]; congr 1; omega
  have hX2c : ∀ j u, (xs.drop ((i + 1) * 5))[j]? = some u → C[(i + 1) * 5 + j]? = some u := fun j u hj => by
   rw [List.getElem?_drop, ← htk, List.getElem?_take] at hj
   split at hj
   ·exact hj
   ·cases hj
  have hX21 : ∀ u ∈ xs.drop ((i + 1) * 5), u.oneCell' = true := fun u hu => hx1 u (List.mem_of_mem_drop hu)
  obtain ⟨X2, hX2⟩ : ∃ X2, xs.drop ((i + 1) * 5) = X2 := ⟨_, rfl⟩
  rw [hX2] at hX2l hX2c hX21 ⊢
  rw [← hX1]
  have hOB : (Value.slice (some ⟨b, 0, none⟩) (N + 1) cap).ownBlock = some b := rfl
  rw [hOB]
  clear hOB
  have c1 : (i : Int) ≤ N := by omega
  have c2 : ¬ ((i : Int) = (i : Int) + 1) := by omega
  have c3 : ¬ (cap = N) := by omega
  have c4 : ¬ (cap = i) := by omega
  have hcm' : cap ≤ 9223372036854775807 := by unfold maxLen at hcm; omega
  have b2 : (N : Int) ≤ 1000 := by omega
  have t1 : ((i : Int) + 1).toNat = i + 1 := by omega
  have t2 : ((N : Int) + 1).toNat = N + 1 := by omega
  have p1 : (0 : Int) ≤ (i : Int) + 1 := by omega
  have hBB : Block w b 26 C := hB
  have hz1c : ∀ u ∈ (Value.cells (.agg #[.int .i64 0, .int .i64 0, .int .i64 0, .int .i64 0, .int .i64 0])).toList, u.oneCell' = true := by simp [Value.cells]; try decide
  have h0z : 0 < 5 := by omega
  have HB := hid hBB
  have HCS := hid hcs
  have HX2l := hid hX2l
  have HX2c := hid hX2c
  have HX21 := hid hX21
  have HCM := hid hcm
  have HBB := hid hbb
  have HBW := hid hbase
  have HNC : Hid ((N + 1) * 5 ≤ cap * 5) := Nat.mul_le_mul_right _ hnc
  have HG := hid hG
  have HL := hid hl
  have HNW := hid hnews
  have HGO := hid hgo
  have H1 := hid h1
  have HLG := hid hG.lt
  clear hown hxl hx1 htake htk hX1 hX2 hX2l hX2c hX21 hB hBB hcs hcm hbb hbase hG hl hnews hgo h1 hgv
  have c5 : ¬ (cap = i + 1) := by omega
  have c6 : ¬ ((i : Int) + 1 = (N : Int) + 1) := by omega
  by_cases c7 : N + 1 = cap
  ·subst c7
   go_enter Tryz.func94, Tryz.ntmps94
   go_wp2
   refine tail.region 12 (by kernel_rfl) (by kernel_rfl) ?_
   simp only [List.take_succ_cons, List.take_zero, List.drop_succ_cons, List.drop_zero]
   repeat (go_big_quiet_step (fail))
   refine wpQuiet_nil ?_
   rintro _ ⟨nq, rfl⟩
   rw [show (i : Int) + 1 + ((N - i : Nat) : Int) = (N : Int) + 1 by omega]
   go_wp2_with (refine wpList_copyN rfl _ _ 30 30 rfl 26 i0 5 Tryz.underlying30 hi0 hz1 _ _ _ _ _ _ rfl rfl b (i * 5) C 26 (HB.out.drewN nq) 1 (by simp only [Nat.min_def]; split <;> omega) news HL.out (fun _ => ⟨rfl, ⟨g, 0, none⟩, rfl, fun j u hj => by rw [Addr.add_lit, Nat.zero_add, (HG.out.drewN nq).cell]; exact HNW.out j u hj⟩) (by rw [HL.out, HCS.out]; have := HNC.out; omega) H1.out ?_)
   intro w3 h3
   have hs3 := h3.out.2.2
   have HL3 : Hid ((splice C (i * 5) news).length = (N + 1) * 5) := hid (by rw [length_splice _ _ _ (by rw [HL.out, HCS.out]; have := HNC.out; omega), HCS.out])
   have HX3 : Hid (∀ (j : Nat) (u : Value), X2[j]? = some u → (splice C (i * 5) news)[(i + 1) * 5 + j]? = some u) := hid (fun j u hj => by
    have e := splice_drop C (i * 5) news (by rw [HCS.out]; have := HNC.out; omega)
    have e2 : (splice C (i * 5) news).drop ((i + 1) * 5) = C.drop ((i + 1) * 5) := by
     rw [show (i + 1) * 5 = i * 5 + 5 by omega, ← List.drop_drop, e, List.drop_append_of_le_length (by rw [HL.out]; omega), List.drop_of_length_le (by rw [HL.out]; omega), HL.out]
     simp
    have := HX2c.out j u hj
    rw [← List.getElem?_drop] at this ⊢
    rw [e2]; exact this)
   go_wp2
   refine tail.region 9 (by kernel_rfl) (by kernel_rfl) ?_
   simp only [List.take_succ_cons, List.take_zero, List.drop_succ_cons, List.drop_zero]
   repeat (go_big_quiet_step (fail))
   refine wpQuiet_nil ?_
   rintro _ ⟨nr, rfl⟩
   refine wpList_copyN rfl _ _ 30 30 rfl 26 i0 5 Tryz.underlying30 hi0 hz1 _ _ _ _ _ _ rfl rfl b ((i + 1) * 5) (splice C (i * 5) news) 26 (h3.out.1.drewN nr) (N - i) (by simp only [Nat.min_def]; split <;> omega) X2 HX2l.out (fun _ => ⟨rfl, ⟨b, (i + 1) * 5, none⟩, rfl, fun j u hj => by rw [Addr.add_lit, (h3.out.1.drewN nr).cell]; exact HX3.out j u hj⟩) (by rw [HX2l.out, HL3.out]; have := HNC.out; omega) HX21.out ?_
   intro w4 h4
   have hs4 := h4.out.2.2
   have HL4 : Hid ((splice (splice C (i * 5) news) ((i + 1) * 5) X2).length = (N + 1) * 5) := hid (by rw [length_splice _ _ _ (by rw [HX2l.out, HL3.out]; have := HNC.out; omega), HL3.out])
   go_wp2_with (refine wpList_clearN rfl _ 30 rfl 26 i0 _ 5 Tryz.underlying30 hi0 hz0 (by simp [Value.cells]) hz1c h0z _ 0 _ rfl b 0 (splice (splice C (i * 5) news) ((i + 1) * 5) X2) 26 h4.out.1 (fun h => absurd h (by omega)) (by omega) ?_)
   intro Z w5 h5
   have hB5 : Block w5 b 26 (splice (splice C (i * 5) news) ((i + 1) * 5) X2) := by
    have e1 := h5.out.1
    have e2 := h5.out.2.1
    obtain rfl : Z = [] := List.eq_nil_of_length_eq_zero (by simpa using e1)
    simpa [splice] using e2
   have HB5 := hid hB5
   clear hB5
   go_wp2
   go_ret
   have hl2 := two' C (i * 5) news X2 (by rw [HL.out, HX2l.out, HCS.out]; have := HNC.out; omega)
   rw [HL.out, HX2l.out, show i * 5 + 1 * 5 = (i + 1) * 5 by omega, show (i + 1) * 5 + (N - i) * 5 = (N + 1) * 5 by omega, List.append_assoc] at hl2
   refine ⟨_, rfl, own_of HB5.out HBB.out (by omega) HCM.out HL4.out hl2, ?_⟩
   exact grown_of_but (v := .slice (some ⟨b, 0, none⟩) N (N + 1)) (But.trans (But.drewN h3.out.2.1 0) (But.trans (But.drewN (h4.out.2.1.mono (by simp at hs3 ⊢ <;> omega)) 0) (h5.out.2.2.1.mono (by simp at hs3 hs4 ⊢ <;> omega)))) rfl
  ·have c8 : ¬ (cap = N + 1) := by omega
   go_enter Tryz.func94, Tryz.ntmps94
   go_wp2
   refine tail.region 12 (by kernel_rfl) (by kernel_rfl) ?_
   simp only [List.take_succ_cons, List.take_zero, List.drop_succ_cons, List.drop_zero]
   repeat (go_big_quiet_step (fail))
   refine wpQuiet_nil ?_
   rintro _ ⟨nq, rfl⟩
   rw [show (i : Int) + 1 + ((N - i : Nat) : Int) = (N : Int) + 1 by omega]
   go_wp2_with (refine wpList_copyN rfl _ _ 30 30 rfl 26 i0 5 Tryz.underlying30 hi0 hz1 _ _ _ _ _ _ rfl rfl b (i * 5) C 26 (HB.out.drewN nq) 1 (by simp only [Nat.min_def]; split <;> omega) news HL.out (fun _ => ⟨rfl, ⟨g, 0, none⟩, rfl, fun j u hj => by rw [Addr.add_lit, Nat.zero_add, (HG.out.drewN nq).cell]; exact HNW.out j u hj⟩) (by rw [HL.out, HCS.out]; have := HNC.out; omega) H1.out ?_)
   intro w3 h3
   have hs3 := h3.out.2.2
   have HL3 : Hid ((splice C (i * 5) news).length = cap * 5) := hid (by rw [length_splice _ _ _ (by rw [HL.out, HCS.out]; have := HNC.out; omega), HCS.out])
   have HX3 : Hid (∀ (j : Nat) (u : Value), X2[j]? = some u → (splice C (i * 5) news)[(i + 1) * 5 + j]? = some u) := hid (fun j u hj => by
    have e := splice_drop C (i * 5) news (by rw [HCS.out]; have := HNC.out; omega)
    have e2 : (splice C (i * 5) news).drop ((i + 1) * 5) = C.drop ((i + 1) * 5) := by
     rw [show (i + 1) * 5 = i * 5 + 5 by omega, ← List.drop_drop, e, List.drop_append_of_le_length (by rw [HL.out]; omega), List.drop_of_length_le (by rw [HL.out]; omega), HL.out]
     simp
    have := HX2c.out j u hj
    rw [← List.getElem?_drop] at this ⊢
    rw [e2]; exact this)
   go_wp2
   refine tail.region 9 (by kernel_rfl) (by kernel_rfl) ?_
   simp only [List.take_succ_cons, List.take_zero, List.drop_succ_cons, List.drop_zero]
   repeat (go_big_quiet_step (fail))
   refine wpQuiet_nil ?_
   rintro _ ⟨nr, rfl⟩
   refine wpList_copyN rfl _ _ 30 30 rfl 26 i0 5 Tryz.underlying30 hi0 hz1 _ _ _ _ _ _ rfl rfl b ((i + 1) * 5) (splice C (i * 5) news) 26 (h3.out.1.drewN nr) (N - i) (by simp only [Nat.min_def]; split <;> omega) X2 HX2l.out (fun _ => ⟨rfl, ⟨b, (i + 1) * 5, none⟩, rfl, fun j u hj => by rw [Addr.add_lit, (h3.out.1.drewN nr).cell]; exact HX3.out j u hj⟩) (by rw [HX2l.out, HL3.out]; have := HNC.out; omega) HX21.out ?_
   intro w4 h4
   have hs4 := h4.out.2.2
   have HL4 : Hid ((splice (splice C (i * 5) news) ((i + 1) * 5) X2).length = cap * 5) := hid (by rw [length_splice _ _ _ (by rw [HX2l.out, HL3.out]; have := HNC.out; omega), HL3.out])
   go_wp2_with (refine wpList_clearN rfl _ 30 rfl 26 i0 _ 5 Tryz.underlying30 hi0 hz0 (by simp [Value.cells]) hz1c h0z _ 0 _ rfl b 0 (splice (splice C (i * 5) news) ((i + 1) * 5) X2) 26 h4.out.1 (fun h => absurd h (by omega)) (by omega) ?_)
   intro Z w5 h5
   have hB5 : Block w5 b 26 (splice (splice C (i * 5) news) ((i + 1) * 5) X2) := by
    have e1 := h5.out.1
    have e2 := h5.out.2.1
    obtain rfl : Z = [] := List.eq_nil_of_length_eq_zero (by simpa using e1)
    simpa [splice] using e2
   have HB5 := hid hB5
   clear hB5
   go_wp2
   go_ret
   have hl2 := two' C (i * 5) news X2 (by rw [HL.out, HX2l.out, HCS.out]; have := HNC.out; omega)
   rw [HL.out, HX2l.out, show i * 5 + 1 * 5 = (i + 1) * 5 by omega, show (i + 1) * 5 + (N - i) * 5 = (N + 1) * 5 by omega, List.append_assoc] at hl2
   refine ⟨_, rfl, own_of HB5.out HBB.out (by omega) HCM.out HL4.out hl2, ?_⟩
   exact grown_of_but (v := .slice (some ⟨b, 0, none⟩) N cap) (But.trans (But.drewN h3.out.2.1 0) (But.trans (But.drewN (h4.out.2.1.mono (by simp at hs3 ⊢ <;> omega)) 0) (h5.out.2.2.1.mono (by simp at hs3 hs4 ⊢ <;> omega)))) rfl
set_option maxHeartbeats 1600000 in
set_option maxRecDepth 20000 in
theorem replaceF_2mid (base N i g vc : Nat) (gC : List Value) (gt : TypeId) (v : Value) (xs news : List Value) (w : World) (hown : w.ownsRow base 26 5 v (N + 1) xs) (hbase : base ≤ w.heap.size) (hi : i < N)
  (hl : news.length = 2 * 5) (hG : Block w g gt gC) (hgo : 2 * 5 ≤ gC.length) (hgv : v.ownBlock ≠ some g) (hnews : ∀ (j : Nat) (u : Value), news[j]? = some u → gC[j]? = some u) (h1 : ∀ u ∈ news, u.oneCell' = true) (hx1 : ∀ u ∈ xs, u.oneCell' = true) (hn : N ≤ 1000) :
  Calls Tryz.prog 94 #[v, .int .i64 i, .int .i64 ((i : Int) + 1), .slice (some ⟨g, 0, none⟩) 2 vc] w (MadeF base v.ownBlock (N + 2) (xs.take (i * 5) ++ (news ++ xs.drop ((i + 1) * 5))) w) := by
 obtain ⟨i0, hi0, hz0, hz1, hz2⟩ := fd_info_parts
 have hxl := hown.1
 rcases hown.2 with ⟨_, h0⟩ | ⟨b, cap, cur, rfl, hbb, hB, hnc, hcm, hcs, htake⟩
 ·omega
 ·obtain ⟨C, rfl⟩ : ∃ C : List Value, cur = C.toArray := ⟨cur.toList, by simp⟩
  simp only [List.size_toArray] at hcs
  have htk : C.take ((N + 1) * 5) = xs := by simpa using htake
  have hbg : g ≠ b := by intro h; subst h; exact hgv rfl
  have hX1 : C.take (i * 5) = xs.take (i * 5) := by rw [← htk, List.take_take, Nat.min_eq_left (Nat.mul_le_mul_right _ (by omega))]
  have hX2l : (xs.drop ((i + 1) * 5)).length = (N - i) * 5 := by rw [List.length_drop, hxl, ← Nat.sub_mul]; congr 1; omega
  have hX2c : ∀ j u, (xs.drop ((i + 1) * 5))[j]? = some u → C[(i + 1) * 5 + j]? = some u := fun j u hj => by
   rw [List.getElem?_drop, ← htk, List.getElem?_take] at hj
   split at hj
   ·exact hj
   ·cases hj
  have hX21 : ∀ u ∈ xs.drop ((i + 1) * 5), u.oneCell' = true := fun u hu => hx1 u (List.mem_of_mem_drop hu)
  obtain ⟨X2, hX2⟩ : ∃ X2, xs.drop ((i + 1) * 5) = X2 := ⟨_, rfl⟩
  rw [hX2] at hX2l hX2c hX21 ⊢
  rw [← hX1]
  have hOB : (Value.slice (some ⟨b, 0, none⟩) (N + 1) cap).ownBlock = some b := rfl
  rw [hOB]
  clear hOB
  have c1 : (i : Int) ≤ N := by omega
  have c2 : ¬ ((i : Int) = (i : Int) + 1) := by omega
  have c3 : ¬ (cap = N) := by omega
  have c4 : ¬ (cap = i) := by omega
  have hcm' : cap ≤ 9223372036854775807 := by unfold maxLen at hcm; omega
  have b2 : (N : Int) ≤ 1000 := by omega
  have t1 : ((i : Int) + 1).toNat = i + 1 := by omega
  have t2 : ((N : Int) + 1).toNat = N + 1 := by omega
  have p1 : (0 : Int) ≤ (i : Int) + 1 := by omega
  have hBB : Block w b 26 C := hB
  have hz1c : ∀ u ∈ (Value.cells (.agg #[.int .i64 0, .int .i64 0, .int .i64 0, .int .i64 0, .int .i64 0])).toList, u.oneCell' = true := by simp [Value.cells]; try decide
  have h0z : 0 < 5 := by omega
  have HB := hid hBB
  have HCS := hid hcs
  have HX2l := hid hX2l
  have HX2c := hid hX2c
  have HX21 := hid hX21
  have HCM := hid hcm
  have HBB := hid hbb
  have HBW := hid hbase
  have HNC : Hid ((N + 1) * 5 ≤ cap * 5) := Nat.mul_le_mul_right _ hnc
  have HG := hid hG
  have HL := hid hl
  have HNW := hid hnews
  have HGO := hid hgo
  have H1 := hid h1
  have HLG := hid hG.lt
  clear hown hxl hx1 htake htk hX1 hX2 hX2l hX2c hX21 hB hBB hcs hcm hbb hbase hG hl hnews hgo h1 hgv
  have c5 : ¬ (cap = i + 1) := by omega
  have c6 : ¬ ((i : Int) + 1 = (N : Int) + 1) := by omega
  by_cases hroom : N + 2 ≤ cap
  ·have hov : ∀ nq lb cb, (callFunc 105 #[.slice (some ⟨b, (i + 2) * 5, none⟩) lb cb, .slice (some ⟨g, 0, none⟩) 2 vc]).run Tryz.prog (w.drewN nq) = .ok (.value (.bool false)) (w.drewN nq) := fun nq lb cb => by
    rw [run_callFunc_extern Tryz.func105 (by kernel_rfl) (by kernel_rfl) (by kernel_rfl) (e := Extern.SlicesOverlaps.overlaps #[30, 30] #[4]) (by kernel_rfl),
     run_overlapsN (w.drewN nq) 30 4 26 Tryz.underlying30 i0 hi0 ⟨b, (i + 2) * 5, none⟩ ⟨g, 0, none⟩ lb cb 2 vc (Ne.symm hbg) 26 gt C gC (HB.out.drewN nq) (HG.out.drewN nq) (by have := HGO.out; intro h; subst h; simp at this)]
    rfl
   have c8 : ¬ (cap = i + 2) := by omega
   have c9 : ¬ ((cap : Int) < (N : Int) + 2) := by omega
   have t3 : ((i : Int) + 2).toNat = i + 2 := by omega
   have t4 : ((N : Int) + 2).toNat = N + 2 := by omega
   have p2 : (0 : Int) ≤ (i : Int) + 2 := by omega
   have c10 : ¬ ((i : Int) + 2 ≤ (i : Int) + 1) := by omega
   have w2 : IntKind.i64.wrap ((i : Int) + 2) = (i : Int) + 2 := by rw [IntKind.wrap_i64]; omega
   go_enter Tryz.func94, Tryz.ntmps94
   go_wp2
   refine tail.region 12 (by kernel_rfl) (by kernel_rfl) ?_
   simp only [List.take_succ_cons, List.take_zero, List.drop_succ_cons, List.drop_zero]
   repeat (go_big_quiet_step (fail))
   refine wpQuiet_nil ?_
   rintro _ ⟨nq, rfl⟩
   rw [show (i : Int) + 2 + ((N - i : Nat) : Int) = (N : Int) + 2 by omega]
   go_wp2_with (simp only [hov])
   refine tail.region 9 (by kernel_rfl) (by kernel_rfl) ?_
   simp only [List.take_succ_cons, List.take_zero, List.drop_succ_cons, List.drop_zero]
   repeat (go_big_quiet_step (fail))
   refine wpQuiet_nil ?_
   rintro _ ⟨nr, rfl⟩
   refine wpList_copyN rfl _ _ 30 30 rfl 26 i0 5 Tryz.underlying30 hi0 hz1 _ _ _ _ _ _ rfl rfl b ((i + 2) * 5) C 26 ((HB.out.drewN nq).drewN nr) (N - i) (by simp only [Nat.min_def]; split <;> omega) X2 HX2l.out (fun _ => ⟨rfl, ⟨b, (i + 1) * 5, none⟩, rfl, fun j u hj => by rw [Addr.add_lit, ((HB.out.drewN nq).drewN nr).cell]; exact HX2c.out j u hj⟩) (by rw [HX2l.out, HCS.out]; omega) HX21.out ?_
   intro w3 h3
   have hs3 := h3.out.2.2
   have HG3 : Hid (Block w3 g gt gC) := hid (((HG.out.drewN nq).drewN nr).but h3.out.2.1 HLG.out hbg)
   have HL3 : Hid ((splice C ((i + 2) * 5) X2).length = cap * 5) := hid (by rw [length_splice _ _ _ (by rw [HX2l.out, HCS.out]; omega), HCS.out])
   go_wp2_with (refine wpList_copyN rfl _ _ 30 30 rfl 26 i0 5 Tryz.underlying30 hi0 hz1 _ _ _ _ _ _ rfl rfl b (i * 5) (splice C ((i + 2) * 5) X2) 26 h3.out.1 2 (by simp only [Nat.min_def]; split <;> omega) news HL.out (fun _ => ⟨rfl, ⟨g, 0, none⟩, rfl, fun j u hj => by rw [Addr.add_lit, Nat.zero_add, HG3.out.cell]; exact HNW.out j u hj⟩) (by rw [HL.out, HL3.out]; omega) H1.out ?_)
   intro w4 h4
   go_wp2
   go_ret
   have hl2 := two C (i * 5) news X2 (by rw [HL.out, HX2l.out, HCS.out]; omega)
   rw [HL.out, HX2l.out, show i * 5 + 2 * 5 = (i + 2) * 5 by omega, show (i + 2) * 5 + (N - i) * 5 = (N + 2) * 5 by omega, List.append_assoc] at hl2
   refine ⟨_, rfl, own_of h4.out.1 HBB.out hroom HCM.out (by rw [length_splice _ _ _ (by rw [HL.out, HL3.out]; omega), HL3.out]) hl2, ?_⟩
   exact grown_of_but (v := .slice (some ⟨b, 0, none⟩) N cap) (But.trans (But.drewN h3.out.2.1 0) (h4.out.2.1.mono (by simp at hs3 ⊢ <;> omega))) rfl
  ·obtain rfl : N + 1 = cap := by omega
   have c9 : ((N : Int) + 1 < (N : Int) + 2) := by omega
   have t3 : ((i : Int) + 2).toNat = i + 2 := by omega
   have t4 : ((N : Int) + 2).toNat = N + 2 := by omega
   have p2 : (0 : Int) ≤ (i : Int) + 2 := by omega
   have w2 : IntKind.i64.wrap ((i : Int) + 2) = (i : Int) + 2 := by rw [IntKind.wrap_i64]; omega
   have k1 : IntKind.i64.wrap ((N : Int) + 2 - (i : Int)) = (N : Int) + 2 - (i : Int) := by rw [IntKind.wrap_i64]; omega
   have HF0 : Hid (i * 5 ≤ C.length) := hid (by rw [HCS.out]; omega)
   have g3 : i + (N + 2 - i) = N + 2 := by omega
   go_enter Tryz.func94, Tryz.ntmps94
   go_wp2
   refine tail.region 12 (by kernel_rfl) (by kernel_rfl) ?_
   simp only [List.take_succ_cons, List.take_zero, List.drop_succ_cons, List.drop_zero]
   repeat (go_big_quiet_step (fail))
   refine wpQuiet_nil ?_
   rintro _ ⟨nq, rfl⟩
   rw [show (i : Int) + 2 + ((N - i : Nat) : Int) = (N : Int) + 2 by omega]
   go_wp2_with (at_builtin; refine wpList_append_zerosN rfl _ _ 30 3 rfl 26 i0 _ 5 40 Tryz.underlying30 Tryz.underlying3 hi0 hz0 hz1 hz2 (by simp [Value.cells]) h0z b i (N + 1) rfl (N + 2 - i) _ rfl (by omega) (by omega) C (HB.out.drewN nq) HF0.out (by omega) (by omega) (by omega) (by unfold maxLen; omega) ?_)
   intro G R w3 h3
   have hs3 : w.heap.size < w3.heap.size := h3.out.2.2.2.2.2
   have g1 : ¬ (G = i) := by have := h3.out.2.2.1; omega
   have g2 : ¬ (G = i + 2) := by have := h3.out.2.2.1; omega
   have HG1 := hid h3.out.2.2.1
   have HG2 := hid h3.out.2.2.2.1
   have HRl := hid h3.out.2.1
   have HLT := hid HB.out.lt
   have HB3 : Hid (Block w3 b 26 C) := hid ((HB.out.drewN nq).later h3.out.2.2.2.2.1)
   have HG3 : Hid (Block w3 g gt gC) := hid ((HG.out.drewN nq).later h3.out.2.2.2.2.1)
   have HCL : Hid ((C.take (i * 5) ++ R).length = G * 5) := by
    show _ = _
    rw [List.length_append, List.length_take, Nat.min_eq_left HF0.out, HRl.out, ← Nat.add_mul]
    congr 1
    have := HG1.out
    omega
   go_wp2_with (refine wpList_copyN rfl _ _ 30 30 rfl 26 i0 5 Tryz.underlying30 hi0 hz1 _ _ _ _ _ _ rfl rfl w.heap.size (i * 5) (C.take (i * 5) ++ R) 26 h3.out.1 2 (by simp only [Nat.min_def]; split <;> omega) news HL.out (fun _ => ⟨rfl, ⟨g, 0, none⟩, rfl, fun j u hj => by rw [Addr.add_lit, Nat.zero_add, HG3.out.cell]; exact HNW.out j u hj⟩) (by rw [HCL.out, HL.out]; have := HG1.out; omega) H1.out ?_)
   intro w4 h4
   have HB4 : Hid (Block w4 b 26 C) := hid (HB3.out.but h4.out.2.1 HB3.out.lt (by have := HLT.out; omega))
   have hs4 := h4.out.2.2
   have HL4 : Hid ((splice (C.take (i * 5) ++ R) (i * 5) news).length = G * 5) := hid (by rw [length_splice _ _ _ (by rw [HCL.out, HL.out]; have := HG1.out; omega), HCL.out])
   go_wp2
   refine tail.region 9 (by kernel_rfl) (by kernel_rfl) ?_
   simp only [List.take_succ_cons, List.take_zero, List.drop_succ_cons, List.drop_zero]
   repeat (go_big_quiet_step (fail))
   refine wpQuiet_nil ?_
   rintro _ ⟨nr, rfl⟩
   refine wpList_copyN rfl _ _ 30 30 rfl 26 i0 5 Tryz.underlying30 hi0 hz1 _ _ _ _ _ _ rfl rfl w.heap.size ((i + 2) * 5) (splice (C.take (i * 5) ++ R) (i * 5) news) 26 (h4.out.1.drewN nr) (N - i) (by simp only [Nat.min_def]; split <;> omega) X2 HX2l.out (fun _ => ⟨rfl, ⟨b, (i + 1) * 5, none⟩, rfl, fun j u hj => by rw [Addr.add_lit, (HB4.out.drewN nr).cell]; exact HX2c.out j u hj⟩) (by rw [HL4.out, HX2l.out]; have := HG1.out; omega) HX21.out ?_
   intro w5 h5
   go_wp2
   go_ret
   have hl2 := two' (C.take (i * 5) ++ R) (i * 5) news X2 (by rw [HL.out, HX2l.out, HCL.out]; have := HG1.out; omega)
   rw [HL.out, HX2l.out, show i * 5 + 2 * 5 = (i + 2) * 5 by omega, show (i + 2) * 5 + (N - i) * 5 = (N + 2) * 5 by omega, List.append_assoc, List.take_left' (by rw [List.length_take, Nat.min_eq_left HF0.out])] at hl2
   refine ⟨_, rfl, own_of h5.out.1 HBW.out (by have := HG1.out; omega) HG2.out ?_ hl2, ?_⟩
   ·rw [length_splice, HL4.out]
    rw [HX2l.out, HL4.out]; have := HG1.out; omega
   ·exact grown_of_below (Below.trans (below_drewN (Below.refl _ _) nq) (Below.trans h3.out.2.2.2.2.1 ((But.trans (But.drewN h4.out.2.1 0) (by have := h5.out.2.1; exact this.mono (by simp [hs4]))).below (by show w.heap.size ≤ _; omega) (Nat.le_refl _))))
end Go.Proofs.YtaciegkblklokaaGreat.schema
namespace Go.Proofs.YtaciegkblklokaaGreat.perm
open Go
section
variable {P : Program} {ops : Array Oper} {md : Region.Mode}
def plainOp : Op → Bool
 | .move _ | .assign _ | .load _ _ | .binOp .. | .unOp .. | .slice .. | .fieldAddr .. | .indexAddr .. | .index .. | .extract .. | .convert .. => true
 | .nilCheck _ => true
 | _ => false
theorem plain_value {ρ : Operand → Value} {o : Oper} {w w' : World} {n : Next} (h : plainOp o.op = true) (hr : (execOp ρ o).run P w = .ok n w') : ∃ u, n = .value u := by
 have key : ∀ (s : Sem Value), (do let x ← s; pure (Next.value x) : Sem Next).run P w = .ok n w' → ∃ u, n = .value u := fun s hs => by
  rw [Sem.run_bind] at hs
  cases hq : s.run P w with
  | ok u w1 => rw [hq] at hs; simp [Result.andThen] at hs; exact ⟨u, hs.1.symm⟩
  | halt x w1 => rw [hq] at hs; simp [Result.andThen] at hs
 unfold execOp at hr
 cases ho : o.op <;> rw [ho] at h hr <;> simp only [plainOp] at h <;> try cases h
 case move x => simp at hr; exact ⟨_, hr.1.symm⟩
 case assign x => simp at hr; exact ⟨_, hr.1.symm⟩
 case nilCheck x =>
  dsimp only at hr
  split at hr
  ·simp [runtimePanic, Sem.run_bind, Result.andThen] at hr
  ·simp [runtimePanic] at hr
  ·simp [runtimePanic] at hr
  ·split at hr
   ·simp [runtimePanic] at hr
   ·simp only [Sem.run_bind] at hr
    generalize Sem.run P program _ = r1 at hr
    cases r1 with
    | halt x w1 => simp [Result.andThen] at hr
    | ok p w1 =>
     simp only [Result.andThen] at hr
     generalize Sem.run P (nilAhead _ _ _ _) _ = r2 at hr
     cases r2 with
     | halt x w2 => simp at hr
     | ok q w2 =>
      simp only at hr
      split at hr
      ·simp [unsupported, Result.andThen] at hr
      ·simp at hr; exact ⟨_, hr.1.symm⟩
   ·simp at hr; exact ⟨_, hr.1.symm⟩
  ·simp at hr; exact ⟨_, hr.1.symm⟩
 all_goals exact key _ hr
theorem yieldsIf_of_in {o : Oper} {v : Value} {a : Act} (hp : plainOp o.op = true) (hy : YieldsIn P ops (fun _ => True) o v a) : YieldsIf P ops (fun _ => True) o v a := by
 rcases hy with ⟨hw, hv⟩ | hy
 ·refine .inl ⟨hw, fun w' _ => ?_⟩
  have h3 := hv w' trivial
  unfold Oper.quietAt at h3
  generalize hr : (execOp a.eval o).run P w' = r at h3
  cases r with
  | halt x w2 => simp only [Oper.quietUpon] at h3
  | ok n w2 =>
   obtain ⟨u, rfl⟩ := plain_value hp hr
   simp only [Oper.quietUpon] at h3
   rw [h3.1, h3.2]
 ·exact .inr hy
def lexFirst (md : Region.Mode) (ops : Array Oper) (F : Array Bool → Bool) : List Nat → Array Bool → Bool
 | [], listed => F listed
 | k :: is, listed => (Region.ready md ops listed).contains k && Region.free md ops listed k && ((ops[k]?).map (fun o => plainOp o.op) == some true) && lexFirst md ops F is (listed.setIfInBounds k true)
def seqOf (md : Region.Mode) (ops : Array Oper) : List Nat → Array Bool → Bool
 | [], listed => (Region.ready md ops listed).isEmpty
 | k :: js, listed => decide (Region.ready md ops listed = [k]) && decide (k < ops.size) && seqOf md ops js (listed.setIfInBounds k true)
def permB (md : Region.Mode) (ops : Array Oper) (is js : List Nat) : Bool :=
 Region.noSelect ops && decide (is.length + js.length = ops.size) && lexFirst md ops (seqOf md ops js) is (Array.replicate ops.size false)
def nth : List Oper → Nat → List Oper
 | [], _ => []
 | o :: _, 0 => [o]
 | _ :: l, k + 1 => nth l k
def pickOps (ops : List Oper) : List Nat → List Oper
 | [] => []
 | k :: is => nth ops k ++ pickOps ops is
theorem nth_of : ∀ {l : List Oper} {k : Nat} {o : Oper}, l[k]? = some o → nth l k = [o]
 | [], k, o, h => by simp at h
 | _ :: _, 0, o, h => by simp at h; simp [nth, h]
 | _ :: l, k + 1, o, h => by simp only [nth]; exact nth_of (by simpa using h)
theorem wpAny_seqOf {Q : Exit → Act → World → Prop} {l : List Oper} : ∀ (js : List Nat) (listed : Array Bool) (a : Act) (w : World), seqOf md l.toArray js listed = true →
  wpList P l.toArray Q (pickOps l js) a w → wpAny P md l.toArray Q js.length listed a w
 | [], _, _, _, hB, h => ⟨by simpa [seqOf] using hB, h⟩
 | k :: js, listed, a, w, hB, h => by
  simp only [seqOf, Bool.and_eq_true, decide_eq_true_eq] at hB
  obtain ⟨⟨hr, hk⟩, hB'⟩ := hB
  have hk' : k < l.length := by simpa using hk
  have h0 : l.toArray[k]? = some l[k] := by simp [hk']
  have e : pickOps l (k :: js) = l[k] :: pickOps l js := by simp [pickOps, nth_of (show l[k]? = some l[k] by simp [hk'])]
  rw [e] at h
  refine ⟨fun h1 => (by rw [hr] at h1; cases h1), fun i hi => ?_⟩
  rw [hr] at hi
  have hik : i = k := by simpa using hi
  subst hik
  have hw : wpOp P l.toArray Q i (wpList P l.toArray Q (pickOps l js)) a w := by unfold wpOp; simp only [h0]; exact h
  exact wpOp_mono (fun a' w' h' => wpAny_seqOf js _ a' w' hB' h') hw
theorem first_ops {Q : Exit → Act → World → Prop} {Lq : Act → Prop} {l : List Oper} {w : World} (F : Array Bool → Bool) (g : Nat) (hsel : Region.noSelect l.toArray = true)
  (hQ : ∀ c a a' w, Q (.panic c) a w → Q (.panic c) a' w) (hK : ∀ listed a, F listed = true → Lq a → wpAny P md l.toArray Q g listed a w) :
  ∀ (is : List Nat) (listed : Array Bool) (a : Act), lexFirst md l.toArray F is listed = true → wpQuiet P l.toArray (fun _ => True) Lq (pickOps l is) a →
   wpAnyH P md l.toArray Q (fun _ => True) (is.length + g) listed a w
 | [], listed, a, hB, h => by
  simp only [List.length_nil, Nat.zero_add]
  exact tail.held_of_any _ _ _ _ (hK _ _ (by simpa [lexFirst] using hB) h)
 | k :: is, listed, a, hB, h => by
  simp only [lexFirst, Bool.and_eq_true] at hB
  obtain ⟨⟨⟨hr, hf⟩, hp⟩, hB'⟩ := hB
  have hp' : (l.toArray[k]?).map (fun o => plainOp o.op) = some true := by simpa using hp
  obtain ⟨o, h0, ho⟩ := Option.map_eq_some_iff.1 hp'
  have hl0 : l[k]? = some o := by simpa using h0
  have e : pickOps l (k :: is) = o :: pickOps l is := by simp [pickOps, nth_of hl0]
  rw [e] at h
  have hst : qOp P l.toArray (fun _ => True) k (wpQuiet P l.toArray (fun _ => True) Lq (pickOps l is)) a := by unfold qOp; simp only [h0]; exact h
  obtain ⟨v, hy, hK'⟩ := yieldsIn_of_qOp h0 hst
  rw [show (k :: is).length + g = (is.length + g) + 1 from by simp only [List.length_cons]; omega]
  exact wpAnyH_take h0 hsel hf hr (fun c a w h => hQ c _ _ w h) (yieldsIf_of_in ho hy) trivial (first_ops F g hsel hQ hK is _ _ hB' hK')
theorem region {id : Nat} {Q : Exit → Act → World → Prop} {a : Act} {w : World} {l : List Oper} (is js : List Nat) (hmx : P.follows .mixedOrders = true) (hB : permB .any l.toArray is js = true)
  (h : wpQuiet P l.toArray (fun _ => True) (fun a' => wpList P l.toArray (NoPanic Q) (pickOps l js) a' w.drew) (pickOps l is) a) : (Code.region id l.toArray true).wp P Q a w := by
 simp only [permB, Bool.and_eq_true, decide_eq_true_eq] at hB
 obtain ⟨⟨hsel, hlen⟩, hlex⟩ := hB
 refine wp_region_noPanic (wp_region_held (S := fun _ => True) hmx ?_)
 have key := first_ops (md := .any) (Q := NoPanic Q) (w := { w with drawn := w.drawn + 1 }) (seqOf .any l.toArray js) js.length hsel (fun c a a' w h => h)
  (fun listed a' hF hL => wpAny_seqOf js listed a' _ hF hL) is _ a hlex h
 rwa [hlen] at key
end
end Go.Proofs.YtaciegkblklokaaGreat.perm
namespace Go.Proofs.YtaciegkblklokaaGreat.plan
open Go Go.RowKit
section
variable {P : Program} {md : Region.Mode} {Q : Exit → Act → World → Prop} {l : List Oper}
def Rest (P : Program) (md : Region.Mode) (l : List Oper) (Q : Exit → Act → World → Prop) (f : Nat) (listed : Array Bool) (a : Act) (w : World) : Prop :=
 wpAnyH P md l.toArray (NoPanic Q) (Below w.heap.size w) f listed a w
theorem weaken {S S' : World → Prop} (hS : ∀ w, S' w → S w) : ∀ (f : Nat) (listed : Array Bool) (a : Act) (w : World), wpAnyH P md l.toArray Q S' f listed a w → wpAnyH P md l.toArray Q S f listed a w
 | 0, _, _, _, h => h
 | f + 1, _, _, _, h => ⟨h.1, fun i hi => wpOp_mono (fun a' w' h' => ⟨hS _ h'.1, weaken hS f _ a' w' h'.2⟩) (h.2 i hi)⟩
theorem Rest.first {f : Nat} {listed : Array Bool} {a : Act} {w : World} (i : Nat) (o : Oper) (v : Value) (hi : l[i]? = some o) (hv : ∀ w', Below w.heap.size w w' → (execOp a.eval o).run P w' = .ok (.value v) w')
  (h : Rest P md l Q f (listed.setIfInBounds i true) (a.put o.dst v) w) (hs : Region.noSelect l.toArray = true := by kernel_rfl) (hf : Region.free md l.toArray listed i = true := by kernel_rfl) (hr : (Region.ready md l.toArray listed).contains i = true := by kernel_rfl) (hw : Region.wanted o (yielded l.toArray a.tmps) = true := by kernel_rfl) : Rest P md l Q (f + 1) listed a w :=
 wpAnyH_take (by simpa using hi) hs hf hr (fun c a' w' h => h) (.inl ⟨hw, hv⟩) (Below.refl _ _) h
theorem Rest.value {f : Nat} {listed : Array Bool} {a : Act} {w : World} (i : Nat) (o : Oper) (v : Value) (hi : l[i]? = some o)
  (h : Rest P md l Q f (listed.setIfInBounds i true) (a.put o.dst v) w) (hr : Region.ready md l.toArray listed = [i] := by kernel_rfl) (hw : Region.wanted o (yielded l.toArray a.tmps) = true := by kernel_rfl) (hv : (execOp a.eval o).run P w = .ok (.value v) w := by kernel_rfl) : Rest P md l Q (f + 1) listed a w := by
 refine wpAnyH_all hr (by simp) fun j hj => ?_
 obtain rfl : j = i := by simpa using hj
 have hi' : l.toArray[j]? = some o := by simpa using hi
 unfold wpOp
 simp only [hi', hw, if_true, Oper.wp, hv, Oper.upon_value]
 exact .inl ⟨Below.refl _ _, h⟩
theorem Rest.call {f : Nat} {listed : Array Bool} {a : Act} {w : World} (i : Nat) (o : Oper) (F : FuncId) (args : Array Value) (hi : l[i]? = some o)
  (h : Calls P F args w fun e w' => ∃ v, e = .returned v ∧ Below w.heap.size w w' ∧ Rest P md l Q f (listed.setIfInBounds i true) (a.put o.dst v) w') (hr : Region.ready md l.toArray listed = [i] := by kernel_rfl) (hw : Region.wanted o (yielded l.toArray a.tmps) = true := by kernel_rfl) (hv : (execOp a.eval o).run P w = .ok (.enter F args) w := by kernel_rfl) : Rest P md l Q (f + 1) listed a w := by
 refine wpAnyH_all hr (by simp) fun j hj => ?_
 obtain rfl : j = i := by simpa using hj
 have hi' : l.toArray[j]? = some o := by simpa using hi
 unfold wpOp
 simp only [hi', hw, if_true, Oper.wp, hv, Oper.upon]
 refine .inl (h.mono ?_)
 rintro e w' ⟨v, rfl, hb, hR⟩
 exact ⟨hb, weaken (fun w'' hb' => hb.trans (hb'.mono hb.size)) _ _ _ _ hR⟩
theorem Rest.done {listed : Array Bool} {a : Act} {w : World} (h : Q .normal a w) (hr : Region.ready md l.toArray listed = [] := by kernel_rfl) : Rest P md l Q 0 listed a w := ⟨hr, NoPanic.normal h⟩
theorem exec_load {o : Oper} {a : Act} {w : World} {ty : TypeId} {x : Operand} {b : Nat} {cs : List Value} {d : TypeDesc} (ho : o.op = .load ty x) (hc : w.rangeAt b 0 cs)
  (hu : P.underlying ty = some d) (hd : d.isRow = true) (hi : (P.info? ty).map (·.size) = some cs.length) (hx : a.eval x = .pointer (some ⟨b, 0, none⟩) := by kernel_rfl) : (execOp a.eval o).run P w = .ok (.value (.agg cs.toArray)) w := by
 unfold execOp
 simp [ho, hx, run_loadAt_mid w b 0 ty cs d hc hu hd hi]
theorem region {id : Nat} {a : Act} {w : World} (hmx : P.follows .mixedOrders = true) (h : Rest P .any l Q l.length (Array.replicate l.length false) a w.drew) : (Code.region id l.toArray true).wp P Q a w := by
 refine wp_region_noPanic (wp_region_held (S := Below w.drew.heap.size w.drew) hmx ?_)
 have e : l.toArray.size = l.length := by simp
 rw [e]
 exact h
end
end Go.Proofs.YtaciegkblklokaaGreat.plan
