/- Contract of layer 18's reference: Put. No condition but a list of at most 4294967296 items. -/
import Derived.Test.YtccaibdklgkgeaaItemRefBetween
namespace Go.Proofs.Ytccaibdklgkgeaa.item
open Go.RowKit
set_option linter.unusedVariables false

/-- the test whether a key is the greatest, known beforehand (the walk's own step runs into the literal) -/
theorem wpList_lss_max {ops : Array Oper} {rest : List Oper} {o : Oper} {a : Act} {Q : Exit → Act → World → Prop} {w : World} (hgd : o.guard = none) (x : Operand) (t : TypeId) (ho : o.op = .binOp .lss 23 x (.const (.int .u32 4294967295)) t)
    (k : Int) (b : Bool) (hx : a.eval x = .int .u32 k) (hk : Hid (decide (k < 4294967295) = b)) (h : wpList Try.prog ops Q rest (a.put o.dst (.bool b)) w) : wpList Try.prog ops Q (o :: rest) a w := by
  have hr : (binOp .lss 23 (.int .u32 k) (.int .u32 4294967295)).run Try.prog w = .ok (.bool b) w := by rw [← hk.out]; simp [go_sem]
  have hg : (eqGuard .lss 23 x (.const (.int .u32 4294967295)) (.int .u32 k) (.int .u32 4294967295)).run Try.prog w = .ok () w := by simp [go_sem]
  have he : (execOp a.eval o).run Try.prog w = .ok (.value (.bool b)) w := by
    unfold execOp
    simp [ho, hx, show a.eval (.const (.int .u32 4294967295)) = .int .u32 4294967295 from rfl, Sem.run_bind, hg, hr]
  refine wpList_plain hgd fun K hK => ?_
  unfold Oper.wp
  rw [he, Oper.upon_value]
  exact hK _ _ h

theorem refPut_11 (a : Option Addr) (c : Nat) (L S G : List It) (k : Nat) (s : ByteArray) (w : World) (h : Its w a L) (hL : L.length ≤ 4294967296) (y : Nat) (hy : k = y + 1) (hSv : between 0 y L = S) (hm : k < 4294967295) (hGv : between (k + 1) 4294967295 L = G) (hS : S.length ≤ 4294967296) (hG : G.length ≤ 4294967296) :
    Calls Try.prog 23 #[.slice a L.length c, .agg #[.int .u32 (k : Int), .string s]] w (Lists ((S ++ [⟨k, s⟩]) ++ G) w) := by
  have hN := newB w (.cells #[.int .u32 (k : Int), .string s] 37)
  have hX := Block.new w 37 [.int .u32 (k : Int), .string s]
  have HX := hid (fun (w' : World) hb => hX.later (w' := w') hb)
  have h1 := h.below hN
  have cF : Calls Try.prog 33 #[.slice a L.length c, .int .u32 0, .int .u32 (y : Int)] (w.alloc (.cells #[.int .u32 (k : Int), .string s] 37)) (Lists S (w.alloc (.cells #[.int .u32 (k : Int), .string s] 37))) := by rw [← hSv]; exact between_any a c L 0 y _ h1 hL
  have hy1 : ((k : Int) - 1) % 4294967296 = (y : Int) := by omega
  have d0 : decide (0 < k) = true := decide_eq_true (by omega)
  obtain ⟨z, hz⟩ : ∃ z, z = k + 1 := ⟨_, rfl⟩
  rw [← hz] at hGv
  have cG : ∀ (w' : World), Below (w.alloc (.cells #[.int .u32 (k : Int), .string s] 37)).heap.size (w.alloc (.cells #[.int .u32 (k : Int), .string s] 37)) w' → Calls Try.prog 33 #[.slice a L.length c, .int .u32 (z : Int), .int .u32 4294967295] w' (Lists G w') := fun w' hb => by rw [← hGv]; exact between_any a c L z 4294967295 w' (h1.below hb) hL
  have hz1 : ((k : Int) + 1) % 4294967296 = (z : Int) := by omega
  have HD := hid (show decide ((k : Int) < 4294967295) = true from decide_eq_true (by omega))
  have HS : Hid ((S : List It).length ≤ 8589934592) := by show _ ≤ _; omega
  have HG : Hid ((S ++ [(⟨k, s⟩ : It)]).length + G.length ≤ 17179869184) := by show _ ≤ _; simp; omega
  have HN := hid hN
  unfold Lists at cF cG
  clear h hN hX h1 hL hS hG hy hSv hGv hm hz
  go_enter Try.func23, Try.ntmps23
  go_wp2_with (first
    | (go_at_call 33; ((with_reducible refine cF.mono ?_); clear cF; rintro e w1 ⟨a1, c1, rfl, ho, hb⟩; have k0 := HX.out _ hb; have z0 := k0.cell 0; have z1 := k0.cell 1; have HR := hid (Row.of ho hb (Below.refl _ _)); clear ho hb k0))
    | (at_builtin; refine wpList_append_it2 rfl _ _ rfl S ⟨k, s⟩ _ rfl rfl HR HS ?_; intro v3 w3 HR3 HK3; have hx3 := HK3.out w.heap.size (fun e => by have l1 := (World.ownsRow.lt HR.out.1 _ e).1; simp at l1; omega) (by first | (have := HR.out.2.size; simp at this; omega) | (simp; done)); have y0 := (World.cell?_of_block (a := ⟨w.heap.size, 0, none⟩) hx3).trans z0; have y1 := (World.cell?_of_block (a := ⟨w.heap.size, 1, none⟩) hx3).trans z1; clear hx3; have hb3 := HR3.out.2)
    | ((with_reducible refine wpList_lss_max rfl (.tmp 19) _ rfl (k : Int) _ ?hx HD ?_); (case hx => rfl); clear HD)
    | (go_at_call 33; ((with_reducible refine (cG _ hb3).mono ?_); clear cG; rintro e w4 ⟨a4, c4, rfl, ho, hb⟩; have HR4 := hid (HR3.out.later hb); have HG4 := hid (own_its ho).1; clear ho hb))
    | (at_builtin; refine wpList_append_row rfl _ _ rfl (S ++ [⟨k, s⟩]) G _ rfl a4 c4 rfl HR4 HG4 HG ?_; intro v5 w5 HR5; skip))
  go_ret
  exact (Row.of HR5.out.1 HR5.out.2 HN.out).lists
theorem refPut_10 (a : Option Addr) (c : Nat) (L S G : List It) (k : Nat) (s : ByteArray) (w : World) (h : Its w a L) (hL : L.length ≤ 4294967296) (y : Nat) (hy : k = y + 1) (hSv : between 0 y L = S) (hm : k = 4294967295) (hS : S.length ≤ 4294967296) (hG : G.length ≤ 4294967296) :
    Calls Try.prog 23 #[.slice a L.length c, .agg #[.int .u32 (k : Int), .string s]] w (Lists (S ++ [⟨k, s⟩]) w) := by
  have hN := newB w (.cells #[.int .u32 (k : Int), .string s] 37)
  have hX := Block.new w 37 [.int .u32 (k : Int), .string s]
  have HX := hid (fun (w' : World) hb => hX.later (w' := w') hb)
  have h1 := h.below hN
  have cF : Calls Try.prog 33 #[.slice a L.length c, .int .u32 0, .int .u32 (y : Int)] (w.alloc (.cells #[.int .u32 (k : Int), .string s] 37)) (Lists S (w.alloc (.cells #[.int .u32 (k : Int), .string s] 37))) := by rw [← hSv]; exact between_any a c L 0 y _ h1 hL
  have hy1 : ((k : Int) - 1) % 4294967296 = (y : Int) := by omega
  have d0 : decide (0 < k) = true := decide_eq_true (by omega)
  have HS : Hid ((S : List It).length ≤ 8589934592) := by show _ ≤ _; omega
  have HG : Hid ((S ++ [(⟨k, s⟩ : It)]).length + G.length ≤ 17179869184) := by show _ ≤ _; simp; omega
  have HN := hid hN
  unfold Lists at cF
  have HD := hid (show decide ((k : Int) < 4294967295) = false from decide_eq_false (by omega))
  clear h hN hX h1 hL hS hG hy hSv hm
  go_enter Try.func23, Try.ntmps23
  go_wp2_with (first
    | (go_at_call 33; ((with_reducible refine cF.mono ?_); clear cF; rintro e w1 ⟨a1, c1, rfl, ho, hb⟩; have k0 := HX.out _ hb; have z0 := k0.cell 0; have z1 := k0.cell 1; have HR := hid (Row.of ho hb (Below.refl _ _)); clear ho hb k0))
    | (at_builtin; refine wpList_append_it2 rfl _ _ rfl S ⟨k, s⟩ _ rfl rfl HR HS ?_; intro v3 w3 HR3 HK3; have hx3 := HK3.out w.heap.size (fun e => by have l1 := (World.ownsRow.lt HR.out.1 _ e).1; simp at l1; omega) (by first | (have := HR.out.2.size; simp at this; omega) | (simp; done)); have y0 := (World.cell?_of_block (a := ⟨w.heap.size, 0, none⟩) hx3).trans z0; have y1 := (World.cell?_of_block (a := ⟨w.heap.size, 1, none⟩) hx3).trans z1; clear hx3; have hb3 := HR3.out.2)
    | ((with_reducible refine wpList_lss_max rfl (.tmp 19) _ rfl (k : Int) _ ?hx HD ?_); (case hx => rfl); clear HD))
  go_ret
  exact (Row.of HR3.out.1 HR3.out.2 HN.out).lists
theorem refPut_01 (a : Option Addr) (c : Nat) (L S G : List It) (k : Nat) (s : ByteArray) (w : World) (h : Its w a L) (hL : L.length ≤ 4294967296) (h0 : k = 0) (hm : k < 4294967295) (hGv : between (k + 1) 4294967295 L = G) (hS : S.length ≤ 4294967296) (hG : G.length ≤ 4294967296) :
    Calls Try.prog 23 #[.slice a L.length c, .agg #[.int .u32 (k : Int), .string s]] w (Lists (([] ++ [⟨k, s⟩]) ++ G) w) := by
  have hN := newB w (.cells #[.int .u32 (k : Int), .string s] 37)
  have hX := Block.new w 37 [.int .u32 (k : Int), .string s]
  have HX := hid (fun (w' : World) hb => hX.later (w' := w') hb)
  have h1 := h.below hN
  obtain ⟨z, hz⟩ : ∃ z, z = k + 1 := ⟨_, rfl⟩
  rw [← hz] at hGv
  have cG : ∀ (w' : World), Below (w.alloc (.cells #[.int .u32 (k : Int), .string s] 37)).heap.size (w.alloc (.cells #[.int .u32 (k : Int), .string s] 37)) w' → Calls Try.prog 33 #[.slice a L.length c, .int .u32 (z : Int), .int .u32 4294967295] w' (Lists G w') := fun w' hb => by rw [← hGv]; exact between_any a c L z 4294967295 w' (h1.below hb) hL
  have hz1 : ((k : Int) + 1) % 4294967296 = (z : Int) := by omega
  have HD := hid (show decide ((k : Int) < 4294967295) = true from decide_eq_true (by omega))
  have HS : Hid (([] : List It).length ≤ 8589934592) := by show _ ≤ _; simp
  have HG : Hid (([] ++ [(⟨k, s⟩ : It)]).length + G.length ≤ 17179869184) := by show _ ≤ _; simp; omega
  have HN := hid hN
  unfold Lists at cG
  have d0 : decide (0 < k) = false := decide_eq_false (by omega)
  clear h hN hX h1 hL hS hG hGv hm hz h0
  go_enter Try.func23, Try.ntmps23
  have HR := hid (Row.nil (w.alloc (.cells #[.int .u32 (k : Int), .string s] 37)))
  have z0 := (HX.out _ (Below.refl _ _)).cell 0
  have z1 := (HX.out _ (Below.refl _ _)).cell 1
  go_wp2_with (first
    | (at_builtin; refine wpList_append_it2 rfl _ _ rfl [] ⟨k, s⟩ _ rfl (by simp [go_sem]) HR HS ?_; intro v3 w3 HR3 HK3; have hx3 := HK3.out w.heap.size (fun e => by have l1 := (World.ownsRow.lt HR.out.1 _ e).1; simp at l1; omega) (by first | (have := HR.out.2.size; simp at this; omega) | (simp; done)); have y0 := (World.cell?_of_block (a := ⟨w.heap.size, 0, none⟩) hx3).trans z0; have y1 := (World.cell?_of_block (a := ⟨w.heap.size, 1, none⟩) hx3).trans z1; clear hx3; have hb3 := HR3.out.2)
    | ((with_reducible refine wpList_lss_max rfl (.tmp 19) _ rfl (k : Int) _ ?hx HD ?_); (case hx => rfl); clear HD)
    | (go_at_call 33; ((with_reducible refine (cG _ hb3).mono ?_); clear cG; rintro e w4 ⟨a4, c4, rfl, ho, hb⟩; have HR4 := hid (HR3.out.later hb); have HG4 := hid (own_its ho).1; clear ho hb))
    | (at_builtin; refine wpList_append_row rfl _ _ rfl ([] ++ [⟨k, s⟩]) G _ rfl a4 c4 rfl HR4 HG4 HG ?_; intro v5 w5 HR5; skip))
  go_ret
  exact (Row.of HR5.out.1 HR5.out.2 HN.out).lists
theorem refPut_any (a : Option Addr) (c : Nat) (L : List It) (x : It) (w : World) (h : Its w a L) (hL : L.length ≤ 4294967296) (hk : x.key < 4294967296) (hg : ∀ p ∈ L, p.key < 4294967296) :
    Calls Try.prog 23 #[.slice a L.length c, .agg #[.int .u32 (x.key : Nat), .string x.data]] w (Lists (put L x) w) := by
  obtain ⟨k, s⟩ := x
  simp only at hk
  have l1 := List.length_filter_le (fun p : It => decide (p.key < k)) L
  have l2 := List.length_filter_le (fun p : It => decide (k < p.key)) L
  have bg := between_gt k hg
  unfold put
  simp only
  by_cases h0 : k = 0
  · subst h0
    rw [show L.filter (fun p => decide (p.key < 0)) = [] from List.filter_eq_nil_iff.2 (fun p _ => by simp)]
    exact refPut_01 a c L [] _ 0 s w h hL rfl (by omega) bg (by simp) (by omega)
  · have bl := between_lt L k (by omega)
    by_cases hm : k = 4294967295
    · rw [show L.filter (fun p => decide (k < p.key)) = [] from List.filter_eq_nil_iff.2 (fun p hp => by have := hg p hp; simp; omega)]
      exact refPut_10 a c L _ [] k s w h hL (k - 1) (by omega) bl hm (by omega) (by simp)
    · have := refPut_11 a c L _ _ k s w h hL (k - 1) (by omega) bl (by omega) bg (by omega) (by omega)
      simpa using this
end Go.Proofs.Ytccaibdklgkgeaa.item
