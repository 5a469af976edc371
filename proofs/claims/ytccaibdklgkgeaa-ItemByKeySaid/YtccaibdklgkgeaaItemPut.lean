/- Contract of layer 18: Put. No condition but a list of at most 4294967296 items. -/
import Derived.Test.YtccaibdklgkgeaaItemFilterLt
import Derived.Test.YtccaibdklgkgeaaItemFilterGt
namespace Go.Proofs.Ytccaibdklgkgeaa.item
open Go.RowKit
set_option linter.unusedVariables false

theorem put_any (a : Option Addr) (c : Nat) (L : List It) (x : It) (w : World) (h : Its w a L) (hL : L.length ≤ 4294967296) : Calls Try.prog 22 #[.slice a L.length c, .agg #[.int .u32 (x.key : Nat), .string x.data]] w (Lists (put L x) w) := by
  have hN := newB w (.cells #[.int .u32 (x.key : Nat), .string x.data] 37)
  have hX := Block.new w 37 [.int .u32 (x.key : Nat), .string x.data]
  have HX := hid (fun (w' : World) hb => hX.later (w' := w') hb)
  have h1 := h.below hN
  have cF := filter_lt a c L (w.alloc (.cells #[.int .u32 (x.key : Nat), .string x.data] 37)) h1 hL w.heap.size x.key hX.lt (hX.cell 0)
  have cG := fun (w' : World) hb => filter_gt a c L w' (h1.below hb) hL w.heap.size x.key (hX.later hb).lt ((hX.later hb).cell 0)
  have hmf : ∀ (fn : Fn) (first cap : Array Value) (w : World), (Instr.makeFunc fn first cap).run Try.prog w = .ok (.func fn first cap) w := fun _ _ _ _ => rfl
  have l1 := List.length_filter_le (fun p => decide (p.key < x.key)) L
  have l2 := List.length_filter_le (fun p => decide (x.key < p.key)) L
  unfold put
  generalize L.filter (fun p => decide (p.key < x.key)) = S at *
  generalize L.filter (fun p => decide (x.key < p.key)) = G at *
  have HS : Hid (S.length ≤ 8589934592) := by show _ ≤ _; omega
  have HG : Hid ((S ++ [x]).length + G.length ≤ 17179869184) := by show _ ≤ _; rw [List.length_append, List.length_singleton]; omega
  have HN := hid hN
  unfold Lists at cF cG
  rw [show S ++ x :: G = (S ++ [x]) ++ G by simp]
  clear h hN hX h1 hL l1 l2
  go_enter Try.func22, Try.ntmps22
  go_wp2_with (first
    | (go_at_call 28; ((with_reducible refine cF.mono ?_); clear cF; rintro e w1 ⟨y, yc, rfl, ho, hb⟩; have k0 := HX.out _ hb; have z0 := k0.cell 0; have z1 := k0.cell 1; have HB := hid hb; have HR := hid (Row.of ho hb HN.out); clear ho hb k0))
    | (go_at_call 28; ((with_reducible refine (cG _ HB.out).mono ?_); clear cG; rintro e w2 ⟨v, vc, rfl, ho, hb⟩; have hb2 := HB.out.trans (hb.mono HB.out.size); have k0 := HX.out _ hb2; have z0 := k0.cell 0; have z1 := k0.cell 1; have HR2 := hid (HR.out.later hb); have HRG := hid ho; have HGG := hid (own_its ho).1; clear ho hb k0 hb2))
    | (at_builtin; refine wpList_append_it2 rfl _ _ rfl S x _ rfl rfl HR2 HS ?_; intro v3 w3 HR3 HK3; have HGR := hid (own_its (ownsRow_heap HRG.out (fun g hg => HK3.out g (fun e => by have l1 := (World.ownsRow.lt HR.out.1 g e).2; have l2 := (World.ownsRow.lt HRG.out g hg).1; omega) (World.ownsRow.lt HRG.out g hg).2))).1)
    | (at_builtin; refine wpList_append_row rfl _ _ rfl (S ++ [x]) G _ rfl v vc rfl HR3 HGR HG ?_; intro v4 w4 HR4; skip))
  go_ret
  exact HR4.out.lists
end Go.Proofs.Ytccaibdklgkgeaa.item
