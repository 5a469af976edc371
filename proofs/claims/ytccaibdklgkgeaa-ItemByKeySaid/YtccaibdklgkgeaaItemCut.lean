/- Contract of layer 18: Cut. No condition but a list of at most 4294967296 items. -/
import Derived.Test.YtccaibdklgkgeaaItemFilterNe
namespace Go.Proofs.Ytccaibdklgkgeaa.item
open Go.RowKit
set_option linter.unusedVariables false

theorem cut_any (a : Option Addr) (c : Nat) (L : List It) (x : Nat) (w : World) (h : Its w a L) (hL : L.length ≤ 4294967296) : Calls Try.prog 16 #[.slice a L.length c, .int .u32 (x : Int)] w (Lists2 (cut L x) (.bool (decide ((cut L x).length < L.length))) w) := by
  have hN := newB w (.cells #[.int .u32 (x : Int)] 23)
  have cF := filter_ne a c L (w.alloc (.cells #[.int .u32 (x : Int)] 23)) (h.below hN) hL w.heap.size x (Block.new w 23 [.int .u32 (x : Int)]).lt ((Block.new w 23 [.int .u32 (x : Int)]).cell 0)
  have hmf : ∀ (fn : Fn) (first cap : Array Value) (w : World), (Instr.makeFunc fn first cap).run Try.prog w = .ok (.func fn first cap) w := fun _ _ _ _ => rfl
  unfold cut
  generalize L.filter (fun p => !(p.key == x)) = R at *
  obtain ⟨d, hd⟩ : ∃ d : Bool, Hid (decide (R.length < L.length) = d) := ⟨_, rfl⟩
  rw [hd.out]
  have HN := hid hN
  unfold Lists at cF
  unfold Lists2
  clear h hN
  go_enter Try.func16, Try.ntmps16
  go_wp2_with (go_at_call 28; ((with_reducible refine cF.mono ?_); rintro e w1 ⟨y, yc, rfl, ho, hb⟩; have HR := hid (Row.of ho hb HN.out); clear ho hb))
  go_ret2
  exact ⟨y, yc, by first | rfl | simp [hd.out], HR.out.1, HR.out.2⟩
end Go.Proofs.Ytccaibdklgkgeaa.item
