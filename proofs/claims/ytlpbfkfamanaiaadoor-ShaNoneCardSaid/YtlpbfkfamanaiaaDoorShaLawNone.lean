/- ShaNone: for every slice of bytes, a hash that is none has no bytes and eight zero words. No condition. -/
import Derived.Test.YtlpbfkfamanaiaaDoorShaEq
import Derived.Test.YtlpbfkfamanaiaaDoorShaOf
namespace Go.Proofs.YtlpbfkfamanaiaaDoor.shaNone
open Go.RowKit Go.Proofs.YtlpbfkfamanaiaaDoor.word Go.Proofs.YtlpbfkfamanaiaaDoor.sha
set_option linter.unusedVariables false

theorem walk (a : Option Addr) (len cap : Nat) (xs : List Nat) (w : World) (hr : Reads .u8 w a len xs) (hx : ∀ x ∈ xs, x < 256) (hlc : len ≤ cap) (hrs : cap * 1 ≤ 140737488351232) (ht : Tab w) :
    Calls Tryd.prog 5 #[.slice a len cap] w (Yes w) := by
  obtain ⟨hz8, hs8⟩ := zero_of_info info8
  have HEQ : ∀ w', (Op.equalIn 10000 25 (.agg (u32s (List.replicate 8 0)).toArray) (.agg (u32s (List.replicate 8 0)).toArray)).run Tryd.prog w' = .ok true w' := fun w' => same_eq _ rfl w'
  have hSm : ∀ w', Calls Tryd.prog 13 #[.pointer none] w' fun e w'' => e = .returned (.agg (u32s (List.replicate 8 0)).toArray) ∧ Below w'.heap.size w' w'' := sum_nil
  have HY : ∃ Y, Hid (u32s (List.replicate 8 0) = Y) := ⟨_, rfl⟩
  obtain ⟨Y, hY⟩ := HY
  rw [hY.out] at hz8 HEQ hSm
  have HT := hid ht
  have hgd : Tryd.prog.eqGuardType Tryd.prog.depth 25 = false := by kernel_rfl
  clear hs8 ht hr hx hlc hrs
  go_enter Tryd.func5, Tryd.ntmps5
  go_wp2_with (first
    | (go_at_call 12; (with_reducible refine (write_nil _ _).mono ?_); rintro e w' ⟨rfl, m1, rfl⟩)
    | (go_at_call 13; (with_reducible refine (hSm _).mono ?_); rintro e w2 ⟨rfl, hb2⟩)
    | (go_at_call 14; (with_reducible refine (count_nil _).mono ?_); rintro e w' ⟨rfl, m2, rfl⟩)
    | (go_at_call 6; (refine (awake_any _ ?_).mono ?_)))
  · exact ((HT.out.drewN m1).later hb2).drewN _
  · rintro e w4 ⟨rfl, hb4⟩
    go_wp2
    go_ret
    exact ⟨rfl, (below_drewN (Below.refl _ _) m1).trans (hb2.trans ((below_drewN (Below.refl _ _) m2).trans (hb4.mono hb2.size)))⟩
end Go.Proofs.YtlpbfkfamanaiaaDoor.shaNone
