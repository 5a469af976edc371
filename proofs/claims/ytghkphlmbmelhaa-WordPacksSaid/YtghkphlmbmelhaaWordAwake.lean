/- Contract of the law file's function awake of layer 1: it returns true. No condition. -/
import Derived.Test.YtghkphlmbmelhaaWordPack
import Derived.Test.YtghkphlmbmelhaaWordBits
import Derived.Test.YtghkphlmbmelhaaOpen
namespace Go.Proofs.Ytghkphlmbmelhaa.word
open Go.RowKit
set_option linter.unusedVariables false

theorem awake_any (w : World) : Calls Try.prog 14 #[] w (Yes w) := by
  have ht : ∀ w', Calls Try.prog 19 #[.int .u32 7, .int .u32 1, .int .u32 2] w' (Quiet (.int .u32 5) w') := fun w' => torn_any 7 1 2 (by decide) (by decide) (by decide) w'
  have ho : ∀ w', Calls Try.prog 15 #[.int .u32 7] w' (Quiet (.int .i64 3) w') := fun w' => ones_any 7 (by decide) w'
  have hn : ∀ w', Calls Try.prog 12 #[.int .i64 5] w' (Quiet (.int .i64 2) w') := fun w' => need_any 5 (by decide) (by decide) w'
  go_enter Try.func14, Try.ntmps14
  go_wp2_with fail
  refine (pack_n _ 5 5 2 [1, 2, 3, 4, 5] _ ⟨rfl, .inr ⟨w.heap.size, 0, rfl, by simp, ?_⟩⟩ (by decide) (by decide) (by decide) (by decide)).mono ?_
  · intro i hi
    match i, hi with
    | 0, _ => simp
    | 1, _ => simp
    | 2, _ => simp
    | 3, _ => simp
    | 4, _ => simp
  rintro e w1 ⟨v, rfl, hown, hb⟩
  obtain ⟨g, cap, rfl, hg1, hg2, hcap, hcap2⟩ := ownsRow_form hown (by decide)
  have hc0 : w1.cell? ⟨g, 0, none⟩ = some (.int .u32 16909060) := hown.cellAt 0 (by decide)
  have hc1 : w1.cell? ⟨g, 1, none⟩ = some (.int .u32 83886080) := hown.cellAt 1 (by decide)
  have hb1 : Below w.heap.size w w1 := ((Below.refl _ _).alloc (Nat.le_refl _) _).trans (hb.mono (by simp))
  clear hown hb
  go_wp2_with (first
    | (go_at_call 19; refine (ht _).mono ?_; rintro e w' ⟨rfl, m2, rfl⟩)
    | (go_at_call 15; refine (ho _).mono ?_; rintro e w' ⟨rfl, m3, rfl⟩)
    | (go_at_call 12; refine (hn _).mono ?_; rintro e w' ⟨rfl, m4, rfl⟩))
  go_ret
  exact ⟨rfl, by repeat (first | exact hb1 | apply below_drewN)⟩
end Go.Proofs.Ytghkphlmbmelhaa.word
