/- The law file's awake of layer 12 (field) returns true. No condition. -/
import Derived.Test.YthpiffafakoheaaFieldRefLay
import Derived.Test.YthpiffafakoheaaFieldRefTake
namespace Go.Proofs.Ythpiffafakoheaa.field
open Go.RowKit Go.Proofs.Ythpiffafakoheaa.cut
set_option linter.unusedVariables false

def f0 : Fd := ⟨0, 1, 10, 300, 0⟩
theorem f0_right : f0.Right := by unfold f0 Fd.Right; simp
theorem f0_has {n : Int} (h1 : 10 ≤ n) (h2 : n ≤ 300) : f0.Has ⟨n, ⟨#[]⟩⟩ := ⟨f0_right, ⟨h1, h2⟩, by show ((0 : Nat) : Int) ≤ 0; omega⟩
theorem awake_lay (w : World) : Calls Try.prog 18 #[.agg #[.int .i64 0, .int .i64 1, .int .i64 10, .int .i64 300, .int .i64 0], .agg #[.int .i64 300, .string ⟨#[]⟩]] w fun e w' => ∃ u, e = .returned (.tuple #[u, .int .i64 0]) ∧ w'.ownsRow w.heap.size 5 1 u 2 (u8v [1, 34]) ∧ Below w.heap.size w w' := by
  have h := lay_any f0 ⟨300, ⟨#[]⟩⟩ w
  have hh := f0_has (n := 300) (by omega) (by omega)
  have hE : f0.layE ⟨300, ⟨#[]⟩⟩ = 0 := by unfold Fd.layE; rw [if_neg (show ¬¬ f0.Right from fun k => k f0_right), if_neg (show ¬¬ f0.Has _ from fun k => k hh)]
  have hS : f0.size = 2 := by unfold Fd.size; rw [if_pos f0_right]; rfl
  have hL : f0.layB ⟨300, ⟨#[]⟩⟩ = [1, 34] := by
    unfold Fd.layB; rw [if_neg (show ¬¬ f0.Has _ from fun k => k hh), hS]; rfl
  rw [hE, hL] at h
  exact h
theorem awake_size (w : World) : Calls Try.prog 13 #[.agg #[.int .i64 0, .int .i64 3, .int .i64 0, .int .i64 0, .int .i64 257]] w (Gives (.int .i64 2) w) := by
  have h := size_any ⟨0, 3, 0, 0, 257⟩ w
  have hS : (⟨0, 3, 0, 0, 257⟩ : Fd).size = 2 := by unfold Fd.size; rw [if_pos (by unfold Fd.Right; simp)]; rfl
  rw [hS] at h
  exact h
theorem awake_has (n : Int) (b : Bool) (hb : decide (f0.Has ⟨n, ⟨#[]⟩⟩) = b) (w : World) : Calls Try.prog 9 #[.agg #[.int .i64 0, .int .i64 1, .int .i64 10, .int .i64 300, .int .i64 0], .agg #[.int .i64 n, .string ⟨#[]⟩]] w (Gives (.bool b) w) := by
  rw [← hb]; exact has_any f0 ⟨n, ⟨#[]⟩⟩ w
theorem awake_any (w : World) : Calls Try.prog 17 #[] w (Yes w) := by
  have HB0 := Block.new w 23 [.int .i64 0, .int .i64 1, .int .i64 10, .int .i64 300, .int .i64 0]
  have HN := hid (newB w (.cells #[.int .i64 0, .int .i64 1, .int .i64 10, .int .i64 300, .int .i64 0] 23))
  have HS : Hid (∀ w', Below (w.alloc (.cells #[.int .i64 0, .int .i64 1, .int .i64 10, .int .i64 300, .int .i64 0] 23)).heap.size (w.alloc (.cells #[.int .i64 0, .int .i64 1, .int .i64 10, .int .i64 300, .int .i64 0] 23)) w' → (w'.cell? ⟨w.heap.size, 0, none⟩ = some (.int .i64 0) ∧ w'.cell? ⟨w.heap.size, 1, none⟩ = some (.int .i64 1) ∧ w'.cell? ⟨w.heap.size, 2, none⟩ = some (.int .i64 10) ∧ w'.cell? ⟨w.heap.size, 3, none⟩ = some (.int .i64 300) ∧ w'.cell? ⟨w.heap.size, 4, none⟩ = some (.int .i64 0)) ∧ Below w.heap.size w w') :=
    hid fun w' hb => ⟨⟨(HB0.later hb).cell 0, (HB0.later hb).cell 1, (HB0.later hb).cell 2, (HB0.later hb).cell 3, (HB0.later hb).cell 4⟩, HN.out.trans (hb.mono (by simp))⟩
  have cl := awake_lay (w.alloc (.cells #[.int .i64 0, .int .i64 1, .int .i64 10, .int .i64 300, .int .i64 0] 23))
  have ch1 := awake_has 10 true (decide_eq_true (f0_has (by omega) (by omega)))
  have ch2 := awake_has 9 false (decide_eq_false (fun h => by have := h.2.1.1; have e : f0.lo = 10 := rfl; rw [e] at this; simp only at this; omega))
  clear HB0
  go_enter Try.func17, Try.ntmps17
  go_wp2_with (first
    | (go_at_call 18; (with_reducible refine cl.mono ?_); rintro e w1 ⟨u, rfl, ho, hb1⟩; obtain ⟨hk1, hbw1⟩ := HS.out _ hb1; obtain ⟨a1, c1, rfl, _⟩ := ownsRow_slice ho; have hcv : (convert 33 9 (.slice a1 2 c1)).run Try.prog w1 = .ok (.string ⟨#[1, 34]⟩) w1 := Reads.str (P := Try.prog) (Reads.own (xs := [1, 34]) ho) 33 5 Try.underlying33 Try.underlying5 c1 9 Try.underlying9)
    | (go_at_call 13; (with_reducible refine (gives_from (awake_size _) hb1).mono ?_); rintro e w2 ⟨rfl, hb2⟩; obtain ⟨hk2, hbw2⟩ := HS.out _ hb2)
    | (go_at_call 9; (with_reducible refine (gives_from (ch1 _) hb2).mono ?_); rintro e w3 ⟨rfl, hb3⟩; obtain ⟨hk3, hbw3⟩ := HS.out _ hb3)
    | (go_at_call 9; (with_reducible refine (gives_from (ch2 _) hb3).mono ?_); rintro e w4 ⟨rfl, hb4⟩; obtain ⟨hk4, hbw4⟩ := HS.out _ hb4))
  go_ret
  exact ⟨rfl, hbw4⟩
end Go.Proofs.Ythpiffafakoheaa.field
