/- PenNone: for every piece, a pen that is none writes nothing and an eye that is none reads nothing. No condition. -/
import Derived.Test.YtbgbboldelpjbaaPenAwake
namespace Go.Proofs.Ytbgbboldelpjbaa.penNone
open Go.RowKit Go.Proofs.Ytbgbboldelpjbaa.pen Go.Proofs.Ytbgbboldelpjbaa.texts
set_option linter.unusedVariables false

set_option maxRecDepth 8000 in
theorem walk (p : Piece) (w : World) (hp : Fit p) : Calls Try.prog 6 #[actV p] w (Yes w) := by
  obtain ⟨k, n, s⟩ := p
  have cW : ∀ w1, Calls Try.prog 8 #[.pointer none, .agg #[.int .i64 k, .int .i64 n, .string (strL s)]] w1 (Idle w1) := fun w1 => write_idle (k, n, s) hp w1
  have n1 := hp.n1
  have n2 := hp.n2
  simp only at n1 n2
  obtain ⟨S, hS⟩ : ∃ S, Hid (strL s = S) := ⟨_, rfl⟩
  unfold actV
  simp only []
  rw [hS.out] at cW ⊢
  clear hp
  have cc := fun w1 => eyeCount_nil n n1 n2 w1
  have ct := fun w1 => eyeText_nil n w1
  have HB : Hid (Block (w.alloc (.cells #[.int .i64 k, .int .i64 n, .string S] 28)) w.heap.size 28 [.int .i64 k, .int .i64 n, .string S]) := Block.new w _ [.int .i64 k, .int .i64 n, .string S]
  have H0 : Hid (Below w.heap.size w (w.alloc (.cells #[.int .i64 k, .int .i64 n, .string S] 28))) := (Below.refl _ _).alloc (Nat.le_refl _) _
  go_enter Try.func6, Try.ntmps6
  go_wp2_with (first
    | (go_at_call 8; (with_reducible refine (cW _).mono ?_); clear cW; rintro e w1 ⟨rfl, hb1⟩; have hN : ∀ m, (w1.drewN m).cell? ⟨w.heap.size, 1, none⟩ = some (.int .i64 n) := (fun m => (((HB.out.later hb1).drewN m).cell 1).trans rfl); have hbw : Below w.heap.size w w1 := H0.out.trans (hb1.mono H0.out.size); have HW := hid hbw; clear hb1 hbw)
    | (go_at_call 10; (with_reducible refine (done_nil _).mono ?_); rintro e w2 ⟨rfl, m2, rfl⟩)
    | (go_at_call 13; (with_reducible refine (eyeByte_nil _).mono ?_); rintro e w3 ⟨rfl, m3, rfl⟩)
    | (go_at_call 15; (with_reducible refine (cc _).mono ?_); rintro e w4 ⟨rfl, m4, rfl⟩)
    | (go_at_call 17; (with_reducible refine (eyeNum_nil _).mono ?_); rintro e w5 ⟨rfl, m5, rfl⟩)
    | (go_at_call 19; (with_reducible refine (eyeWord_nil _).mono ?_); rintro e w6 ⟨rfl, m6, rfl⟩)
    | (go_at_call 21; (with_reducible refine (ct _).mono ?_); rintro e w7 ⟨rfl, m7, rfl⟩)
    | (go_at_call 23; (with_reducible refine (left_nil _).mono ?_); rintro e w8 ⟨rfl, m8, rfl⟩)
    | (go_at_call 24; (with_reducible refine (bad_nil _).mono ?_); rintro e w9 ⟨rfl, m9, rfl⟩)
    | (go_at_call 25; (with_reducible refine (end_nil _).mono ?_); rintro e w10 ⟨rfl, m10, rfl⟩)
    | (go_at_call 11; (with_reducible refine (awake_any _).mono ?_); rintro e w11 ⟨rfl, hb11⟩))
  go_ret
  exact ⟨rfl, (below_drewN HW.out _).trans (hb11.mono (by simpa using HW.out.size))⟩
end Go.Proofs.Ytbgbboldelpjbaa.penNone
