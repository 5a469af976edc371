/- FlashNone: for every act, a flash that is none has nothing. No condition. -/
import Derived.Test.YtdpddcmbilipfaaFlashAwake
import Derived.Test.YtdpddcmbilipfaaFlashCopy
import Derived.Test.YtdpddcmbilipfaaFlashOpen
namespace Go.Proofs.Ytdpddcmbilipfaa.flashNone
open Go.RowKit Go.Proofs.Ytdpddcmbilipfaa.flash
set_option linter.unusedVariables false

set_option maxRecDepth 8000 in
theorem walk0 (k A : Int) (X : Nat) (a : Option Addr) (len cap : Nat) (w : World) : Calls Try.prog 5 #[actV k A X a len cap] w (Yes w) := by
  unfold actV
  have HB : Hid (Block (w.alloc (.cells #[.int .i64 k, .int .i64 A, .int .u32 X, .slice a len cap] 35)) w.heap.size 35 [.int .i64 k, .int .i64 A, .int .u32 X, .slice a len cap]) := Block.new w _ [.int .i64 k, .int .i64 A, .int .u32 X, .slice a len cap]
  have H0 : Hid (Below w.heap.size w (w.alloc (.cells #[.int .i64 k, .int .i64 A, .int .u32 X, .slice a len cap] 35))) := (Below.refl _ _).alloc (Nat.le_refl _) _
  go_enter Try.func5, Try.ntmps5
  go_wp2_with (first
    | (go_at_call 22; (with_reducible refine (read_nil _ _).mono ?_); rintro e w1 ⟨rfl, m1, rfl⟩)
    | (go_at_call 20; (with_reducible refine (size_nil _).mono ?_); rintro e w1 ⟨rfl, m2, rfl⟩)
    | (go_at_call 23; (with_reducible refine (arm_nil _ _ _).mono ?_); rintro e w1 ⟨rfl, m3, rfl⟩)
    | (go_at_call 24; (with_reducible refine (power_nil _).mono ?_); rintro e w1 ⟨rfl, m4, rfl⟩))
  obtain ⟨w4, hw4⟩ : ∃ x, Hid ((w.alloc (.cells #[.int .i64 k, .int .i64 A, .int .u32 X, .slice a len cap] 35)).drewN (m1 + m2 + m3 + m4) = x) := ⟨_, rfl⟩
  have hB := HB.out.drewN (m1 + m2 + m3 + m4)
  have h0 := below_drewN H0.out (m1 + m2 + m3 + m4)
  rw [hw4.out] at hB h0 ⊢
  have e1 : w4.cell? ⟨w.heap.size, 1, none⟩ = some (.int .i64 A) := hB.cell 1
  have e2 : w4.cell? ⟨w.heap.size, 2, none⟩ = some (.int .u32 X) := hB.cell 2
  have HB4 := hid hB
  have H04 := hid h0
  clear hB h0 hw4 HB H0
  refine tail.region 50 (by kernel_rfl) (by kernel_rfl) ?_
  simp only [List.take_succ_cons, List.take_zero, List.drop_succ_cons, List.drop_zero]
  repeat (go_big_quiet_step (first
    | (go_at_call 25; (with_reducible exact quietAt (program_nil _ _ _)))
    | (go_at_call 11; (with_reducible exact quietAt (erase_nil _ _)))
    | (go_at_call 15; (with_reducible exact quietAt (writes_nil _)))
    | (go_at_call 16; (with_reducible exact quietAt (wear_nil _ _)))
    | (go_at_call 19; (with_reducible exact quietAt (words_nil _)))
    | (go_at_call 14; (with_reducible exact quietAt (gone_nil _)))
    | (go_at_call 10; (with_reducible exact quietAt (copy_nil _)))))
  refine wpQuiet_nil ?_
  rintro _ ⟨nq, rfl⟩
  go_wp2_with (go_at_call 7; (with_reducible refine (awake_any _).mono ?_); rintro e w11 ⟨rfl, hb11⟩)
  go_ret
  exact ⟨rfl, (below_drewN H04.out nq).trans (hb11.mono (by simpa using H04.out.size))⟩
theorem walk (p : FAct) (w : World) (hp : p.Good w) : Calls Try.prog 5 #[p.val] w (Yes w) := walk0 p.k p.A p.X p.a p.len p.cap w
end Go.Proofs.Ytdpddcmbilipfaa.flashNone
