/- Contract of the reference's schedule of layer 3, for every block of 64 bytes. -/
import Derived.Test.YtlpbfkfamanaiaaDoorShaRefTurn
import Derived.Test.YtlpbfkfamanaiaaDoorWordRefPack
namespace Go.Proofs.YtlpbfkfamanaiaaDoor.sha
open Go.RowKit Go.Proofs.YtlpbfkfamanaiaaDoor.word
set_option linter.unusedVariables false

set_option maxHeartbeats 1600000 in
theorem refSchedule_any (a : Option Addr) (cap : Nat) (xs : List Nat) (w : World) (hr : Reads .u8 w a 64 xs) (hx : ∀ x ∈ xs, x < 256) :
    Calls Tryd.prog 18 #[.slice a 64 cap] w fun e w' => ∃ v, e = .returned v ∧ w'.ownsRow w.heap.size 24 1 v 64 (u32s (sched xs 48)) ∧ Below w.heap.size w w' := by
  obtain ⟨i0, hi, hz0, hz1, hz2⟩ := info_parts Trydinfo34
  have hP := refPack_n a 64 cap 16 xs w hr hx (by omega) (by omega) (by omega)
  have HX := hid hx
  clear hr hx
  go_enter Tryd.func18, Tryd.ntmps18
  go_wp2_with (go_at_call 23; (with_reducible refine hP.mono ?_))
  rintro e w1 ⟨v, rfl, ho1, hb1⟩
  clear hP
  go_wp2
  go_loopw [3, 4] (fun v i wr => ∃ k : Nat, k ≤ 48 ∧ i = .int .i64 ((k : Int) + 16) ∧ wr.ownsRow w.heap.size 24 1 v (16 + k) (u32s (sched xs k)) ∧ Below w.heap.size w wr)
    (fun _ i _ => 64 - (intOf i).toNat)
  case atStart => exact ⟨0, by decide, rfl, ho1, hb1⟩
  case round =>
    obtain ⟨k, hk, rfl, ho, hb⟩ := hrel
    by_cases hlt : k < 48
    · obtain ⟨g, c, rfl, hg1, hg2, hgc, hcm⟩ := ownsRow_form ho (by omega)
      have cellv : ∀ j, j < 16 + k → wr.cell? ⟨g, j, none⟩ = some (.int .u32 (((sched xs k).getD j 0 : Nat) : Int)) := fun j hj => by
        rw [ho.cellAt j (by omega)]; exact u32s_get _ _ (by rw [sched_length]; exact hj)
      have c1 := cellv k (by omega)
      have c2 := cellv (k + 1) (by omega)
      have c3 := cellv (k + 9) (by omega)
      have c4 := cellv (k + 14) (by omega)
      have hn : nextW (sched xs k) (16 + k) = ((sched xs k).getD k 0 + twoAnd ((sched xs k).getD (k + 1) 0) 7 18 3 + (sched xs k).getD (k + 9) 0 + twoAnd ((sched xs k).getD (k + 14) 0) 17 19 10) % 4294967296 := by
        unfold nextW
        rw [show 16 + k - 16 = k by omega, show 16 + k - 15 = k + 1 by omega, show 16 + k - 7 = k + 9 by omega, show 16 + k - 2 = k + 14 by omega]
      have HS := hid (sched_lt xs HX.out k)
      have x2 := get32 HS.out (k + 1)
      have x4 := get32 HS.out (k + 14)
      have HNX := hid hn
      have HO := hid ho
      have HB := hid hb
      clear cellv ho hn hb
      generalize (sched xs k).getD k 0 = v1 at *
      generalize (sched xs k).getD (k + 1) 0 = a1 at *
      generalize (sched xs k).getD (k + 9) 0 = v3 at *
      generalize (sched xs k).getD (k + 14) 0 = a4 at *
      have g1 : ∀ w', Calls Tryd.prog 19 #[.int .u32 a1, .int .i64 7] w' (Quiet (.int .u32 (rotr a1 7 : Nat)) w') := fun w' => turn_any a1 7 x2 (by decide) (by decide) w'
      have g2 : ∀ w', Calls Tryd.prog 19 #[.int .u32 a1, .int .i64 18] w' (Quiet (.int .u32 (rotr a1 18 : Nat)) w') := fun w' => turn_any a1 18 x2 (by decide) (by decide) w'
      have g3 : ∀ w', Calls Tryd.prog 19 #[.int .u32 a4, .int .i64 17] w' (Quiet (.int .u32 (rotr a4 17 : Nat)) w') := fun w' => turn_any a4 17 x4 (by decide) (by decide) w'
      have g4 : ∀ w', Calls Tryd.prog 19 #[.int .u32 a4, .int .i64 19] w' (Quiet (.int .u32 (rotr a4 19 : Nat)) w') := fun w' => turn_any a4 19 x4 (by decide) (by decide) w'
      have E1 : bits .xor .u32 (bits .xor .u32 (rotr a1 7 : Nat) (rotr a1 18 : Nat)) ((a1 : Int) / 8) = ((twoAnd a1 7 18 3 : Nat) : Int) := by
        unfold twoAnd
        rw [u32_xor_nat _ _ (rotr_lt 7 x2) (rotr_lt 18 x2), show (a1 : Int) / 8 = ((a1 / 2 ^ 3 : Nat) : Int) by simp, u32_xor_nat _ _ (xor_lt (rotr_lt 7 x2) (rotr_lt 18 x2)) (div_lt 3 x2)]
      have E2 : bits .xor .u32 (bits .xor .u32 (rotr a4 17 : Nat) (rotr a4 19 : Nat)) ((a4 : Int) / 1024) = ((twoAnd a4 17 19 10 : Nat) : Int) := by
        unfold twoAnd
        rw [u32_xor_nat _ _ (rotr_lt 17 x4) (rotr_lt 19 x4), show (a4 : Int) / 1024 = ((a4 / 2 ^ 10 : Nat) : Int) by simp, u32_xor_nat _ _ (xor_lt (rotr_lt 17 x4) (rotr_lt 19 x4)) (div_lt 10 x4)]
      generalize rotr a1 7 = r1 at *
      generalize rotr a1 18 = r2 at *
      generalize rotr a4 17 = r3 at *
      generalize rotr a4 19 = r4 at *
      generalize twoAnd a1 7 18 3 = v2 at *
      generalize twoAnd a4 17 19 10 = v4 at *
      have j0 : (k : Int) + 16 < 64 := by omega
      have j1 : (0 : Int) ≤ k := by omega
      go_wp2
      go_quiet (fail)
      go_wp2_with (first
        | (go_at_call 19; (with_reducible refine (g1 _).mono ?_); rintro e w' ⟨rfl, m1, rfl⟩)
        | (go_at_call 19; (with_reducible refine (g2 _).mono ?_); rintro e w' ⟨rfl, m2, rfl⟩)
        | (go_at_call 19; (with_reducible refine (g3 _).mono ?_); rintro e w' ⟨rfl, m3, rfl⟩)
        | (go_at_call 19; (with_reducible refine (g4 _).mono ?_); rintro e w' ⟨rfl, m4, rfl⟩))
      obtain ⟨wq, hwq⟩ : ∃ x, Hid (wr.drewN (nq + m1 + m2 + m3 + m4) = x) := ⟨_, rfl⟩
      rw [hwq.out]
      have HOq : Hid (wq.ownsRow w.heap.size 24 1 (.slice (some ⟨g, 0, none⟩) (16 + k) c) (16 + k) (u32s (sched xs k))) := by rw [← hwq.out]; exact HO.out.drewN _
      have hbq : Below w.heap.size w wq := by rw [← hwq.out]; exact below_drewN HB.out _
      have cq : ∀ (j : Nat) (v : Value), wr.cell? ⟨g, j, none⟩ = some v → wq.cell? ⟨g, j, none⟩ = some v := fun j v h => by rw [← hwq.out]; exact h
      have c1' := cq _ _ c1
      have c3' := cq _ _ c3
      have hbs := hbq.size
      have hga : g < wq.heap.size := (HOq.out.lt g rfl).2
      clear cq c1 c2 c3 c4 g1 g2 g3 g4
      refine tail.regionFrom 1 16 (by kernel_rfl) (by kernel_rfl) ?_
      simp only [List.take_succ_cons, List.take_zero, List.drop_succ_cons, List.drop_zero]
      repeat (go_big_quiet_step (fail))
      refine wpQuiet_nil ?_
      rintro _ ⟨nr, rfl⟩
      go_wp2_with (at_builtin; refine wpList_append_own _ rfl _ _ 37 rfl w.heap.size 24 i0 (.int .u32 0) 1 4 Tryd.underlying37 hi hz0 hz1 hz2 rfl (by decide) _ _ _ rfl ((HOq.out.drewN nr).alloc _) ⟨wq.heap.size, 0, none⟩ 1 1 [.int .u32 (((v1 : Int) + v2 + v3 + v4) % 4294967296)] rfl rfl (one_new _ _ _) (one_cell rfl) (by unfold maxLen; omega) (by omega) (by simp; omega) ?_)
      intro v' w2 ho2 hg2 _
      go_wp2
      refine NoPanic.normal ?_
      go_wp2
      refine ⟨⟨k + 1, by omega, by go_num, ?_, ((below_drewN hbq nr).alloc hbs _).grown hg2 (by simp; omega) (fun j hj => by cases hj; exact hg1)⟩, by simp [intOf]; omega⟩
      have e : ((v1 : Int) + v2 + v3 + v4) % 4294967296 = ((nextW (sched xs k) (16 + k) : Nat) : Int) := by rw [HNX.out]; omega
      rw [e] at ho2
      have e2 : u32s (sched xs (k + 1)) = u32s (sched xs k) ++ [.int .u32 (nextW (sched xs k) (16 + k) : Nat)] := by simp [u32s, sched, grow]
      rw [e2]
      exact ho2
    · obtain rfl : k = 48 := by omega
      go_wp2
      go_ret
      exact ⟨_, rfl, ho, hb⟩
end Go.Proofs.YtlpbfkfamanaiaaDoor.sha
