/- Contract of the reference's Bytes of layer 3, for every eight 32-bit words. -/
import Derived.Test.YtlpbfkfamanaiaaDoorShaOf
import Derived.Test.YtlpbfkfamanaiaaDoorAppend
namespace Go.Proofs.YtlpbfkfamanaiaaDoor.sha
open Go.RowKit Go.Proofs.YtlpbfkfamanaiaaDoor.word
set_option linter.unusedVariables false

theorem range4 (f : Nat → Nat) (k : Nat) : (List.range (4 * (k + 1))).map f = (List.range (4 * k)).map f ++ [f (4 * k), f (4 * k + 1), f (4 * k + 2), f (4 * k + 3)] := by
  rw [show 4 * (k + 1) = 4 * k + 1 + 1 + 1 + 1 from by omega]
  simp only [List.range_succ, List.map_append, List.map_cons, List.map_nil, List.append_assoc, List.cons_append, List.nil_append]
theorem byte4 (xs : List Nat) (k : Nat) (hx : ∀ x ∈ xs, x < 4294967296) : word.byteOf xs (4 * k) = xs.getD k 0 / 16777216 ∧ word.byteOf xs (4 * k + 1) = xs.getD k 0 / 65536 % 256 ∧ word.byteOf xs (4 * k + 2) = xs.getD k 0 / 256 % 256 ∧ word.byteOf xs (4 * k + 3) = xs.getD k 0 % 256 := by
  have hlt : xs.getD k 0 < 4294967296 := by
    rw [List.getD_eq_getElem?_getD]
    by_cases h : k < xs.length
    · rw [List.getElem?_eq_getElem h]; exact hx _ (List.getElem_mem _)
    · rw [List.getElem?_eq_none (by omega)]; decide
  unfold word.byteOf
  rw [show 4 * k / 4 = k from by omega, show (4 * k + 1) / 4 = k from by omega, show (4 * k + 2) / 4 = k from by omega, show (4 * k + 3) / 4 = k from by omega,
    show 8 * (3 - 4 * k % 4) = 24 from by omega, show 8 * (3 - (4 * k + 1) % 4) = 16 from by omega, show 8 * (3 - (4 * k + 2) % 4) = 8 from by omega, show 8 * (3 - (4 * k + 3) % 4) = 0 from by omega]
  generalize xs.getD k 0 = y at *
  refine ⟨?_, ?_, ?_, ?_⟩ <;> omega

set_option maxHeartbeats 1600000 in
theorem refBytes32_any (d : List Nat) (hd : d.length = 8) (hdx : ∀ x ∈ d, x < 4294967296) (w : World) :
    Calls Tryd.prog 10 #[.agg (u32s d).toArray] w fun e w' => ∃ v, e = .returned v ∧ w'.ownsRow w.heap.size 5 1 v 32 (u8s (wordBytes d)) ∧ Below w.heap.size w w' := by
  obtain ⟨i0, hi, hz0, hz1, hz2⟩ := info_parts Trydinfo5
  have hb1 : Below w.heap.size w (w.alloc (.cells (u32s d).toArray 25)) := (Below.refl _ _).alloc (Nat.le_refl _) _
  have hr1 : Block (w.alloc (.cells (u32s d).toArray 25)) w.heap.size 25 (u32s d) := Block.new _ _ _
  have HDX := hid hdx
  have HB1 := hid hb1
  have HR1 := hid hr1
  clear hdx hb1 hr1
  obtain ⟨D, hD⟩ : ∃ x, Hid (u32s d = x) := ⟨_, rfl⟩
  rw [hD.out] at HB1 HR1 ⊢
  go_enter Tryd.func10, Tryd.ntmps10
  go_wp2
  obtain ⟨W1, hW1⟩ : ∃ x, Hid (w.alloc (.cells D.toArray 25) = x) := ⟨_, rfl⟩
  rw [hW1.out] at HB1 HR1 ⊢
  go_loopw [3, 4] (fun v i wr => ∃ k : Nat, k ≤ 8 ∧ i = .int .i64 k ∧ wr.ownsRow (w.heap.size + 1) 5 1 v (4 * k) (((List.range (4 * k)).map (word.byteOf d)).map fun x : Nat => Value.int .u8 (x : Int)) ∧ Below (w.heap.size + 1) W1 wr)
    (fun _ i _ => 8 - (intOf i).toNat)
  case atStart => exact ⟨0, by decide, rfl, World.ownsRow_nil _ _ _ _, Below.refl _ _⟩
  case round =>
    obtain ⟨k, hk, rfl, ho, hb⟩ := hrel
    have hw1 := HR1.out.lt
    have hbs := hb.size
    by_cases hlt : k < 8
    · have c2 : wr.cell? ⟨w.heap.size, k, none⟩ = some (.int .u32 ((d.getD k 0 : Nat) : Int)) := by
        rw [(HR1.out.below hb (by omega)).cell, ← hD.out]; exact u32s_get d k (by omega)
      obtain ⟨b0, b1, b2, b3⟩ := byte4 d k HDX.out
      have hxl : d.getD k 0 < 4294967296 := get32 HDX.out k
      have i1 : (k : Int) < 8 := by omega
      have HB := hid b0
      have HB1' := hid b1
      have HB2 := hid b2
      have HB3 := hid b3
      have HO := hid ho
      have HBB := hid hb
      clear ho b0 b1 b2 b3 hb
      generalize d.getD k 0 = x1 at *
      go_wp2
      refine tail.regionFrom 1 23 (by kernel_rfl) (by kernel_rfl) ?_
      simp only [List.take_succ_cons, List.take_zero, List.drop_succ_cons, List.drop_zero]
      repeat (go_big_quiet_step (fail))
      refine wpQuiet_nil ?_
      rintro _ ⟨nq, rfl⟩
      go_wp2_with (at_builtin; refine wpList_append_own _ rfl _ _ 22 rfl (w.heap.size + 1) 5 i0 (.int .u8 0) 1 1 Tryd.underlying22 hi hz0 hz1 hz2 rfl (by decide) _ _ _ rfl ((HO.out.drewN nq).alloc _) ⟨wr.heap.size, 0, none⟩ 4 4 [.int .u8 ((x1 : Int) / 16777216), .int .u8 ((x1 : Int) / 65536 % 256), .int .u8 ((x1 : Int) / 256 % 256), .int .u8 ((x1 : Int) % 256)] rfl rfl (cells_new _ _ _) (by intro u hu; simp at hu; rcases hu with rfl | rfl | rfl | rfl <;> rfl) (by unfold maxLen; omega) (by omega) (by simp; omega) ?_)
      intro v' w1 ho1 hg1 _
      go_wp2
      refine NoPanic.normal ?_
      go_wp2
      refine ⟨⟨k + 1, by omega, by go_num, ?_, ((below_drewN HBB.out nq).alloc (by simp; omega) _).grown hg1 (by simp; omega) (fun k hk => (HO.out.lt k hk).1)⟩, by simp [intOf]; omega⟩
      rw [range4, HB.out, HB1'.out, HB2.out, HB3.out, List.map_append]
      simpa [Nat.mul_add] using ho1
    · obtain rfl : k = 8 := by omega
      have hfin : ∀ v, wr.ownsRow (w.heap.size + 1) 5 1 v (4 * 8) (((List.range (4 * 8)).map (word.byteOf d)).map fun x : Nat => Value.int .u8 (x : Int)) → wr.ownsRow w.heap.size 5 1 v 32 (u8s (wordBytes d)) := fun v h => by
        have e : wordBytes d = (List.range (4 * 8)).map (word.byteOf d) := by rw [wordBytes, hd]
        rw [e]; exact ownsRow_base h (by omega)
      have hbf : Below w.heap.size w wr := HB1.out.trans (hb.mono (by omega))
      have ho' := hfin _ ho
      clear ho hb hfin
      go_wp2
      go_ret
      exact ⟨_, rfl, ho', hbf⟩
end Go.Proofs.YtlpbfkfamanaiaaDoor.sha
