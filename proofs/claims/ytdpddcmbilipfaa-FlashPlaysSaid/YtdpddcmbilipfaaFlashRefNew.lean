/- Contract of the reference's New of layer 7, for every argument. No condition. -/
import Derived.Test.YtdpddcmbilipfaaFlashRef
import Derived.Test.YtdpddcmbilipfaaFlashNew
import Derived.Test.YtdpddcmbilipfaaAppendAt
namespace Go.Proofs.Ytdpddcmbilipfaa.flash
open Go.RowKit Go.Proofs.Ytdpddcmbilipfaa.word
set_option linter.unusedVariables false

theorem refNew_bad (s l : Int) (h : s < 1 ∨ 512 < s ∨ l < 1 ∨ 1024 < l) (w : World) : Calls Try.prog 9 #[.int .i64 s, .int .i64 l] w (Quiet (.pointer none) w) := by
  by_cases h1 : s < 1
  · go_enter Try.func9, Try.ntmps9
    go_wp2
    go_ret
    exact ⟨rfl, 0, rfl⟩
  · by_cases h2 : 512 < s
    · go_enter Try.func9, Try.ntmps9
      go_wp2
      go_ret
      exact ⟨rfl, 0, rfl⟩
    · by_cases h3 : l < 1
      · clear h
        go_enter Try.func9, Try.ntmps9
        go_wp2
        go_ret
        exact ⟨rfl, 0, rfl⟩
      · have h4 : 1024 < l := by omega
        clear h
        go_enter Try.func9, Try.ntmps9
        go_wp2
        go_ret
        exact ⟨rfl, 0, rfl⟩
def ones (n : Nat) : List Nat := List.replicate n 4294967295
theorem ones_succ (n : Nat) : nums .u32 (ones (n + 1)) = nums .u32 (ones n) ++ [.int .u32 4294967295] := by
  unfold nums ones
  rw [List.replicate_succ', List.map_append]
  rfl
/-- the flash while it is made: n words -/
structure Making (w : World) (g gV s l n : Nat) (v : Value) (wr : World) : Prop where
  blk : Block wr g 43 [v, .int .i64 (l : Int), .slice (some ⟨gV, 0, none⟩) s s, .int .i64 0, .bool false, .int .i64 (-1), .slice none 0 0]
  row : wr.ownsRow w.heap.size 32 1 v n (nums .u32 (ones n))
  ne : ∀ x, v.ownBlock = some x → x ≠ g ∧ x ≠ gV
  wn : Row wr 3 .i64 gV s (List.replicate s 0)
  gg : g ≠ gV
  g1 : w.heap.size ≤ g
  g2 : w.heap.size ≤ gV
  below : Below w.heap.size w wr
set_option maxHeartbeats 16000000 in
theorem refNew_any (s l : Nat) (h1 : 1 ≤ s) (h2 : s ≤ 512) (h3 : 1 ≤ l) (h4 : l ≤ 1024) (w : World) :
    Calls Try.prog 9 #[.int .i64 s, .int .i64 l] w fun e w' => ∃ g, e = .returned (.pointer (some ⟨g, 0, none⟩)) ∧ RefAt (fun k => w.heap.size ≤ k) g (Fl.fresh s l) w' ∧ Below w.heap.size w w' := by
  have hsl : s * l ≤ 524288 := Nat.mul_le_mul h2 h4
  have hpos : 1 ≤ s * l := Nat.mul_pos h1 h3
  have hpl : (s : Int) * (l : Int) = ((s * l : Nat) : Int) := by simp
  obtain ⟨N, hN⟩ : ∃ N, N = s * l := ⟨_, rfl⟩
  rw [← hN] at hsl hpos hpl
  obtain ⟨i0, hi, hz0, hz1, hz2⟩ := info_parts int_info
  obtain ⟨j0, hj, hy0, hy1, hy2⟩ := info_parts u32_info
  have HN := hid hN
  clear hN
  go_enter Try.func9, Try.ntmps9
  go_wp2_with (at_make; refine wpList_make_full _ rfl _ _ 41 rfl w.heap.size 3 i0 (.int .i64 0) 1 Try.underlying41 hi hz0 hz1 _ _ _ _ s rfl rfl rfl rfl (by rw [hz2]; omega) (by unfold maxLen; omega) (Nat.le_refl _) ?_)
  intro w1 hown hgrow
  have hB0 := own_block hown
  rw [toList_madeCells_one] at hB0
  have hR : Row w1 3 .i64 w.heap.size s (List.replicate s 0) := ⟨[], by simpa using hB0, by simp, by unfold maxLen; omega⟩
  clear hB0
  have hb1 : Below w.heap.size w w1 := Below.grown (Below.refl _ w) hgrow (Nat.le_refl _) (fun k h => by cases h)
  have hlt := hR.lt
  have hal : Below w1.heap.size w1 (w1.alloc (.cells #[.slice none 0 0, .int .i64 (l : Int), .slice (some ⟨w.heap.size, 0, none⟩) s s, .int .i64 0, .bool false, .int .i64 (-1), .slice none 0 0] 43)) := (Below.refl _ _).alloc (Nat.le_refl _) _
  have HM : Hid (Making w w1.heap.size w.heap.size s l 0 (.slice none 0 0) (w1.alloc (.cells #[.slice none 0 0, .int .i64 (l : Int), .slice (some ⟨w.heap.size, 0, none⟩) s s, .int .i64 0, .bool false, .int .i64 (-1), .slice none 0 0] 43))) :=
    hid ⟨Block.new w1 _ [.slice none 0 0, .int .i64 (l : Int), .slice (some ⟨w.heap.size, 0, none⟩) s s, .int .i64 0, .bool false, .int .i64 (-1), .slice none 0 0], World.ownsRow_nil _ _ _ _, (fun x hx => by cases hx), hR.later hal, by omega, hb1.size, Nat.le_refl _, hb1.trans (hal.mono hb1.size)⟩
  clear hR hown hgrow hb1 hal
  go_wp2
  go_loopw [6] (fun u wr => ∃ i : Nat, i ≤ N ∧ u = .int .i64 (i : Int) ∧ ∃ v, Hid (Making w w1.heap.size w.heap.size s l i v wr)) (fun u _ => N - (intOf u).toNat)
  case atStart => exact ⟨0, Nat.zero_le _, rfl, _, HM⟩
  case round =>
    obtain ⟨i, hiN, rfl, v, hM⟩ := hrel
    by_cases hlt2 : i < N
    · obtain ⟨va, vc, rfl, hvc⟩ := ownsRow_slice hM.out.row
      have d0 := hM.out.blk.cell 0
      have d0' : wr.cell? ⟨w1.heap.size, 0, none⟩ = some (.slice va i vc) := d0
      have hbA : Below wr.heap.size wr (wr.alloc (.cells #[.int .u32 4294967295] 32)) := (Below.refl _ _).alloc (Nat.le_refl _) _
      have HOW : Hid ((wr.alloc (.cells #[.int .u32 4294967295] 32)).ownsRow w.heap.size 32 1 (.slice va i vc) i (nums .u32 (ones i))) := hid (ownsRow_same hM.out.row fun x hx => hbA.block x (World.ownsRow.lt hM.out.row x hx).2)
      have HB2 := hid (hM.out.blk.later hbA)
      have HR2 := hid (hM.out.wn.later hbA)
      have HBA : Hid (Below w.heap.size w (wr.alloc (.cells #[.int .u32 4294967295] 32))) := hid (hM.out.below.trans (hbA.mono hM.out.below.size))
      have i1 : (i : Int) < N := by omega
      clear d0 hbA
      go_wp2_with (at_builtin; refine wpList_append_at_from rfl _ _ 33 rfl w.heap.size 32 j0 (.int .u32 0) 4 Try.underlying33 hj hy0 hy1 hy2 rfl (.slice va i vc) i (nums .u32 (ones i)) rfl HOW.out (some ⟨wr.heap.size, 0, none⟩) 1 1 [.int .u32 4294967295] rfl rfl (.inr ⟨_, rfl, one_new wr 32 (.int .u32 4294967295)⟩) (one_cell rfl) (by unfold maxLen; omega) (by omega) HBA.out.size ?_)
      intro v' w3 ho hg ha
      rw [← ones_succ] at ho
      obtain ⟨va', vc', rfl, hvc'⟩ := ownsRow_slice ho
      have hlg := HB2.out.lt
      have hlv := HR2.out.lt
      have B3 : Block w3 w1.heap.size 43 [.slice va i vc, .int .i64 (l : Int), .slice (some ⟨w.heap.size, 0, none⟩) s s, .int .i64 0, .bool false, .int .i64 (-1), .slice none 0 0] := (hg.block _ hlg (fun e => (hM.out.ne _ e.symm).1 rfl)).trans HB2.out
      have R3 : Row w3 3 .i64 w.heap.size s (List.replicate s 0) := HR2.out.heap (hg.block _ hlv (fun e => (hM.out.ne _ e.symm).2 rfl))
      have e3 := B3.cell 0
      have f3 := B3.frozen 0
      have hne' : ∀ x, (Value.slice va' (i + 1) vc').ownBlock = some x → x ≠ w1.heap.size ∧ x ≠ w.heap.size := by
        intro x hx
        rcases ha with e | e
        · rw [e] at hx; exact hM.out.ne x hx
        · rw [e] at hx
          cases hx
          have h1' := hM.out.blk.lt
          have h2' := hM.out.wn.lt
          exact ⟨by omega, by omega⟩
      have HM2 : Hid (Making w w1.heap.size w.heap.size s l (i + 1) (.slice va' (i + 1) vc') (w3.setCell ⟨w1.heap.size, 0, none⟩ (.slice va' (i + 1) vc'))) := hid (by
        refine ⟨B3.setCell 0 _, ownsRow_same ho fun x hx => Below.heap_setCell w3 ⟨w1.heap.size, 0, none⟩ _ x (hne' x hx).1, hne', R3.apart _ _ _ (by omega), hM.out.gg, hM.out.g1, hM.out.g2, ?_⟩
        exact below_setCells (HBA.out.grown hg HBA.out.size (fun k hk => (World.ownsRow.lt HOW.out k hk).1)) hM.out.g1 0 [_])
      clear ho hg ha B3 R3 hne' hM HOW HB2 HR2 HBA
      go_wp2
      exact ⟨⟨i + 1, by omega, by go_num, _, HM2⟩, by simp [intOf]; omega⟩
    · obtain rfl : i = N := by omega
      go_wp2
      go_ret
      have hM' := hM.out
      obtain ⟨q, cq, rfl, hq, hrow⟩ := Row.own hM'.row hpos
      have hqn := hM'.ne q rfl
      have hfl : (Fl.fresh s l).ws = ones i := by rw [HN.out]; rfl
      refine ⟨w1.heap.size, rfl, ⟨.slice none 0 0, q, cq, w.heap.size, s, ?_, trivial, by rw [hfl]; exact hrow, hM'.wn, fun e => hqn.1 e.symm, hM'.gg, hqn.2, hM'.g1, hq, hM'.g2⟩, hM'.below⟩
      have := hM'.blk
      simpa [Fl.fresh, afterOf, ← HN.out] using this
end Go.Proofs.Ytdpddcmbilipfaa.flash
