/- Contract of New of layer 7 (flash), for every argument. No condition. -/
import Derived.Test.YtdpddcmbilipfaaFlashRepeat
import Derived.Test.YtdpddcmbilipfaaThree
import Derived.Conc.WalkWords
namespace Go.Proofs.Ytdpddcmbilipfaa.flash
open Go.RowKit Go.Proofs.Ytdpddcmbilipfaa.word
set_option linter.unusedVariables false

theorem new_bad (s l : Int) (h : s < 1 ∨ 512 < s ∨ l < 1 ∨ 1024 < l) (w : World) : Calls Try.prog 8 #[.int .i64 s, .int .i64 l] w (Quiet (.tuple #[.pointer none, .int .i64 2]) w) := by
  by_cases h1 : s < 1
  · go_enter Try.func8, Try.ntmps8
    go_wp2
    go_ret2
    exact ⟨rfl, 0, rfl⟩
  · by_cases h2 : 512 < s
    · go_enter Try.func8, Try.ntmps8
      go_wp2
      go_ret2
      exact ⟨rfl, 0, rfl⟩
    · by_cases h3 : l < 1
      · clear h
        go_enter Try.func8, Try.ntmps8
        go_wp2
        go_ret2
        exact ⟨rfl, 0, rfl⟩
      · have h4 : 1024 < l := by omega
        clear h
        go_enter Try.func8, Try.ntmps8
        go_wp2
        go_ret2
        exact ⟨rfl, 0, rfl⟩
theorem exec_make {P : Program} {o : Oper} {a : Act} {w w' : World} {t : TypeId} {l c : Operand} {n : Nat} {v : Value} (ho : o.op = .makeSlice t l c) (hl : a.eval l = .int .i64 n) (hc : a.eval c = .int .i64 n)
    (hrun : (Instr.makeSlice t (.int .i64 n) (.int .i64 n)).run P w = .ok v w') : (execOp a.eval o).run P w = .ok (.value v) w' := by
  unfold execOp
  simp [ho, hl, hc, hrun, Result.andThen]
theorem int_row {w : World} {g n base : Nat} (h : w.ownsRow base 3 1 (.slice (some ⟨g, 0, none⟩) n n) n (madeCells (Value.int .i64 0).cells (n * 1)).toList) (hn : n ≤ 512) : Row w 3 .i64 g n (List.replicate n 0) := by
  have hB := own_block h
  rw [show (Value.int .i64 0).cells = #[.int .i64 0] from rfl, toList_madeCells_one, Nat.mul_one] at hB
  exact ⟨[], by simpa using hB, by simp, by unfold maxLen; omega⟩
set_option maxHeartbeats 16000000 in
theorem new_any (s l : Nat) (h1 : 1 ≤ s) (h2 : s ≤ 512) (h3 : 1 ≤ l) (h4 : l ≤ 1024) (w : World) :
    Calls Try.prog 8 #[.int .i64 s, .int .i64 l] w fun e w' => ∃ b, e = .returned (.tuple #[.pointer (some ⟨b, 0, none⟩), .int .i64 0]) ∧ FlashAt (fun k => w.heap.size ≤ k) b (Fl.fresh s l) w' ∧ Below w.heap.size w w' := by
  have hsl : s * l ≤ 524288 := Nat.mul_le_mul h2 h4
  have hpos : 1 ≤ s * l := Nat.mul_pos h1 h3
  have hw : IntKind.i64.wrap ((s : Int) * (l : Int)) = ((s * l : Nat) : Int) := by
    rw [show (s : Int) * (l : Int) = ((s * l : Nat) : Int) by simp]
    exact IntWalk.i64_in _ (by omega)
  obtain ⟨N, hN⟩ : ∃ N, N = s * l := ⟨_, rfl⟩
  rw [← hN] at hsl hpos hw
  obtain ⟨i0, hi, hz0, hz1, hz2⟩ := info_parts int_info
  go_enter Try.func8, Try.ntmps8
  go_wp2
  refine plan.region (by kernel_rfl) ?_
  refine plan.Rest.first 1 _ (.int .i64 s) rfl (by kernel_rfl) (by kernel_rfl) (by kernel_rfl) (by kernel_rfl) (fun _ _ => by kernel_rfl) ?_
  refine plan.Rest.first 2 _ (.int .i64 l) rfl (by kernel_rfl) (by kernel_rfl) (by kernel_rfl) (by kernel_rfl) (fun _ _ => by kernel_rfl) ?_
  refine plan.Rest.first 3 _ (.int .i64 N) rfl (by kernel_rfl) (by kernel_rfl) (by kernel_rfl) (by kernel_rfl) (fun _ _ => by rw [← hw]; kernel_rfl) ?_
  refine plan.Rest.first 5 _ (.int .i64 l) rfl (by kernel_rfl) (by kernel_rfl) (by kernel_rfl) (by kernel_rfl) (fun _ _ => by kernel_rfl) ?_
  refine plan.Rest.first 6 _ (.int .i64 s) rfl (by kernel_rfl) (by kernel_rfl) (by kernel_rfl) (by kernel_rfl) (fun _ _ => by kernel_rfl) ?_
  refine plan.Rest.to3 20 24 27 4 (fun b0 b4 b7 => #[b0, true, true, true, b4, true, true, b7, false, false, false, false]) (by kernel_rfl) (by kernel_rfl) (by kernel_rfl) ?_
  refine plan.three _ w.drew 0 4 7 20 24 27 4 (by decide) (by decide) (by decide) _ _ _ (fun b0 b4 b7 => #[b0, true, true, true, b4, true, true, b7, false, false, false, false])
    rfl rfl rfl rfl rfl rfl rfl rfl rfl (fun _ _ => rfl) (fun _ => rfl) (fun _ _ => rfl) (by kernel_rfl) (by kernel_rfl) (by kernel_rfl) (by kernel_rfl) (by kernel_rfl)
    (fun g => .slice (some ⟨g, 0, none⟩) 1 1) (fun g => .slice (some ⟨g, 0, none⟩) N N) (fun g => .slice (some ⟨g, 0, none⟩) s s)
    (fun g w' => Block w' g 32 [.int .u32 4294967295]) (fun g w' => Row w' 32 .u32 g N (List.replicate N 4294967295)) (fun g w' => Row w' 3 .i64 g s (List.replicate s 0)) 26 (fun g => #[.slice (some ⟨g, 0, none⟩) 1 1, .int .i64 N])
    (fun g w1 w2 h hb => h.later hb) (fun g w1 w2 h hb => h.later hb) (fun g w1 w2 h hb => h.later hb) (fun g w1 h => h.lt) (fun g w1 h => h.lt)
    ?r0 ?r7 (fun g v4 v7 w' => by kernel_rfl) ?k4 ?rest undef undef undef
  case r0 =>
    intro v0 v4 v7 w'
    exact ⟨w'.alloc (.cells #[.int .u32 4294967295] 32), by kernel_rfl, (Below.refl _ w').alloc (Nat.le_refl _) _, Block.new w' _ [.int .u32 4294967295]⟩
  case r7 =>
    intro v0 v4 v7 w'
    obtain ⟨w2, hrun, ho, hg⟩ := run_make_full (P := Try.prog) (w := w') w'.heap.size 41 3 i0 (.int .i64 0) 1 Try.underlying41 hi hz0 hz1 .i64 .i64 s (by rw [hz2]; omega) (by unfold maxLen; omega) (Nat.le_refl _)
    exact ⟨w2, exec_make rfl (by kernel_rfl) (by kernel_rfl) hrun, Below.grown (Below.refl _ _) hg (Nat.le_refl _) (fun k h => by cases h), int_row ho h2⟩
  case k4 =>
    intro g w' hB
    refine (repeat_any g 4294967295 N w' (by rw [hB.cell]; rfl) hB.lt hpos (by omega)).mono ?_
    rintro e w2 ⟨g', rfl, hg, hr, hb⟩
    exact ⟨g', rfl, hg, hr, hb⟩
  case rest =>
    intro g g' g'' w' hg' hg'' hne hR4 hR7 hb
    have hB8 : Below w.drew.heap.size w.drew (w'.alloc (.cells #[.bool false, .int .i64 0, .slice none 0 0, .slice (some ⟨g', 0, none⟩) N N, .int .i64 (l : Int), .slice (some ⟨g'', 0, none⟩) s s, .int .i64 0, .bool false] 63)) := hb.alloc hb.size _
    refine plan.one 8 _ (.agg #[.bool false, .int .i64 0, .slice none 0 0, .slice (some ⟨g', 0, none⟩) N N, .int .i64 (l : Int), .slice (some ⟨g'', 0, none⟩) s s, .int .i64 0, .bool false]) rfl rfl (by kernel_rfl) (by kernel_rfl) hb ?_
    refine plan.one 9 _ (.pointer (some ⟨w'.heap.size, 0, none⟩)) (w1 := w'.alloc (.cells #[.bool false, .int .i64 0, .slice none 0 0, .slice (some ⟨g', 0, none⟩) N N, .int .i64 (l : Int), .slice (some ⟨g'', 0, none⟩) s s, .int .i64 0, .bool false] 63)) rfl rfl (by kernel_rfl) (by kernel_rfl) hB8 ?_
    refine plan.one 10 _ (.pointer (some ⟨w'.heap.size, 0, none⟩)) rfl rfl (by kernel_rfl) (by kernel_rfl) hB8 ?_
    refine plan.one 11 _ (.int .i64 0) rfl rfl (by kernel_rfl) (by kernel_rfl) hB8 ?_
    refine ⟨by kernel_rfl, NoPanic.normal ?_⟩
    have HB8 := hid hB8
    have HR4 := hid hR4
    have HR7 := hid hR7
    have HG := hid hg'
    have HG2 := hid hg''
    have HNE := hid hne
    have HB := hid hb
    clear hB8 hR4 hR7 hg' hg'' hne hb
    simp only [plan.at3]
    walk_nrm
    go_wp2
    go_ret2
    have hs : w.heap.size ≤ w'.heap.size := HB.out.size
    have l4 := HR4.out.lt
    have l7 := HR7.out.lt
    have hal : Below w'.heap.size w' (w'.alloc (.cells #[.bool false, .int .i64 0, .slice none 0 0, .slice (some ⟨g', 0, none⟩) N N, .int .i64 (l : Int), .slice (some ⟨g'', 0, none⟩) s s, .int .i64 0, .bool false] 63)) := (Below.refl _ _).alloc (Nat.le_refl _) _
    refine ⟨w'.heap.size, rfl, ⟨.bool false, .int .i64 0, .slice none 0 0, g', N, g'', s, ?_, ⟨rfl, rfl, rfl⟩, ?_, ?_, by omega, by omega, HNE.out, hs, HG.out, HG2.out⟩, (Below.trans (below_drewN (Below.refl _ _) 1) HB8.out : Below w.heap.size w _)⟩
    · have := Block.new w' 63 [.bool false, .int .i64 0, .slice none 0 0, .slice (some ⟨g', 0, none⟩) N N, .int .i64 (l : Int), .slice (some ⟨g'', 0, none⟩) s s, .int .i64 0, .bool false]
      simpa [Fl.fresh, ← hN] using this
    · have := HR4.out.later hal
      simpa [Fl.fresh, ← hN] using this
    · exact HR7.out.later hal
end Go.Proofs.Ytdpddcmbilipfaa.flash
