/- Contracts and lemmas that the claims of this seat share: Three, FlashNew, FlashRefNew, DriveRefNew, DriveNew, FlashLive, DriveLive, OpenWords, DriveOpen. Each says its own conditions. -/
import Derived.Test.YtcigijhoeghnnaaCmE
import Derived.Conc.WalkWords
import Derived.Test.YtcigijhoeghnnaaCmD
import Derived.Deep.RegionHeld3
import Derived.Test.YtcigijhoeghnnaaCmC
import Derived.Test.YtcigijhoeghnnaaCmA
import Derived.Deep.Slices
import Derived.Deep.Strs
import Derived.Lib.SmallJoins
/- A region whose order is open: a row that is made (0), a call that reads it and makes memory (4), and another row (7), which may come up at any time. Whatever the order, behind the three the state is the same but for where the rows lie. No condition. -/
namespace Go.Proofs.Ytcigijhoeghnnaa.plan
open Go Go.RowKit
set_option linter.unusedVariables false

section
variable {P : Program} {md : Region.Mode} {Q : Exit → Act → World → Prop} {l : List Oper}

/-- the frame, with the three results -/
def at3 (a0 : Act) (d0 d4 d7 : Nat) (v0 v4 v7 : Value) : Act := ((a0.put (some d0) v0).put (some d4) v4).put (some d7) v7

theorem three (a0 : Act) (w0 : World) (i0 i4 i7 d0 d4 d7 f : Nat) (n04 : d0 ≠ d4) (n07 : d0 ≠ d7) (n47 : d4 ≠ d7) (o0 o4 o7 : Oper) (L : Bool → Bool → Bool → Array Bool)
    (l0 : l[i0]? = some o0) (l4 : l[i4]? = some o4) (l7 : l[i7]? = some o7) (g0 : o0.guard = none) (g4 : o4.guard = none) (g7 : o7.guard = none) (s0 : o0.dst = some d0) (s4 : o4.dst = some d4) (s7 : o7.dst = some d7)
    (e0 : ∀ b4 b7, (L false b4 b7).setIfInBounds i0 true = L true b4 b7) (e4 : ∀ b7, (L true false b7).setIfInBounds i4 true = L true true b7) (e7 : ∀ b0 b4, (L b0 b4 false).setIfInBounds i7 true = L b0 b4 true)
    (q1 : Region.ready md l.toArray (L false false false) = [i0, i7]) (q2 : Region.ready md l.toArray (L true false false) = [i4, i7]) (q3 : Region.ready md l.toArray (L false false true) = [i0])
    (q4 : Region.ready md l.toArray (L true false true) = [i4]) (q5 : Region.ready md l.toArray (L true true false) = [i7])
    (V0 V4 V7 : Nat → Value) (R0 R4 R7 : Nat → World → Prop) (F : FuncId) (x4 : Nat → Array Value)
    (t0 : ∀ g w w', R0 g w → Below w.heap.size w w' → R0 g w') (t4 : ∀ g w w', R4 g w → Below w.heap.size w w' → R4 g w') (t7 : ∀ g w w', R7 g w → Below w.heap.size w w' → R7 g w')
    (lt4 : ∀ g w, R4 g w → g < w.heap.size) (lt7 : ∀ g w, R7 g w → g < w.heap.size)
    (r0 : ∀ v0 v4 v7 w, ∃ w', (execOp (at3 a0 d0 d4 d7 v0 v4 v7).eval o0).run P w = .ok (.value (V0 w.heap.size)) w' ∧ Below w.heap.size w w' ∧ R0 w.heap.size w')
    (r7 : ∀ v0 v4 v7 w, ∃ w', (execOp (at3 a0 d0 d4 d7 v0 v4 v7).eval o7).run P w = .ok (.value (V7 w.heap.size)) w' ∧ Below w.heap.size w w' ∧ R7 w.heap.size w')
    (r4 : ∀ g v4 v7 w, (execOp (at3 a0 d0 d4 d7 (V0 g) v4 v7).eval o4).run P w = .ok (.enter F (x4 g)) w)
    (k4 : ∀ g w, R0 g w → Calls P F (x4 g) w fun e w' => ∃ g', e = .returned (V4 g') ∧ w.heap.size ≤ g' ∧ R4 g' w' ∧ Below w.heap.size w w')
    (rest : ∀ g g' g'' w', w0.heap.size ≤ g' → w0.heap.size ≤ g'' → g' ≠ g'' → R4 g' w' → R7 g'' w' → Below w0.heap.size w0 w' →
      wpAnyH P md l.toArray (NoPanic Q) (Below w0.heap.size w0) f (L true true true) (at3 a0 d0 d4 d7 (V0 g) (V4 g') (V7 g'')) w')
    (u0 u4 u7 : Value) :
    wpAnyH P md l.toArray (NoPanic Q) (Below w0.heap.size w0) (f + 3) (L false false false) (at3 a0 d0 d4 d7 u0 u4 u7) w0 := by
  have p0 : ∀ v0 v4 v7 v, (at3 a0 d0 d4 d7 v0 v4 v7).put (some d0) v = at3 a0 d0 d4 d7 v v4 v7 := by
    intro v0 v4 v7 v
    unfold at3
    rw [put_comm _ d7 d0 _ _ n07.symm, put_comm _ d4 d0 _ _ n04.symm, put_same]
  have p4 : ∀ v0 v4 v7 v, (at3 a0 d0 d4 d7 v0 v4 v7).put (some d4) v = at3 a0 d0 d4 d7 v0 v v7 := by
    intro v0 v4 v7 v
    unfold at3
    rw [put_comm _ d7 d4 _ _ n47.symm, put_same]
  have p7 : ∀ v0 v4 v7 v, (at3 a0 d0 d4 d7 v0 v4 v7).put (some d7) v = at3 a0 d0 d4 d7 v0 v4 v := by
    intro v0 v4 v7 v
    unfold at3
    rw [put_same]
  refine every (by rw [q1]; simp) fun i hi => ?_
  rw [q1] at hi
  rcases List.mem_cons.1 hi with rfl | hi
  · obtain ⟨w1, h1, b1, z1⟩ := r0 u0 u4 u7 w0
    refine ⟨o0, l0, g0, .inl ⟨_, w1, h1, b1, ?_⟩⟩
    rw [e0, s0, p0]
    refine every (by rw [q2]; simp) fun i hi => ?_
    rw [q2] at hi
    rcases List.mem_cons.1 hi with rfl | hi
    · refine ⟨o4, l4, g4, .inr ⟨F, _, r4 _ _ _ _, (k4 _ w1 z1).mono ?_⟩⟩
      rintro e w2 ⟨g', rfl, hg', hR, b2⟩
      have B2 := b1.trans (b2.mono b1.size)
      refine ⟨_, rfl, B2, ?_⟩
      rw [e4, s4, p4]
      refine every (by rw [q5]; simp) fun i hi => ?_
      rw [q5] at hi
      obtain rfl : i = i7 := by simpa using hi
      obtain ⟨w3, h3, b3, z3⟩ := r7 (V0 w0.heap.size) (V4 g') u7 w2
      have B3 := B2.trans (b3.mono B2.size)
      refine ⟨o7, l7, g7, .inl ⟨_, w3, h3, B3, ?_⟩⟩
      rw [e7, s7, p7]
      have := lt4 _ _ hR
      have := b1.size
      exact rest _ _ _ _ (by omega) B2.size (by omega) (t4 _ _ _ hR b3) z3 B3
    · obtain rfl : i = i7 := by simpa using hi
      obtain ⟨w2, h2, b2, z2⟩ := r7 (V0 w0.heap.size) u4 u7 w1
      have B2 := b1.trans (b2.mono b1.size)
      refine ⟨o7, l7, g7, .inl ⟨_, w2, h2, B2, ?_⟩⟩
      rw [e7, s7, p7]
      refine every (by rw [q4]; simp) fun i hi => ?_
      rw [q4] at hi
      obtain rfl : i = i4 := by simpa using hi
      refine ⟨o4, l4, g4, .inr ⟨F, _, r4 _ _ _ _, (k4 _ w2 (t0 _ _ _ z1 b2)).mono ?_⟩⟩
      rintro e w3 ⟨g', rfl, hg', hR, b3⟩
      have B3 := B2.trans (b3.mono B2.size)
      refine ⟨_, rfl, B3, ?_⟩
      rw [e4, s4, p4]
      have := lt7 _ _ z2
      exact rest _ _ _ _ (by have := B2.size; omega) b1.size (by omega) hR (t7 _ _ _ z2 b3) B3
  · obtain rfl : i = i7 := by simpa using hi
    obtain ⟨w1, h1, b1, z1⟩ := r7 u0 u4 u7 w0
    refine ⟨o7, l7, g7, .inl ⟨_, w1, h1, b1, ?_⟩⟩
    rw [e7, s7, p7]
    refine every (by rw [q3]; simp) fun i hi => ?_
    rw [q3] at hi
    obtain rfl : i = i0 := by simpa using hi
    obtain ⟨w2, h2, b2, z2⟩ := r0 u0 u4 (V7 w0.heap.size) w1
    have B2 := b1.trans (b2.mono b1.size)
    refine ⟨o0, l0, g0, .inl ⟨_, w2, h2, B2, ?_⟩⟩
    rw [e0, s0, p0]
    refine every (by rw [q4]; simp) fun i hi => ?_
    rw [q4] at hi
    obtain rfl : i = i4 := by simpa using hi
    refine ⟨o4, l4, g4, .inr ⟨F, _, r4 _ _ _ _, (k4 _ w2 z2).mono ?_⟩⟩
    rintro e w3 ⟨g', rfl, hg', hR, b3⟩
    have B3 := B2.trans (b3.mono B2.size)
    refine ⟨_, rfl, B3, ?_⟩
    rw [e4, s4, p4]
    have := lt7 _ _ z1
    exact rest _ _ _ _ (by have := B2.size; omega) (Nat.le_refl _) (by have := b2.size; omega) hR (t7 _ _ _ z1 (b2.trans (b3.mono b2.size))) B3
theorem one {S : World → Prop} {f : Nat} {listed : Array Bool} {a : Act} {w w1 : World} (i : Nat) (o : Oper) (v : Value) (hi : l[i]? = some o) (hg : o.guard = none) (hr : Region.ready md l.toArray listed = [i])
    (hv : (execOp a.eval o).run P w = .ok (.value v) w1) (hS : S w1) (h : wpAnyH P md l.toArray (NoPanic Q) S f (listed.setIfInBounds i true) (a.put o.dst v) w1) : wpAnyH P md l.toArray (NoPanic Q) S (f + 1) listed a w := by
  refine every (by rw [hr]; simp) fun j hj => ?_
  rw [hr] at hj
  obtain rfl : j = i := by simpa using hj
  exact ⟨o, hi, hg, .inl ⟨v, w1, hv, hS, h⟩⟩
theorem Rest.to3 {n : Nat} {listed : Array Bool} {a : Act} {w : World} (d0 d4 d7 f : Nat) (L : Bool → Bool → Bool → Array Bool) (hf : n = f + 3) (hl : listed = L false false false) (ha : at3 a d0 d4 d7 undef undef undef = a)
    (h : wpAnyH P md l.toArray (NoPanic Q) (Below w.heap.size w) (f + 3) (L false false false) (at3 a d0 d4 d7 undef undef undef) w) : Rest P md l Q n listed a w := by
  subst hf hl
  rw [ha] at h
  exact h
end
end Go.Proofs.Ytcigijhoeghnnaa.plan
/- Contract of New of layer 7 (flash), for every argument. No condition. -/
namespace Go.Proofs.Ytcigijhoeghnnaa.flash
open Go.RowKit Go.Proofs.Ytcigijhoeghnnaa.word
set_option linter.unusedVariables false

theorem new_bad (s l : Int) (h : s < 1 ∨ 512 < s ∨ l < 1 ∨ 1024 < l) (w : World) : Calls Try.prog 10 #[.int .i64 s, .int .i64 l] w (Quiet (.tuple #[.pointer none, .int .i64 2]) w) := by
  by_cases h1 : s < 1
  · go_enter Try.func10, Try.ntmps10
    go_wp2
    go_ret2
    exact ⟨rfl, 0, rfl⟩
  · by_cases h2 : 512 < s
    · go_enter Try.func10, Try.ntmps10
      go_wp2
      go_ret2
      exact ⟨rfl, 0, rfl⟩
    · by_cases h3 : l < 1
      · clear h
        go_enter Try.func10, Try.ntmps10
        go_wp2
        go_ret2
        exact ⟨rfl, 0, rfl⟩
      · have h4 : 1024 < l := by omega
        clear h
        go_enter Try.func10, Try.ntmps10
        go_wp2
        go_ret2
        exact ⟨rfl, 0, rfl⟩
theorem exec_make {P : Program} {o : Oper} {a : Act} {w w' : World} {t : TypeId} {l c : Operand} {n : Nat} {v : Value} (ho : o.op = .makeSlice t l c) (hl : a.eval l = .int .i64 n) (hc : a.eval c = .int .i64 n)
    (hrun : (Instr.makeSlice t (.int .i64 n) (.int .i64 n)).run P w = .ok v w') : (execOp a.eval o).run P w = .ok (.value v) w' := by
  unfold execOp
  simp [ho, hl, hc, hrun, Result.andThen]
theorem int_row {w : World} {g n base : Nat} (h : w.ownsRow base 3 1 (.slice (some ⟨g, 0, none⟩) n n) n (madeCells (Value.int .i64 0).cells (n * 1)).toList) (hn : n ≤ 512) : Row w 3 .i64 g n (List.replicate n 0) := by
  have hB := own_block h
  rw [show (Value.int .i64 0).cells = #[.int .i64 0] from rfl, toList_madeCells_one, Nat.mul_one] at hB
  exact ⟨[], by simpa using hB, by simp, by unfold maxLen; omega⟩
set_option maxHeartbeats 16000000 in
set_option maxRecDepth 20000 in
theorem new_any (s l : Nat) (h1 : 1 ≤ s) (h2 : s ≤ 512) (h3 : 1 ≤ l) (h4 : l ≤ 1024) (w : World) :
    Calls Try.prog 10 #[.int .i64 s, .int .i64 l] w fun e w' => ∃ b, e = .returned (.tuple #[.pointer (some ⟨b, 0, none⟩), .int .i64 0]) ∧ FlashAt (fun k => w.heap.size ≤ k) b (Fl.fresh s l) w' ∧ Below w.heap.size w w' := by
  have hsl : s * l ≤ 524288 := Nat.mul_le_mul h2 h4
  have hpos : 1 ≤ s * l := Nat.mul_pos h1 h3
  have hw : IntKind.i64.wrap ((s : Int) * (l : Int)) = ((s * l : Nat) : Int) := by
    rw [show (s : Int) * (l : Int) = ((s * l : Nat) : Int) by simp]
    exact IntWalk.i64_in _ (by omega)
  obtain ⟨N, hN⟩ : ∃ N, N = s * l := ⟨_, rfl⟩
  rw [← hN] at hsl hpos hw
  obtain ⟨i0, hi, hz0, hz1, hz2⟩ := info_parts int_info
  go_enter Try.func10, Try.ntmps10
  go_wp2
  refine plan.region (by kernel_rfl) ?_
  refine plan.Rest.first 1 _ (.int .i64 s) rfl (by kernel_rfl) (by kernel_rfl) (by kernel_rfl) (by kernel_rfl) (fun _ _ => by kernel_rfl) ?_
  refine plan.Rest.first 2 _ (.int .i64 l) rfl (by kernel_rfl) (by kernel_rfl) (by kernel_rfl) (by kernel_rfl) (fun _ _ => by kernel_rfl) ?_
  refine plan.Rest.first 3 _ (.int .i64 N) rfl (by kernel_rfl) (by kernel_rfl) (by kernel_rfl) (by kernel_rfl) (fun _ _ => by rw [← hw]; kernel_rfl) ?_
  refine plan.Rest.first 5 _ (.int .i64 l) rfl (by kernel_rfl) (by kernel_rfl) (by kernel_rfl) (by kernel_rfl) (fun _ _ => by kernel_rfl) ?_
  refine plan.Rest.first 6 _ (.int .i64 s) rfl (by kernel_rfl) (by kernel_rfl) (by kernel_rfl) (by kernel_rfl) (fun _ _ => by kernel_rfl) ?_
  refine plan.Rest.to3 20 24 27 4 (fun b0 b4 b7 => #[b0, true, true, true, b4, true, true, b7, false, false, false, false]) (by kernel_rfl) (by kernel_rfl) (by kernel_rfl) ?_
  refine plan.three _ w.drew 0 4 7 20 24 27 4 (by decide) (by decide) (by decide) _ _ _ (fun b0 b4 b7 => #[b0, true, true, true, b4, true, true, b7, false, false, false, false])
    rfl rfl rfl rfl rfl rfl rfl rfl rfl (fun _ _ => rfl) (fun _ => rfl) (fun _ _ => rfl) (by kernel_rfl) (by kernel_rfl) (by kernel_rfl) (by kernel_rfl) (by kernel_rfl)
    (fun g => .slice (some ⟨g, 0, none⟩) 1 1) (fun g => .slice (some ⟨g, 0, none⟩) N N) (fun g => .slice (some ⟨g, 0, none⟩) s s)
    (fun g w' => Block w' g 55 [.int .u32 4294967295]) (fun g w' => Row w' 55 .u32 g N (List.replicate N 4294967295)) (fun g w' => Row w' 3 .i64 g s (List.replicate s 0)) 26 (fun g => #[.slice (some ⟨g, 0, none⟩) 1 1, .int .i64 N])
    (fun g w1 w2 h hb => h.later hb) (fun g w1 w2 h hb => h.later hb) (fun g w1 w2 h hb => h.later hb) (fun g w1 h => h.lt) (fun g w1 h => h.lt)
    ?r0 ?r7 (fun g v4 v7 w' => by kernel_rfl) ?k4 ?rest undef undef undef
  case r0 =>
    intro v0 v4 v7 w'
    exact ⟨w'.alloc (.cells #[.int .u32 4294967295] 55), by kernel_rfl, (Below.refl _ w').alloc (Nat.le_refl _) _, Block.new w' _ [.int .u32 4294967295]⟩
  case r7 =>
    intro v0 v4 v7 w'
    obtain ⟨w2, hrun, ho, hg⟩ := run_make_full (P := Try.prog) (w := w') w'.heap.size 47 3 i0 (.int .i64 0) 1 Try.underlying47 hi hz0 hz1 .i64 .i64 s (by rw [hz2]; omega) (by unfold maxLen; omega) (Nat.le_refl _)
    exact ⟨w2, exec_make rfl (by kernel_rfl) (by kernel_rfl) hrun, Below.grown (Below.refl _ _) hg (Nat.le_refl _) (fun k h => by cases h), int_row ho h2⟩
  case k4 =>
    intro g w' hB
    refine (repeat_any g 4294967295 N w' (by rw [hB.cell]; rfl) hB.lt hpos (by omega)).mono ?_
    rintro e w2 ⟨g', rfl, hg, hr, hb⟩
    exact ⟨g', rfl, hg, hr, hb⟩
  case rest =>
    intro g g' g'' w' hg' hg'' hne hR4 hR7 hb
    have hB8 : Below w.drew.heap.size w.drew (w'.alloc (.cells #[.bool false, .int .i64 0, .slice none 0 0, .slice (some ⟨g', 0, none⟩) N N, .int .i64 (l : Int), .slice (some ⟨g'', 0, none⟩) s s, .int .i64 0, .bool false] 72)) := hb.alloc hb.size _
    refine plan.one 8 _ (.agg #[.bool false, .int .i64 0, .slice none 0 0, .slice (some ⟨g', 0, none⟩) N N, .int .i64 (l : Int), .slice (some ⟨g'', 0, none⟩) s s, .int .i64 0, .bool false]) rfl rfl (by kernel_rfl) (by kernel_rfl) hb ?_
    refine plan.one 9 _ (.pointer (some ⟨w'.heap.size, 0, none⟩)) (w1 := w'.alloc (.cells #[.bool false, .int .i64 0, .slice none 0 0, .slice (some ⟨g', 0, none⟩) N N, .int .i64 (l : Int), .slice (some ⟨g'', 0, none⟩) s s, .int .i64 0, .bool false] 72)) rfl rfl (by kernel_rfl) (by kernel_rfl) hB8 ?_
    refine plan.one 10 _ (.pointer (some ⟨w'.heap.size, 0, none⟩)) rfl rfl (by kernel_rfl) (by kernel_rfl) hB8 ?_
    refine plan.one 11 _ (.int .i64 0) rfl rfl (by kernel_rfl) (by kernel_rfl) hB8 ?_
    refine ⟨by kernel_rfl, NoPanic.normal ?_⟩
    have HB8 := hid hB8
    have HR4 := hid hR4
    have HR7 := hid hR7
    have HG := hid hg'
    have HG2 := hid hg''
    have HNE := hid hne
    have HB := hid hb
    clear hB8 hR4 hR7 hg' hg'' hne hb
    simp only [plan.at3]
    walk_nrm
    go_wp2
    go_ret2
    have hs : w.heap.size ≤ w'.heap.size := HB.out.size
    have l4 := HR4.out.lt
    have l7 := HR7.out.lt
    have hal : Below w'.heap.size w' (w'.alloc (.cells #[.bool false, .int .i64 0, .slice none 0 0, .slice (some ⟨g', 0, none⟩) N N, .int .i64 (l : Int), .slice (some ⟨g'', 0, none⟩) s s, .int .i64 0, .bool false] 72)) := (Below.refl _ _).alloc (Nat.le_refl _) _
    refine ⟨w'.heap.size, rfl, ⟨.bool false, .int .i64 0, .slice none 0 0, g', N, g'', s, ?_, ⟨rfl, rfl, rfl⟩, ?_, ?_, by omega, by omega, HNE.out, hs, HG.out, HG2.out⟩, (Below.trans (below_drewN (Below.refl _ _) 1) HB8.out : Below w.heap.size w _)⟩
    · have := Block.new w' 72 [.bool false, .int .i64 0, .slice none 0 0, .slice (some ⟨g', 0, none⟩) N N, .int .i64 (l : Int), .slice (some ⟨g'', 0, none⟩) s s, .int .i64 0, .bool false]
      simpa [Fl.fresh, ← hN] using this
    · have := HR4.out.later hal
      simpa [Fl.fresh, ← hN] using this
    · exact HR7.out.later hal
end Go.Proofs.Ytcigijhoeghnnaa.flash
/- Contract of the reference's New of layer 7, for every argument. No condition. -/
namespace Go.Proofs.Ytcigijhoeghnnaa.flash
open Go.RowKit Go.Proofs.Ytcigijhoeghnnaa.word
set_option linter.unusedVariables false

theorem refNew_bad (s l : Int) (h : s < 1 ∨ 512 < s ∨ l < 1 ∨ 1024 < l) (w : World) : Calls Try.prog 30 #[.int .i64 s, .int .i64 l] w (Quiet (.pointer none) w) := by
  by_cases h1 : s < 1
  · go_enter Try.func30, Try.ntmps30
    go_wp2
    go_ret
    exact ⟨rfl, 0, rfl⟩
  · by_cases h2 : 512 < s
    · go_enter Try.func30, Try.ntmps30
      go_wp2
      go_ret
      exact ⟨rfl, 0, rfl⟩
    · by_cases h3 : l < 1
      · clear h
        go_enter Try.func30, Try.ntmps30
        go_wp2
        go_ret
        exact ⟨rfl, 0, rfl⟩
      · have h4 : 1024 < l := by omega
        clear h
        go_enter Try.func30, Try.ntmps30
        go_wp2
        go_ret
        exact ⟨rfl, 0, rfl⟩
def ones (n : Nat) : List Nat := List.replicate n 4294967295
theorem ones_succ (n : Nat) : nums .u32 (ones (n + 1)) = nums .u32 (ones n) ++ [.int .u32 4294967295] := by
  unfold nums ones
  rw [List.replicate_succ', List.map_append]
  rfl
/-- the flash while it is made: n words -/
structure Making (w : World) (g gV s l n : Nat) (v : Value) (wr : World) : Prop where
  blk : Block wr g 49 [v, .int .i64 (l : Int), .slice (some ⟨gV, 0, none⟩) s s, .int .i64 0, .bool false, .int .i64 (-1), .slice none 0 0]
  row : wr.ownsRow w.heap.size 55 1 v n (nums .u32 (ones n))
  ne : ∀ x, v.ownBlock = some x → x ≠ g ∧ x ≠ gV
  wn : Row wr 3 .i64 gV s (List.replicate s 0)
  gg : g ≠ gV
  g1 : w.heap.size ≤ g
  g2 : w.heap.size ≤ gV
  below : Below w.heap.size w wr
set_option maxHeartbeats 16000000 in
set_option maxRecDepth 20000 in
theorem refNew_any (s l : Nat) (h1 : 1 ≤ s) (h2 : s ≤ 512) (h3 : 1 ≤ l) (h4 : l ≤ 1024) (w : World) :
    Calls Try.prog 30 #[.int .i64 s, .int .i64 l] w fun e w' => ∃ g, e = .returned (.pointer (some ⟨g, 0, none⟩)) ∧ RefAt (fun k => w.heap.size ≤ k) g (Fl.fresh s l) w' ∧ Below w.heap.size w w' := by
  have hsl : s * l ≤ 524288 := Nat.mul_le_mul h2 h4
  have hpos : 1 ≤ s * l := Nat.mul_pos h1 h3
  have hpl : (s : Int) * (l : Int) = ((s * l : Nat) : Int) := by simp
  obtain ⟨N, hN⟩ : ∃ N, N = s * l := ⟨_, rfl⟩
  rw [← hN] at hsl hpos hpl
  obtain ⟨i0, hi, hz0, hz1, hz2⟩ := info_parts int_info
  obtain ⟨j0, hj, hy0, hy1, hy2⟩ := info_parts u32_info
  have HN := hid hN
  clear hN
  go_enter Try.func30, Try.ntmps30
  go_wp2_with (at_make; refine wpList_make_full _ rfl _ _ 47 rfl w.heap.size 3 i0 (.int .i64 0) 1 Try.underlying47 hi hz0 hz1 _ _ _ _ s rfl rfl rfl rfl (by rw [hz2]; omega) (by unfold maxLen; omega) (Nat.le_refl _) ?_)
  intro w1 hown hgrow
  have hB0 := own_block hown
  rw [toList_madeCells_one] at hB0
  have hR : Row w1 3 .i64 w.heap.size s (List.replicate s 0) := ⟨[], by simpa using hB0, by simp, by unfold maxLen; omega⟩
  clear hB0
  have hb1 : Below w.heap.size w w1 := Below.grown (Below.refl _ w) hgrow (Nat.le_refl _) (fun k h => by cases h)
  have hlt := hR.lt
  have hal : Below w1.heap.size w1 (w1.alloc (.cells #[.slice none 0 0, .int .i64 (l : Int), .slice (some ⟨w.heap.size, 0, none⟩) s s, .int .i64 0, .bool false, .int .i64 (-1), .slice none 0 0] 49)) := (Below.refl _ _).alloc (Nat.le_refl _) _
  have HM : Hid (Making w w1.heap.size w.heap.size s l 0 (.slice none 0 0) (w1.alloc (.cells #[.slice none 0 0, .int .i64 (l : Int), .slice (some ⟨w.heap.size, 0, none⟩) s s, .int .i64 0, .bool false, .int .i64 (-1), .slice none 0 0] 49))) :=
    hid ⟨Block.new w1 _ [.slice none 0 0, .int .i64 (l : Int), .slice (some ⟨w.heap.size, 0, none⟩) s s, .int .i64 0, .bool false, .int .i64 (-1), .slice none 0 0], World.ownsRow_nil _ _ _ _, (fun x hx => by cases hx), hR.later hal, by omega, hb1.size, Nat.le_refl _, hb1.trans (hal.mono hb1.size)⟩
  clear hR hown hgrow hb1 hal
  go_wp2
  go_loopw [6] (fun u wr => ∃ i : Nat, i ≤ N ∧ u = .int .i64 (i : Int) ∧ ∃ v, Hid (Making w w1.heap.size w.heap.size s l i v wr)) (fun u _ => N - (intOf u).toNat)
  case atStart => exact ⟨0, Nat.zero_le _, rfl, _, HM⟩
  case round =>
    obtain ⟨i, hiN, rfl, v, hM⟩ := hrel
    by_cases hlt2 : i < N
    · obtain ⟨va, vc, rfl, hvc⟩ := ownsRow_slice hM.out.row
      have d0 := hM.out.blk.cell 0
      have d0' : wr.cell? ⟨w1.heap.size, 0, none⟩ = some (.slice va i vc) := d0
      have hbA : Below wr.heap.size wr (wr.alloc (.cells #[.int .u32 4294967295] 55)) := (Below.refl _ _).alloc (Nat.le_refl _) _
      have HOW : Hid ((wr.alloc (.cells #[.int .u32 4294967295] 55)).ownsRow w.heap.size 55 1 (.slice va i vc) i (nums .u32 (ones i))) := hid (ownsRow_same hM.out.row fun x hx => hbA.block x (World.ownsRow.lt hM.out.row x hx).2)
      have HB2 := hid (hM.out.blk.later hbA)
      have HR2 := hid (hM.out.wn.later hbA)
      have HBA : Hid (Below w.heap.size w (wr.alloc (.cells #[.int .u32 4294967295] 55))) := hid (hM.out.below.trans (hbA.mono hM.out.below.size))
      have i1 : (i : Int) < N := by omega
      clear d0 hbA
      go_wp2_with (at_builtin; refine wpList_append_at_from rfl _ _ 39 rfl w.heap.size 55 j0 (.int .u32 0) 4 Try.underlying39 hj hy0 hy1 hy2 rfl (.slice va i vc) i (nums .u32 (ones i)) rfl HOW.out (some ⟨wr.heap.size, 0, none⟩) 1 1 [.int .u32 4294967295] rfl rfl (.inr ⟨_, rfl, one_new wr 55 (.int .u32 4294967295)⟩) (one_cell rfl) (by unfold maxLen; omega) (by omega) HBA.out.size ?_)
      intro v' w3 ho hg ha
      rw [← ones_succ] at ho
      obtain ⟨va', vc', rfl, hvc'⟩ := ownsRow_slice ho
      have hlg := HB2.out.lt
      have hlv := HR2.out.lt
      have B3 : Block w3 w1.heap.size 49 [.slice va i vc, .int .i64 (l : Int), .slice (some ⟨w.heap.size, 0, none⟩) s s, .int .i64 0, .bool false, .int .i64 (-1), .slice none 0 0] := (hg.block _ hlg (fun e => (hM.out.ne _ e.symm).1 rfl)).trans HB2.out
      have R3 : Row w3 3 .i64 w.heap.size s (List.replicate s 0) := HR2.out.heap (hg.block _ hlv (fun e => (hM.out.ne _ e.symm).2 rfl))
      have e3 := B3.cell 0
      have f3 := B3.frozen 0
      have hne' : ∀ x, (Value.slice va' (i + 1) vc').ownBlock = some x → x ≠ w1.heap.size ∧ x ≠ w.heap.size := by
        intro x hx
        rcases ha with e | e
        · rw [e] at hx; exact hM.out.ne x hx
        · rw [e] at hx
          cases hx
          have h1' := hM.out.blk.lt
          have h2' := hM.out.wn.lt
          exact ⟨by omega, by omega⟩
      have HM2 : Hid (Making w w1.heap.size w.heap.size s l (i + 1) (.slice va' (i + 1) vc') (w3.setCell ⟨w1.heap.size, 0, none⟩ (.slice va' (i + 1) vc'))) := hid (by
        refine ⟨B3.setCell 0 _, ownsRow_same ho fun x hx => Below.heap_setCell w3 ⟨w1.heap.size, 0, none⟩ _ x (hne' x hx).1, hne', R3.apart _ _ _ (by omega), hM.out.gg, hM.out.g1, hM.out.g2, ?_⟩
        exact below_setCells (HBA.out.grown hg HBA.out.size (fun k hk => (World.ownsRow.lt HOW.out k hk).1)) hM.out.g1 0 [_])
      clear ho hg ha B3 R3 hne' hM HOW HB2 HR2 HBA
      go_wp2
      exact ⟨⟨i + 1, by omega, by go_num, _, HM2⟩, by simp [intOf]; omega⟩
    · obtain rfl : i = N := by omega
      go_wp2
      go_ret
      have hM' := hM.out
      obtain ⟨q, cq, rfl, hq, hrow⟩ := Row.own hM'.row hpos
      have hqn := hM'.ne q rfl
      have hfl : (Fl.fresh s l).ws = ones i := by rw [HN.out]; rfl
      refine ⟨w1.heap.size, rfl, ⟨.slice none 0 0, q, cq, w.heap.size, s, ?_, trivial, by rw [hfl]; exact hrow, hM'.wn, fun e => hqn.1 e.symm, hM'.gg, hqn.2, hM'.g1, hq, hM'.g2⟩, hM'.below⟩
      have := hM'.blk
      simpa [Fl.fresh, afterOf, ← HN.out] using this
end Go.Proofs.Ytcigijhoeghnnaa.flash
/- Contract of the reference's New of layer 9, and of Small of layer 8. No condition. -/
namespace Go.Proofs.Ytcigijhoeghnnaa.drive
open Go.RowKit Go.Proofs.Ytcigijhoeghnnaa.flash Go.Proofs.Ytcigijhoeghnnaa.geom Go.Proofs.Ytcigijhoeghnnaa.word
set_option linter.unusedVariables false

theorem map_this (g : Geo) (M : Nat) (hM : (M : Int) = g.sectors) (w0 w : World) (hb : Below w0.heap.size w0 w) : Calls Try.prog 9 #[.agg #[.int .i64 g.sector, .int .i64 g.slot, .int .i64 g.data, .int .i64 g.quota, .int .i64 g.tries, .int .i64 g.life]] w fun e w' => ∃ a c, e = .returned (.slice a M c) ∧ Below w0.heap.size w0 w' := by
  refine (map_any g w).mono ?_
  rintro e w' ⟨a, c, n, he, hn, _, hb2⟩
  obtain rfl : n = M := by omega
  exact ⟨a, c, he, hb.trans (hb2.mono hb.size)⟩
set_option maxHeartbeats 4000000 in
theorem refNew_this {g : Geo} (h : g.Right) (w : World) :
    Calls Try.prog 12 #[.agg #[.int .i64 g.sector, .int .i64 g.slot, .int .i64 g.data, .int .i64 g.quota, .int .i64 g.tries, .int .i64 g.life]] w fun e w' => ∃ d b S, e = .returned (.pointer (some ⟨d, 0, none⟩)) ∧ RDriveAt S d b g (first g) w' ∧ (∀ x, S x → w.heap.size ≤ x ∧ x < w'.heap.size) ∧ w.heap.size ≤ d ∧ Below w.heap.size w w' := by
  have HS := hid (six g w)
  have HB := hid (belowNew g w)
  have hb0 : Below (w.alloc (.cells #[.int .i64 g.sector, .int .i64 g.slot, .int .i64 g.data, .int .i64 g.quota, .int .i64 g.tries, .int .i64 g.life] 23)).heap.size (w.alloc (.cells #[.int .i64 g.sector, .int .i64 g.slot, .int .i64 g.data, .int .i64 g.quota, .int .i64 g.tries, .int .i64 g.life] 23)) (w.alloc (.cells #[.int .i64 g.sector, .int .i64 g.slot, .int .i64 g.data, .int .i64 g.quota, .int .i64 g.tries, .int .i64 g.life] 23)) := Below.refl _ _
  have hb1' : Below (w.alloc (.cells #[.int .i64 g.sector, .int .i64 g.slot, .int .i64 g.data, .int .i64 g.quota, .int .i64 g.tries, .int .i64 g.life] 23)).heap.size (w.alloc (.cells #[.int .i64 g.sector, .int .i64 g.slot, .int .i64 g.data, .int .i64 g.quota, .int .i64 g.tries, .int .i64 g.life] 23)) (w.alloc (.cells #[.int .i64 g.sector, .int .i64 g.slot, .int .i64 g.data, .int .i64 g.quota, .int .i64 g.tries, .int .i64 g.life] 23)).drew := below_drewN (Below.refl _ _) 1
  have hk0 := HS.out _ hb0
  have hk0' := HS.out _ hb1'
  have hrb := right_bounds h
  have cm := fun w1 hb => map_this g g.sectors.toNat (by omega) (w.alloc (.cells #[.int .i64 g.sector, .int .i64 g.slot, .int .i64 g.data, .int .i64 g.quota, .int .i64 g.tries, .int .i64 g.life] 23)) w1 hb
  have cn : ∀ w1, Below (w.alloc (.cells #[.int .i64 g.sector, .int .i64 g.slot, .int .i64 g.data, .int .i64 g.quota, .int .i64 g.tries, .int .i64 g.life] 23)).heap.size (w.alloc (.cells #[.int .i64 g.sector, .int .i64 g.slot, .int .i64 g.data, .int .i64 g.quota, .int .i64 g.tries, .int .i64 g.life] 23)) w1 → Calls Try.prog 30 #[.int .i64 (g.sectors.toNat : Nat), .int .i64 g.sector] w1 fun e w' => ∃ b S, e = .returned (.pointer (some ⟨b, 0, none⟩)) ∧ RefAt S b (first g) w' ∧ (∀ x, S x → w.heap.size ≤ x ∧ x < w'.heap.size) ∧ Below (w.alloc (.cells #[.int .i64 g.sector, .int .i64 g.slot, .int .i64 g.data, .int .i64 g.quota, .int .i64 g.tries, .int .i64 g.life] 23)).heap.size (w.alloc (.cells #[.int .i64 g.sector, .int .i64 g.slot, .int .i64 g.data, .int .i64 g.quota, .int .i64 g.tries, .int .i64 g.life] 23)) w' := fun w1 hb => by
    have := refNew_any g.sectors.toNat g.sector.toNat (by omega) (by omega) (by omega) (by omega) w1
    rw [show ((g.sector.toNat : Nat) : Int) = g.sector by omega] at this
    refine this.mono ?_
    rintro e w' ⟨b, he, hA, hb2⟩
    have hle : w.heap.size ≤ w1.heap.size := (HB.out w1 hb).size
    exact ⟨b, _, he, RefAt.clip hA, fun x hx => ⟨Nat.le_trans hle hx.1, hx.2⟩, hb.trans (hb2.mono hb.size)⟩
  clear h hrb
  generalize hM : g.sectors.toNat = M at *
  clear hM
  go_enter Try.func12, Try.ntmps12
  go_wp2
  go_region_held3 (fun w' => (w'.cell? ⟨w.heap.size, 0, none⟩ = some (.int .i64 g.sector) ∧ w'.cell? ⟨w.heap.size, 1, none⟩ = some (.int .i64 g.slot) ∧ w'.cell? ⟨w.heap.size, 2, none⟩ = some (.int .i64 g.data) ∧ w'.cell? ⟨w.heap.size, 3, none⟩ = some (.int .i64 g.quota) ∧ w'.cell? ⟨w.heap.size, 4, none⟩ = some (.int .i64 g.tries) ∧ w'.cell? ⟨w.heap.size, 5, none⟩ = some (.int .i64 g.life))) (first | assumption | go_keep) (first
    | (go_at_call 9; (with_reducible refine (cm _ hb1').mono ?_); rintro e w2 ⟨ma, mc, rfl, hb2⟩; have hk2 := HS.out w2 hb2)
    | (go_at_call 30; (with_reducible refine (cn _ hb2).mono ?_); rintro e w3 ⟨b, S, rfl, hA, hSS, hb3⟩; have hk3 := HS.out w3 hb3))
  go_wp2
  go_ret
  have hbw := HB.out _ hb3
  have hbA : Below w3.heap.size w3 (w3.alloc (.cells #[.pointer (some ⟨b, 0, none⟩), .int .i64 g.sector, .int .i64 g.slot, .int .i64 g.data, .int .i64 g.quota, .int .i64 g.tries, .int .i64 g.life] 52)) := (Below.refl _ _).alloc (Nat.le_refl _) _
  exact ⟨w3.heap.size, b, S, rfl, ⟨Block.new w3 _ [.pointer (some ⟨b, 0, none⟩), .int .i64 g.sector, .int .i64 g.slot, .int .i64 g.data, .int .i64 g.quota, .int .i64 g.tries, .int .i64 g.life], hA.later hbA, fun hs => by have := (hSS _ hs).2; omega⟩, fun x hx => ⟨(hSS x hx).1, Nat.lt_of_lt_of_le (hSS x hx).2 hbA.size⟩, hbw.size, hbw.trans (hbA.mono hbw.size)⟩
/-- a geometry that is small -/
def Small (g : Geo) : Prop := g.Right ∧ g.sector ≤ 128 ∧ g.sectors ≤ 60
theorem small_this (g : Geo) (v : Bool) (hv : Hid (v = true ↔ Small g)) (w : World) : Calls Try.prog 6 #[.agg #[.int .i64 g.sector, .int .i64 g.slot, .int .i64 g.data, .int .i64 g.quota, .int .i64 g.tries, .int .i64 g.life]] w fun e w' => e = .returned (.bool v) ∧ Below w.heap.size w w' := by
  have HS := hid (six g w)
  have HB := hid (belowNew g w)
  have hb0 : Below (w.alloc (.cells #[.int .i64 g.sector, .int .i64 g.slot, .int .i64 g.data, .int .i64 g.quota, .int .i64 g.tries, .int .i64 g.life] 23)).heap.size (w.alloc (.cells #[.int .i64 g.sector, .int .i64 g.slot, .int .i64 g.data, .int .i64 g.quota, .int .i64 g.tries, .int .i64 g.life] 23)) (w.alloc (.cells #[.int .i64 g.sector, .int .i64 g.slot, .int .i64 g.data, .int .i64 g.quota, .int .i64 g.tries, .int .i64 g.life] 23)) := Below.refl _ _
  have hk0 := HS.out _ hb0
  by_cases hr : g.Right
  · have cr := fun w1 hb => right_yes_at g hr (w.alloc (.cells #[.int .i64 g.sector, .int .i64 g.slot, .int .i64 g.data, .int .i64 g.quota, .int .i64 g.tries, .int .i64 g.life] 23)) w1 hb
    have hrb := right_bounds hr
    have cm := fun w1 hb => map_this g g.sectors.toNat (by omega) (w.alloc (.cells #[.int .i64 g.sector, .int .i64 g.slot, .int .i64 g.data, .int .i64 g.quota, .int .i64 g.tries, .int .i64 g.life] 23)) w1 hb
    by_cases h1 : g.sector ≤ 128
    · by_cases h2 : g.sectors ≤ 60
      · have hvt : Hid (v = true) := hid (hv.out.2 ⟨hr, h1, h2⟩)
        have hM : ((g.sectors.toNat : Nat) : Int) ≤ 60 := by omega
        clear hrb hr hv
        generalize g.sectors.toNat = M at *
        go_enter Try.func6, Try.ntmps6
        go_wp2_with (first
          | (go_at_call 25; (with_reducible refine (cr _ hb0).mono ?_); rintro e w1 ⟨rfl, hb1⟩; have hk1 := HS.out _ hb1)
          | (go_at_call 9; (with_reducible refine (cm _ hb1).mono ?_); rintro e w2 ⟨ma, mc, rfl, hb2⟩))
        go_ret
        exact ⟨ret_bool hvt.out.symm, HB.out _ hb2⟩
      · have hvt : Hid (v = false) := hid (by cases v with | false => rfl | true => exact absurd (hv.out.1 rfl).2.2 h2)
        have hM : ¬ ((g.sectors.toNat : Nat) : Int) ≤ 60 := by omega
        clear hrb hr hv h2
        generalize g.sectors.toNat = M at *
        go_enter Try.func6, Try.ntmps6
        go_wp2_with (first
          | (go_at_call 25; (with_reducible refine (cr _ hb0).mono ?_); rintro e w1 ⟨rfl, hb1⟩; have hk1 := HS.out _ hb1)
          | (go_at_call 9; (with_reducible refine (cm _ hb1).mono ?_); rintro e w2 ⟨ma, mc, rfl, hb2⟩))
        go_ret
        exact ⟨ret_bool (by rw [hvt.out]; simpa using hM), HB.out _ hb2⟩
    · have hvt : Hid (v = false) := hid (by cases v with | false => rfl | true => exact absurd (hv.out.1 rfl).2.1 h1)
      clear hrb hr hv cm
      go_enter Try.func6, Try.ntmps6
      go_wp2_with (first
        | (go_at_call 25; (with_reducible refine (cr _ hb0).mono ?_); rintro e w1 ⟨rfl, hb1⟩; have hk1 := HS.out _ hb1))
      go_ret
      exact ⟨ret_bool hvt.out.symm, HB.out _ hb1⟩
  · have cr := fun w1 hb => right_no_at g hr (w.alloc (.cells #[.int .i64 g.sector, .int .i64 g.slot, .int .i64 g.data, .int .i64 g.quota, .int .i64 g.tries, .int .i64 g.life] 23)) w1 hb
    have hvt : Hid (v = false) := hid (by cases v with | false => rfl | true => exact absurd (hv.out.1 rfl).1 hr)
    clear hr hv
    go_enter Try.func6, Try.ntmps6
    go_wp2_with (first
      | (go_at_call 25; (with_reducible refine (cr _ hb0).mono ?_); rintro e w1 ⟨rfl, hb1⟩; have hk1 := HS.out _ hb1))
    go_ret
    exact ⟨ret_bool hvt.out.symm, HB.out _ hb1⟩
end Go.Proofs.Ytcigijhoeghnnaa.drive
/- Contract of a drive's New. No condition. -/
namespace Go.Proofs.Ytcigijhoeghnnaa.drive
open Go.RowKit Go.Proofs.Ytcigijhoeghnnaa.flash Go.Proofs.Ytcigijhoeghnnaa.geom Go.Proofs.Ytcigijhoeghnnaa.word
set_option linter.unusedVariables false

theorem new_none (g : Geo) (w : World) : Calls Try.prog 11 #[.pointer none, .agg #[.int .i64 g.sector, .int .i64 g.slot, .int .i64 g.data, .int .i64 g.quota, .int .i64 g.tries, .int .i64 g.life]] w fun e w' => e = .returned (.tuple #[.pointer none, .int .i64 1]) ∧ Below w.heap.size w w' := by
  go_enter Try.func11, Try.ntmps11
  go_wp2
  go_ret2
  exact ⟨rfl, (Below.refl _ _).alloc (Nat.le_refl _) _⟩
theorem size_from {S : Nat → Prop} {b : Nat} {F : Fl} {w0 w : World} (h : FlashAt S b F w0) (hb : Below w0.heap.size w0 w) : Calls Try.prog 28 #[.pointer (some ⟨b, 0, none⟩)] w fun e w' => e = .returned (.tuple #[.int .i64 (F.worn.length : Int), .int .i64 (F.long : Int)]) ∧ Below w0.heap.size w0 w' := by
  obtain ⟨ca, cb, cm, bw, cw, bv, cv, h1⟩ := h.later hb
  refine (size_any b F.long F.worn.length cv _ w h1.cell.2.2.2.2.1 h1.cell.2.2.2.2.2.1).mono ?_
  rintro e w' ⟨he, n, rfl⟩
  exact ⟨he, below_drewN hb n⟩
theorem new_bad {S : Nat → Prop} {b : Nat} {F : Fl} {w : World} (h : FlashAt S b F w) (g : Geo) (hn : ¬ (g.Right ∧ (F.worn.length : Int) = g.sectors ∧ (F.long : Int) = g.sector)) :
    Calls Try.prog 11 #[.pointer (some ⟨b, 0, none⟩), .agg #[.int .i64 g.sector, .int .i64 g.slot, .int .i64 g.data, .int .i64 g.quota, .int .i64 g.tries, .int .i64 g.life]] w fun e w' => e = .returned (.tuple #[.pointer none, .int .i64 2]) ∧ Below w.heap.size w w' := by
  have HS := hid (six g w)
  have HB := hid (belowNew g w)
  have hb0 : Below (w.alloc (.cells #[.int .i64 g.sector, .int .i64 g.slot, .int .i64 g.data, .int .i64 g.quota, .int .i64 g.tries, .int .i64 g.life] 23)).heap.size (w.alloc (.cells #[.int .i64 g.sector, .int .i64 g.slot, .int .i64 g.data, .int .i64 g.quota, .int .i64 g.tries, .int .i64 g.life] 23)) (w.alloc (.cells #[.int .i64 g.sector, .int .i64 g.slot, .int .i64 g.data, .int .i64 g.quota, .int .i64 g.tries, .int .i64 g.life] 23)) := Below.refl _ _
  have hk0 := HS.out _ hb0
  by_cases hr : g.Right
  · have cc := fun w1 hb => check_yes_at g hr (w.alloc (.cells #[.int .i64 g.sector, .int .i64 g.slot, .int .i64 g.data, .int .i64 g.quota, .int .i64 g.tries, .int .i64 g.life] 23)) w1 hb
    have cz := fun w1 hb => size_from (h.later ((Below.refl _ w).alloc (Nat.le_refl _) (.cells #[.int .i64 g.sector, .int .i64 g.slot, .int .i64 g.data, .int .i64 g.quota, .int .i64 g.tries, .int .i64 g.life] 23))) (w := w1) hb
    have cs := fun w1 hb => sectors_from g (w.alloc (.cells #[.int .i64 g.sector, .int .i64 g.slot, .int .i64 g.data, .int .i64 g.quota, .int .i64 g.tries, .int .i64 g.life] 23)) w1 hb
    have hn2 : ¬ ((F.worn.length : Int) = g.sectors ∧ (F.long : Int) = g.sector) := fun k => hn ⟨hr, k⟩
    clear h hn hr
    generalize (F.worn.length : Int) = n1 at *
    generalize (F.long : Int) = n2 at *
    generalize hT : g.sectors = T at *
    clear hT
    by_cases h1 : n1 = T
    · subst h1
      have h2 : ¬ n2 = g.sector := fun k => hn2 ⟨rfl, k⟩
      clear hn2
      go_enter Try.func11, Try.ntmps11
      go_wp2_with (first
        | (go_at_call 27; (with_reducible refine (cc _ hb0).mono ?_); rintro e w1 ⟨rfl, hb1⟩; have hk1 := HS.out _ hb1)
        | (go_at_call 28; (with_reducible refine (cz _ hb1).mono ?_); rintro e w2 ⟨rfl, hb2⟩; have hk2 := HS.out _ hb2)
        | (go_at_call 29; (with_reducible refine (cs _ hb2).mono ?_); rintro e w3 ⟨rfl, hb3⟩; have hk3 := HS.out _ hb3))
      go_ret2
      exact ⟨rfl, HB.out _ hb3⟩
    · clear hn2
      go_enter Try.func11, Try.ntmps11
      go_wp2_with (first
        | (go_at_call 27; (with_reducible refine (cc _ hb0).mono ?_); rintro e w1 ⟨rfl, hb1⟩; have hk1 := HS.out _ hb1)
        | (go_at_call 28; (with_reducible refine (cz _ hb1).mono ?_); rintro e w2 ⟨rfl, hb2⟩; have hk2 := HS.out _ hb2)
        | (go_at_call 29; (with_reducible refine (cs _ hb2).mono ?_); rintro e w3 ⟨rfl, hb3⟩; have hk3 := HS.out _ hb3))
      go_ret2
      exact ⟨rfl, HB.out _ hb3⟩
  · have cc := fun w1 hb => check_no_at g hr (w.alloc (.cells #[.int .i64 g.sector, .int .i64 g.slot, .int .i64 g.data, .int .i64 g.quota, .int .i64 g.tries, .int .i64 g.life] 23)) w1 hb
    clear h hn hr
    go_enter Try.func11, Try.ntmps11
    go_wp2_with (go_at_call 27; (with_reducible refine (cc _ hb0).mono ?_); rintro e w1 ⟨rfl, hb1⟩; have hk1 := HS.out _ hb1)
    go_ret2
    exact ⟨rfl, HB.out _ hb1⟩
theorem new_this {S : Nat → Prop} {b : Nat} {F : Fl} {w : World} (h : FlashAt S b F w) {g : Geo} (ft : Fit F g) :
    Calls Try.prog 11 #[.pointer (some ⟨b, 0, none⟩), .agg #[.int .i64 g.sector, .int .i64 g.slot, .int .i64 g.data, .int .i64 g.quota, .int .i64 g.tries, .int .i64 g.life]] w fun e w' => ∃ d, e = .returned (.tuple #[.pointer (some ⟨d, 0, none⟩), .int .i64 0]) ∧ w.heap.size ≤ d ∧ Block w' d 78 [.pointer (some ⟨b, 0, none⟩), .int .i64 g.sector, .int .i64 g.slot, .int .i64 g.data, .int .i64 g.quota, .int .i64 g.tries, .int .i64 g.life] ∧ Below w.heap.size w w' := by
  have HS := hid (six g w)
  have HB := hid (belowNew g w)
  have hb0 : Below (w.alloc (.cells #[.int .i64 g.sector, .int .i64 g.slot, .int .i64 g.data, .int .i64 g.quota, .int .i64 g.tries, .int .i64 g.life] 23)).heap.size (w.alloc (.cells #[.int .i64 g.sector, .int .i64 g.slot, .int .i64 g.data, .int .i64 g.quota, .int .i64 g.tries, .int .i64 g.life] 23)) (w.alloc (.cells #[.int .i64 g.sector, .int .i64 g.slot, .int .i64 g.data, .int .i64 g.quota, .int .i64 g.tries, .int .i64 g.life] 23)) := Below.refl _ _
  have hk0 := HS.out _ hb0
  have cc := fun w1 hb => check_yes_at g ft.right (w.alloc (.cells #[.int .i64 g.sector, .int .i64 g.slot, .int .i64 g.data, .int .i64 g.quota, .int .i64 g.tries, .int .i64 g.life] 23)) w1 hb
  have cz := fun w1 hb => size_from (h.later ((Below.refl _ w).alloc (Nat.le_refl _) (.cells #[.int .i64 g.sector, .int .i64 g.slot, .int .i64 g.data, .int .i64 g.quota, .int .i64 g.tries, .int .i64 g.life] 23))) (w := w1) hb
  have cs := fun w1 hb => sectors_from g (w.alloc (.cells #[.int .i64 g.sector, .int .i64 g.slot, .int .i64 g.data, .int .i64 g.quota, .int .i64 g.tries, .int .i64 g.life] 23)) w1 hb
  rw [ft.n, ft.l] at cz
  clear h ft
  generalize hT : g.sectors = T at *
  clear hT
  go_enter Try.func11, Try.ntmps11
  go_wp2_with (first
    | (go_at_call 27; (with_reducible refine (cc _ hb0).mono ?_); rintro e w1 ⟨rfl, hb1⟩; have hk1 := HS.out _ hb1)
    | (go_at_call 28; (with_reducible refine (cz _ hb1).mono ?_); rintro e w2 ⟨rfl, hb2⟩; have hk2 := HS.out _ hb2)
    | (go_at_call 29; (with_reducible refine (cs _ hb2).mono ?_); rintro e w3 ⟨rfl, hb3⟩; have hk3 := HS.out _ hb3))
  go_ret2
  have hbw := HB.out _ hb3
  exact ⟨_, rfl, hbw.size, Block.new w3 _ [.pointer (some ⟨b, 0, none⟩), .int .i64 g.sector, .int .i64 g.slot, .int .i64 g.data, .int .i64 g.quota, .int .i64 g.tries, .int .i64 g.life], hbw.trans (((Below.refl _ w3).alloc (Nat.le_refl _) _).mono hbw.size)⟩
end Go.Proofs.Ytcigijhoeghnnaa.drive
/- Contracts at a flash of the call's own. No condition but a flash with fewer than 2^62 writes. -/
namespace Go.Proofs.Ytcigijhoeghnnaa.flash
open Go.RowKit Go.Proofs.Ytcigijhoeghnnaa.word
set_option linter.unusedVariables false

/-- a flash of the call's own -/
def Live (w0 : World) (b : Nat) (F : Fl) (w : World) : Prop := ∃ S, FlashAt S b F w ∧ (∀ x, S x → w0.heap.size ≤ x ∧ x < w.heap.size) ∧ Below w0.heap.size w0 w
section
variable {w0 w w' : World} {b : Nat} {F G : Fl}
theorem Live.later (h : Live w0 b F w) (k : Below w.heap.size w w') : Live w0 b F w' := by
  obtain ⟨S, h1, h2, h3⟩ := h
  exact ⟨S, h1.later k, fun x hx => ⟨(h2 x hx).1, Nat.lt_of_lt_of_le (h2 x hx).2 k.size⟩, h3.trans (k.mono h3.size)⟩
theorem Live.did {S : Nat → Prop} {v : Value} {e : Ending} (h2 : ∀ x, S x → w0.heap.size ≤ x ∧ x < w.heap.size) (h3 : Below w0.heap.size w0 w) (k : Did S b G v w e w') : e = .returned v ∧ Live w0 b G w' := by
  obtain ⟨he, S', k1, k2, k3⟩ := k
  refine ⟨he, S', k1, fun x hx => ⟨?_, (k2 x hx).1⟩, h3.trans (k3.below h3.size fun x hx => (h2 x hx).1)⟩
  rcases (k2 x hx).2 with h | h
  · exact (h2 x h).1
  · have := h3.size; omega
theorem Live.program (h : Live w0 b F w) (ok : F.Ok) (hc : F.count < 4611686018427387904) (a : Int) (x : Nat) (hx : x < 4294967296) :
    Calls Try.prog 44 #[.pointer (some ⟨b, 0, none⟩), .int .i64 a, .int .u32 x] w fun e w' => e = .returned (.int .i64 (F.program a x).1) ∧ Live w0 b (F.program a x).2 w' := by
  obtain ⟨S, h1, h2, h3⟩ := h
  exact (program_did h1 ok hc a x hx).mono fun e w' k => Live.did h2 h3 k
theorem Live.erase (h : Live w0 b F w) (ok : F.Ok) (hc : F.count < 4611686018427387904) (s : Int) :
    Calls Try.prog 45 #[.pointer (some ⟨b, 0, none⟩), .int .i64 s] w fun e w' => e = .returned (.int .i64 (F.erase s).1) ∧ Live w0 b (F.erase s).2 w' := by
  obtain ⟨S, h1, h2, h3⟩ := h
  exact (erase_did h1 ok hc s).mono fun e w' k => Live.did h2 h3 k
theorem Live.arm (h : Live w0 b F w) (ok : F.Ok) (n : Int) (hn : n ≤ 9223372036854775807) (a : Option Addr) (len cap : Nat) (M : List Nat) (hr : Reads .u32 w a len M) (hlc : len ≤ cap) (hlen : len ≤ 140737488355328) (hcap : cap ≤ maxLen) (hsep : len = 0 ∨ ∃ x, a = some x ∧ (x.block < w0.heap.size ∨ w.heap.size ≤ x.block)) :
    Calls Try.prog 31 #[.pointer (some ⟨b, 0, none⟩), .int .i64 n, .slice a len cap] w fun e w' => e = .returned (.tuple #[]) ∧ Live w0 b (F.arm n M) w' := by
  obtain ⟨S, h1, h2, h3⟩ := h
  refine (arm_did h1 ok n hn a len cap M hr hlc hlen hcap (hsep.imp id fun ⟨x, hx, ho⟩ => ⟨x, hx, fun hs => ?_⟩)).mono fun e w' k => Live.did h2 h3 k
  have := h2 _ hs
  omega
theorem Live.words (h : Live w0 b F w) (ok : F.Ok) : Calls Try.prog 17 #[.pointer (some ⟨b, 0, none⟩)] w fun e w' => ∃ g cap, e = .returned (.slice (some ⟨g, 0, none⟩) F.ws.length cap) ∧ w.heap.size ≤ g ∧ Row w' 55 .u32 g cap F.ws ∧ Below w.heap.size w w' ∧ Live w0 b F w' := by
  obtain ⟨S, ⟨ca, cb, cm, bw, cw, bv, cv, h1⟩, h2, h3⟩ := h
  refine (words_any h1 ok).mono ?_
  rintro e w' ⟨g, cap, he, hg, hr, hb⟩
  exact ⟨g, cap, he, hg, hr, hb, Live.later ⟨S, ⟨_, _, _, _, _, _, _, h1⟩, h2, h3⟩ hb⟩
theorem Live.gone (h : Live w0 b F w) : Calls Try.prog 55 #[.pointer (some ⟨b, 0, none⟩)] w (Quiet (.bool F.dark) w) := by
  obtain ⟨S, ⟨ca, cb, cm, bw, cw, bv, cv, h1⟩, h2, h3⟩ := h
  exact gone_any b _ w h1.cell.2.2.2.2.2.2.2
theorem Live.writes (h : Live w0 b F w) : Calls Try.prog 16 #[.pointer (some ⟨b, 0, none⟩)] w (Quiet (.int .i64 F.count) w) := by
  obtain ⟨S, ⟨ca, cb, cm, bw, cw, bv, cv, h1⟩, h2, h3⟩ := h
  exact writes_any b _ w h1.cell.2.2.2.2.2.2.1
theorem Live.size (h : Live w0 b F w) : Calls Try.prog 28 #[.pointer (some ⟨b, 0, none⟩)] w (Quiet (.tuple #[.int .i64 (F.worn.length : Int), .int .i64 (F.long : Int)]) w) := by
  obtain ⟨S, ⟨ca, cb, cm, bw, cw, bv, cv, h1⟩, h2, h3⟩ := h
  exact size_any b F.long F.worn.length cv _ w h1.cell.2.2.2.2.1 h1.cell.2.2.2.2.2.1
theorem new_live (s l : Nat) (h1 : 1 ≤ s) (h2 : s ≤ 512) (h3 : 1 ≤ l) (h4 : l ≤ 1024) (hb : Below w0.heap.size w0 w) :
    Calls Try.prog 10 #[.int .i64 s, .int .i64 l] w fun e w' => ∃ b, e = .returned (.tuple #[.pointer (some ⟨b, 0, none⟩), .int .i64 0]) ∧ Live w0 b (Fl.fresh s l) w' := by
  refine (new_any s l h1 h2 h3 h4 w).mono ?_
  rintro e w' ⟨b, he, ⟨ca, cb, cm, bw, cw, bv, cv, hA⟩, hb2⟩
  exact ⟨b, he, _, ⟨_, _, _, _, _, _, _, hA.clip⟩, fun x hx => ⟨Nat.le_trans hb.size hx.1, hx.2⟩, hb.trans (hb2.mono hb.size)⟩
end
end Go.Proofs.Ytcigijhoeghnnaa.flash
/- A drive of the call's own. No condition but a flash with fewer than 2^60 writes. -/
namespace Go.Proofs.Ytcigijhoeghnnaa.drive
open Go.RowKit Go.Proofs.Ytcigijhoeghnnaa.flash Go.Proofs.Ytcigijhoeghnnaa.geom Go.Proofs.Ytcigijhoeghnnaa.word
set_option linter.unusedVariables false

theorem _root_.Go.Proofs.Ytcigijhoeghnnaa.flash.Live.below {w0 w : World} {b : Nat} {F : Fl} (h : Live w0 b F w) : Below w0.heap.size w0 w := by obtain ⟨S, _, _, h⟩ := h; exact h
/-- a drive of the call's own, at d, over a flash of its own, at b -/
def Own (w0 : World) (d b : Nat) (g : Geo) (F : Fl) (w : World) : Prop :=
  ∃ S, DriveAt S d b g F w ∧ (∀ x, S x → w0.heap.size ≤ x ∧ x < w.heap.size) ∧ w0.heap.size ≤ d ∧ Below w0.heap.size w0 w
section
variable {w0 w w' : World} {d b : Nat} {g : Geo} {F G : Fl}
theorem Own.below (h : Own w0 d b g F w) : Below w0.heap.size w0 w := by obtain ⟨S, _, _, _, h⟩ := h; exact h
theorem Own.later (h : Own w0 d b g F w) (k : Below w.heap.size w w') : Own w0 d b g F w' := by
  obtain ⟨S, h1, h2, h3, h4⟩ := h
  exact ⟨S, h1.later k, fun x hx => ⟨(h2 x hx).1, Nat.lt_of_lt_of_le (h2 x hx).2 k.size⟩, h3, h4.trans (k.mono h4.size)⟩
theorem Own.turn {S : Nat → Prop} (h1 : DriveAt S d b g F w) (h2 : ∀ x, S x → w0.heap.size ≤ x ∧ x < w.heap.size) (h3 : w0.heap.size ≤ d) (h4 : Below w0.heap.size w0 w) (k : Turn S b G w w') : Own w0 d b g G w' := by
  obtain ⟨S', hD, k2, k3⟩ := h1.turn k
  refine ⟨S', hD, fun x hx => ⟨?_, (k2 x hx).1⟩, h3, h4.trans (k3.below h4.size fun x hx => (h2 x hx).1)⟩
  rcases (k2 x hx).2 with h | h
  · exact (h2 x h).1
  · have := h4.size; omega
/-- a Write of one word that has just been made -/
theorem own_write1 (h : Own w0 d b g F w) (ok : F.Ok) (ft : Fit F g) (hc : F.count < 2305843009213693952) (s a : Int) (ha : a ≤ 9223372036854775807) (v : Nat) (hv : v < 4294967296) :
    Calls Try.prog 21 #[.pointer (some ⟨d, 0, none⟩), .int .i64 s, .int .i64 a, .slice (some ⟨w.heap.size, 0, none⟩) 1 1] (w.alloc (.cells #[.int .u32 (v : Int)] 55)) fun e w' => e = .returned (.int .i64 (write F g s a [v]).1) ∧ Own w0 d b g (write F g s a [v]).2 w' := by
  have hb : Below w.heap.size w (w.alloc (.cells #[.int .u32 (v : Int)] 55)) := (Below.refl _ _).alloc (Nat.le_refl _) _
  have hr : Reads .u32 (w.alloc (.cells #[.int .u32 (v : Int)] 55)) (some ⟨w.heap.size, 0, none⟩) 1 [v] :=
    (Block.new w 55 [.int .u32 (v : Int)]).reads 0 [v] (fun i hi => by
      have : i = 0 := by simp at hi; omega
      subst this
      rfl) 1 rfl
  obtain ⟨S, h1, h2, h3, h4⟩ := h
  refine (write_this (h1.later hb) ok ft hc s a ha _ 1 1 [v] hr (fun y hy => by simp at hy; omega) (.inr ⟨_, rfl, fun hs => ?_⟩)).mono ?_
  · have h5 := (h2 _ hs).2
    exact absurd h5 (Nat.lt_irrefl _)
  · rintro e w' ⟨he, k⟩
    exact ⟨he, Own.turn (h1.later hb) (fun x hx => ⟨(h2 x hx).1, Nat.lt_of_lt_of_le (h2 x hx).2 hb.size⟩) h3 (h4.trans (hb.mono h4.size)) k⟩
theorem Own.writes (h : Own w0 d b g F w) : Calls Try.prog 16 #[.pointer (some ⟨b, 0, none⟩)] w (Quiet (.int .i64 F.count) w) := by
  obtain ⟨S, h1, _⟩ := h
  obtain ⟨ca, cb, cm, bw, cw, bv, cv, h⟩ := h1.fl
  exact writes_any b _ w h.cell.2.2.2.2.2.2.1
theorem Own.geometry (h : Own w0 d b g F w) : Calls Try.prog 24 #[.pointer (some ⟨d, 0, none⟩)] w fun e w' => e = .returned (.agg #[.int .i64 g.sector, .int .i64 g.slot, .int .i64 g.data, .int .i64 g.quota, .int .i64 g.tries, .int .i64 g.life]) ∧ Below w.heap.size w w' := by
  obtain ⟨S, h1, _⟩ := h
  exact geometry_any h1
/-- a new drive over a flash of the call's own -/
theorem new_own (h : Live w0 b F w) (ft : Fit F g) : Calls Try.prog 11 #[.pointer (some ⟨b, 0, none⟩), .agg #[.int .i64 g.sector, .int .i64 g.slot, .int .i64 g.data, .int .i64 g.quota, .int .i64 g.tries, .int .i64 g.life]] w fun e w' => ∃ d, e = .returned (.tuple #[.pointer (some ⟨d, 0, none⟩), .int .i64 0]) ∧ Own w0 d b g F w' := by
  obtain ⟨S, h1, h2, h3⟩ := h
  refine (new_this h1 ft).mono ?_
  rintro e w' ⟨d, he, hd, hB, hb⟩
  exact ⟨d, he, S, ⟨hB, h1.later hb, fun hs => by have := (h2 _ hs).2; omega⟩, fun x hx => ⟨(h2 x hx).1, Nat.lt_of_lt_of_le (h2 x hx).2 hb.size⟩, Nat.le_trans h3.size hd, h3.trans (hb.mono h3.size)⟩
theorem flash_own (h : g.Right) (hb : Below w0.heap.size w0 w) : Calls Try.prog 10 #[.int .i64 g.sectors, .int .i64 g.sector] w fun e w' => ∃ b, e = .returned (.tuple #[.pointer (some ⟨b, 0, none⟩), .int .i64 0]) ∧ Live w0 b (first g) w' := by
  have hr := right_bounds h
  have := new_live g.sectors.toNat g.sector.toNat (by omega) (by omega) (by omega) (by omega) hb
  rwa [show ((g.sectors.toNat : Nat) : Int) = g.sectors by omega, show ((g.sector.toNat : Nat) : Int) = g.sector by omega] at this
end
end Go.Proofs.Ytcigijhoeghnnaa.drive
/- What a slice of words that came in reads as. No condition. -/
namespace Go.Proofs.Ytcigijhoeghnnaa
open Go.ChangeShapes Go.WideShapes Go.ChangeAt Go.RowKit Go.Deep
set_option linter.unusedVariables false

section
variable {H : Type} {enc : TypeId × Value → H} {P : Program} {W : World}
theorem open_words {t e : TypeId} {v : Value} {fuel : Nat} {y : DataW H × List MemPlace} (ht : P.underlying t = some (.slice e)) (he : P.underlying e = some (.int .u32)) (hc : P.cellsOf e = 1)
    (hf : DataW.trod enc P W 0 (fun _ => true) true fuel t [v] = some y) :
    ∃ (a : Option Addr) (len cap : Nat) (M : List Nat), v = .slice a len cap ∧ Reads .u32 W a len M ∧ (∀ x ∈ M, x < 4294967296) ∧ len ≤ cap ∧ cap ≤ maxLen := by
  rcases open_ints ht he hc hf with ⟨hcs, _⟩ | ⟨x, l, c, zs, hcs, _, hl, hm, hz, hx, hcell, hwz⟩
  · exact ⟨none, 0, 0, [], by simpa using hcs, Reads.nil, by simp, Nat.le_refl _, by unfold maxLen; omega⟩
  · simp only [if_true] at hz
    refine ⟨some x, l, c, (zs.take l).map Int.toNat, by simpa using hcs, ⟨by simp; omega, ?_⟩, ?_, hl, hm⟩
    · by_cases h : l = 0
      · exact .inl h
      · right
        obtain ⟨b, off, spot⟩ := x
        have hspot : spot = none := by simpa [Addr.add] using World.cell?_spot (hcell 0 (by omega))
        subst hspot
        have hb : b < W.heap.size := by
          have := World.block_lt_of_cell? W _ (hcell 0 (by omega))
          simpa [Addr.add] using this
        refine ⟨b, off, rfl, hb, fun i hi => ?_⟩
        have h1 := hcell i (by omega)
        rw [Addr.add_lit] at h1
        rw [h1]
        have hi' : i < zs.length := by omega
        have hn : 0 ≤ zs[i] := (wf_u32 _ (hwz _ (List.getElem_mem hi'))).1
        simp [List.getD, hi, hi']
        omega
    · intro y hy
      obtain ⟨z, hz', rfl⟩ := List.mem_map.1 hy
      have := wf_u32 z (hwz z (List.mem_of_mem_take hz'))
      omega
end
end Go.Proofs.Ytcigijhoeghnnaa
/- What a struct of 5 fields, and a list of such structs, that came in read as. No condition. -/
namespace Go.Proofs.Ytcigijhoeghnnaa.drive
open Go.ChangeShapes Go.WideShapes Go.ChangeAt Go.RowKit Go.Deep
set_option linter.unusedVariables false

structure DAct where
  (k : Int) (s : Int) (a : Int) (n : Int) (w : Option Addr) (wLen wCap : Nat) (wW : List Nat)
instance : Inhabited DAct := ⟨⟨0, 0, 0, 0, none, 0, 0, []⟩⟩
def DAct.val (p : DAct) : Value := .agg #[.int .i64 p.k, .int .i64 p.s, .int .i64 p.a, .int .i64 p.n, .slice p.w p.wLen p.wCap]
structure DAct.Good (W : World) (p : DAct) : Prop where
  unit : True
  bk : -9223372036854775808 ≤ p.k ∧ p.k ≤ 9223372036854775807
  bs : -9223372036854775808 ≤ p.s ∧ p.s ≤ 9223372036854775807
  ba : -9223372036854775808 ≤ p.a ∧ p.a ≤ 9223372036854775807
  bn : -9223372036854775808 ≤ p.n ∧ p.n ≤ 9223372036854775807
  rw : Reads .u32 W p.w p.wLen p.wW
  mw : ∀ y ∈ p.wW, y < 4294967296
  cw : p.wLen ≤ p.wCap
  dw : p.wCap ≤ maxLen
theorem DAct.Good.below {W W' : World} {p : DAct} (h : p.Good W) (hb : Below W.heap.size W W') : p.Good W' := ⟨h.unit, h.bk, h.bs, h.ba, h.bn, h.rw.below hb, h.mw, h.cw, h.dw⟩
theorem DAct.Good.sepw {W : World} {p : DAct} (h : p.Good W) : p.wLen = 0 ∨ ∃ y, p.w = some y ∧ y.block < W.heap.size := by
  rcases h.rw.2 with h0 | ⟨b, off, ha, hlt, _⟩
  · exact .inl h0
  · exact .inr ⟨_, ha, hlt⟩
section
variable {H : Type} {enc : TypeId × Value → H} {P : Program} {W : World}
theorem DAct_cells {t0 t1 t2 t3 t4 e4 : TypeId} {n : Nat} {v0 v1 v2 v3 v4 : Value} {y0 y1 y2 y3 y4 : DataW H × List MemPlace} (u0 : P.underlying t0 = some (.int .i64)) (u1 : P.underlying t1 = some (.int .i64)) (u2 : P.underlying t2 = some (.int .i64)) (u3 : P.underlying t3 = some (.int .i64)) (u4 : P.underlying t4 = some (.slice e4)) (ue4 : P.underlying e4 = some (.int .u32)) (ce4 : P.cellsOf e4 = 1)
    (h0 : DataW.trod enc P W 0 (fun _ => true) true n t0 [v0] = some y0) (h1 : DataW.trod enc P W 0 (fun _ => true) true n t1 [v1] = some y1) (h2 : DataW.trod enc P W 0 (fun _ => true) true n t2 [v2] = some y2) (h3 : DataW.trod enc P W 0 (fun _ => true) true n t3 [v3] = some y3) (h4 : DataW.trod enc P W 0 (fun _ => true) true n t4 [v4] = some y4) :
    ∃ p : DAct, p.Good W ∧ v0 = .int .i64 p.k ∧ v1 = .int .i64 p.s ∧ v2 = .int .i64 p.a ∧ v3 = .int .i64 p.n ∧ v4 = .slice p.w p.wLen p.wCap := by
  obtain ⟨x0, e0, _, w0⟩ := DataW.trod_int u0 h0
  have a0 := wf_i64 _ w0
  obtain ⟨x1, e1, _, w1⟩ := DataW.trod_int u1 h1
  have a1 := wf_i64 _ w1
  obtain ⟨x2, e2, _, w2⟩ := DataW.trod_int u2 h2
  have a2 := wf_i64 _ w2
  obtain ⟨x3, e3, _, w3⟩ := DataW.trod_int u3 h3
  have a3 := wf_i64 _ w3
  obtain ⟨q4, l4, c4, M4, rfl, hr4, hM4, hl4, hc4⟩ := open_words u4 ue4 ce4 h4
  exact ⟨⟨x0, x1, x2, x3, q4, l4, c4, M4⟩, ⟨trivial, a0, a1, a2, a3, hr4, hM4, hl4, hc4⟩, by simpa using e0, by simpa using e1, by simpa using e2, by simpa using e3, rfl⟩
theorem open_DAct_arg {r : Reach} {b0 : Nat} {t e4 : TypeId} {f0 f1 f2 f3 f4 : Field} {v : Value} {d : DataW H} {pl : List MemPlace} (hs : P.underlying t = some (.struct #[f0, f1, f2, f3, f4])) (hone : oneCellFields P #[f0, f1, f2, f3, f4] = true) (hC : P.cellsOf t = 5)
    (u0 : P.underlying f0.type = some (.int .i64)) (u1 : P.underlying f1.type = some (.int .i64)) (u2 : P.underlying f2.type = some (.int .i64)) (u3 : P.underlying f3.type = some (.int .i64)) (u4 : P.underlying f4.type = some (.slice e4)) (ue4 : P.underlying e4 = some (.int .u32)) (ce4 : P.cellsOf e4 = 1)
    (hv : Value.okWide P W r b0 t v) (h : DataW.Trod enc P W 0 (fun _ => true) true t v d pl) : ∃ p : DAct, p.Good W ∧ v = p.val := by
  obtain ⟨cs, rfl, hsz⟩ := okWide_struct hs hv
  obtain ⟨fuel, hf⟩ := h
  rw [hC] at hsz
  obtain ⟨l⟩ := cs
  match l, hsz with
  | [c0, c1, c2, c3, c4], _ =>
    obtain ⟨ys, m, _, _, hl, hlen, hx⟩ := DataW.trod_struct hs hf
    have each : ∀ (i : Nat) (f : Field) (c : Value), #[f0, f1, f2, f3, f4][i]? = some f → [c0, c1, c2, c3, c4][i]? = some c → ∃ y, DataW.trod enc P W 0 (fun _ => true) true m f.type [c] = some y := by
      intro i f c hi hc
      obtain ⟨o, k⟩ := hone_of hone i f hi
      have hi6 : i < 5 := by have := (Array.getElem?_eq_some_iff.1 hi).1; simpa using this
      have h1 := hx i f hi
      rw [o, k] at h1
      have e : (((Value.agg ⟨[c0, c1, c2, c3, c4]⟩).cells.toList.drop i).take 1) = [c] := by
        rw [List.take_one]
        have : ((Value.agg ⟨[c0, c1, c2, c3, c4]⟩).cells.toList.drop i).head? = some c := by
          rw [List.head?_drop]; simpa [Value.cells] using hc
        rw [this]; rfl
      rw [e] at h1
      have hy : ys[i]? = some (ys[i]'(by rw [hlen]; exact hi6)) := List.getElem?_eq_getElem _
      exact ⟨_, h1.trans hy⟩
    obtain ⟨y0, g0⟩ := each 0 f0 c0 rfl rfl
    obtain ⟨y1, g1⟩ := each 1 f1 c1 rfl rfl
    obtain ⟨y2, g2⟩ := each 2 f2 c2 rfl rfl
    obtain ⟨y3, g3⟩ := each 3 f3 c3 rfl rfl
    obtain ⟨y4, g4⟩ := each 4 f4 c4 rfl rfl
    obtain ⟨p, hp, rfl, rfl, rfl, rfl, rfl⟩ := DAct_cells u0 u1 u2 u3 u4 ue4 ce4 g0 g1 g2 g3 g4
    exact ⟨p, hp, rfl⟩
/-- the slice at a reads as the list l -/
def DActs (w : World) (a : Option Addr) (l : List DAct) : Prop :=
  l = [] ∨ ∃ b off, a = some ⟨b, off, none⟩ ∧ b < w.heap.size ∧ ∀ i p, l[i]? = some p → w.cell? ⟨b, off + i * 5, none⟩ = some (.int .i64 p.k) ∧ w.cell? ⟨b, off + i * 5 + 1, none⟩ = some (.int .i64 p.s) ∧ w.cell? ⟨b, off + i * 5 + 2, none⟩ = some (.int .i64 p.a) ∧ w.cell? ⟨b, off + i * 5 + 3, none⟩ = some (.int .i64 p.n) ∧ w.cell? ⟨b, off + i * 5 + 4, none⟩ = some (.slice p.w p.wLen p.wCap)
theorem open_DActs {t e e4 : TypeId} {f0 f1 f2 f3 f4 : Field} {a : Option Addr} {len cap : Nat} {d : DataW H} {pl : List MemPlace} (ht : P.underlying t = some (.slice e)) (he : P.underlying e = some (.struct #[f0, f1, f2, f3, f4])) (hone : oneCellFields P #[f0, f1, f2, f3, f4] = true) (hC : P.cellsOf e = 5)
    (u0 : P.underlying f0.type = some (.int .i64)) (u1 : P.underlying f1.type = some (.int .i64)) (u2 : P.underlying f2.type = some (.int .i64)) (u3 : P.underlying f3.type = some (.int .i64)) (u4 : P.underlying f4.type = some (.slice e4)) (ue4 : P.underlying e4 = some (.int .u32)) (ce4 : P.cellsOf e4 = 1)
    (h0 : DataW.Trod enc P W 0 (fun _ => true) true t (.slice a len cap) d pl) : ∃ l : List DAct, len = l.length ∧ DActs W a l ∧ (∀ p ∈ l, p.Good W) ∧ len ≤ cap ∧ cap ≤ maxLen := by
  obtain ⟨fuel, hf⟩ := h0
  have hf2 : DataW.trod enc P W 0 (fun _ => true) true fuel t [.slice a len cap] = some (d, pl) := by simpa [Value.cells] using hf
  rcases open_slice ht hf2 with ⟨hcs, _⟩ | ⟨A, len', cap', q, n, D, Pl, hcs, _, hlc, hcm, hm, hx0, hrow⟩
  · simp at hcs
    obtain ⟨rfl, rfl, rfl⟩ := hcs
    exact ⟨[], rfl, .inl rfl, by simp, Nat.le_refl _, by unfold maxLen; omega⟩
  · simp at hcs
    obtain ⟨rfl, rfl, rfl⟩ := hcs
    simp only [if_true] at hm
    have each : ∀ r, r < len → ∃ p : DAct, p.Good W ∧ W.cell? (A.add (r * 5)) = some (.int .i64 p.k) ∧ W.cell? (A.add (r * 5 + 1)) = some (.int .i64 p.s) ∧ W.cell? (A.add (r * 5 + 2)) = some (.int .i64 p.a) ∧ W.cell? (A.add (r * 5 + 3)) = some (.int .i64 p.n) ∧ W.cell? (A.add (r * 5 + 4)) = some (.slice p.w p.wLen p.wCap) := by
      intro r hr
      obtain ⟨cs', h1, h2⟩ := hrow r (by omega)
      rw [hC] at h1
      obtain ⟨_, hlen0, hcell⟩ := World.cells?_some h1
      obtain ⟨ys, m, _, _, hl, hlen, hx⟩ := DataW.trod_struct he h2
      rw [hC] at hl
      match cs', hl with
      | [c0, c1, c2, c3, c4], _ =>
        have each : ∀ (i : Nat) (f : Field) (c : Value), #[f0, f1, f2, f3, f4][i]? = some f → [c0, c1, c2, c3, c4][i]? = some c → ∃ y, DataW.trod enc P W 0 (fun _ => true) true m f.type [c] = some y := by
          intro i f c hi hc
          obtain ⟨o, k⟩ := hone_of hone i f hi
          have hi6 : i < 5 := by have := (Array.getElem?_eq_some_iff.1 hi).1; simpa using this
          have h1 := hx i f hi
          rw [o, k] at h1
          have e : (([c0, c1, c2, c3, c4].drop i).take 1) = [c] := by
            rw [List.take_one]
            have : ([c0, c1, c2, c3, c4].drop i).head? = some c := by
              rw [List.head?_drop]; simpa using hc
            rw [this]; rfl
          rw [e] at h1
          have hy : ys[i]? = some (ys[i]'(by rw [hlen]; exact hi6)) := List.getElem?_eq_getElem _
          exact ⟨_, h1.trans hy⟩
        obtain ⟨y0, g0⟩ := each 0 f0 c0 rfl rfl
        obtain ⟨y1, g1⟩ := each 1 f1 c1 rfl rfl
        obtain ⟨y2, g2⟩ := each 2 f2 c2 rfl rfl
        obtain ⟨y3, g3⟩ := each 3 f3 c3 rfl rfl
        obtain ⟨y4, g4⟩ := each 4 f4 c4 rfl rfl
        obtain ⟨p, hp, rfl, rfl, rfl, rfl, rfl⟩ := DAct_cells u0 u1 u2 u3 u4 ue4 ce4 g0 g1 g2 g3 g4
        have k0 := hcell 0 (by omega)
        have k1 := hcell 1 (by omega)
        have k2 := hcell 2 (by omega)
        have k3 := hcell 3 (by omega)
        have k4 := hcell 4 (by omega)
        rw [add_add] at k0 k1 k2 k3 k4
        exact ⟨p, hp, by simpa using k0, by simpa using k1, by simpa using k2, by simpa using k3, by simpa using k4⟩
    obtain ⟨y, hy⟩ := choose_lt each
    refine ⟨(List.range len).map y, by simp, ?_, ?_, by omega, hcm⟩
    · by_cases hz : len = 0
      · subst hz; exact .inl rfl
      · right
        obtain ⟨b, off, spot⟩ := A
        have hc0 := (hy 0 (by omega)).2.1
        have hspot : spot = none := by simpa [Addr.add] using World.cell?_spot hc0
        subst hspot
        have hb : b < W.heap.size := by
          have := World.block_lt_of_cell? W _ hc0
          simpa [Addr.add] using this
        refine ⟨b, off, rfl, hb, fun i p hp => ?_⟩
        have hi : i < len := by have := (List.getElem?_eq_some_iff.1 hp).1; simpa using this
        simp [hi] at hp
        subst hp
        obtain ⟨_, e50, e51, e52, e53, e54⟩ := hy i hi
        rw [Addr.add_lit] at e50 e51 e52 e53 e54
        exact ⟨e50, by rw [Nat.add_assoc]; exact e51, by rw [Nat.add_assoc]; exact e52, by rw [Nat.add_assoc]; exact e53, by rw [Nat.add_assoc]; exact e54⟩
    · intro p hp
      obtain ⟨i, hi, rfl⟩ := List.mem_map.1 hp
      exact (hy i (List.mem_range.1 hi)).1
end
theorem DActs.below {w w' : World} {a : Option Addr} {l : List DAct} (h : DActs w a l) (hb : Below w.heap.size w w') : DActs w' a l := by
  rcases h with h | ⟨b, off, ha, hlt, hc⟩
  · exact .inl h
  · refine .inr ⟨b, off, ha, Nat.lt_of_lt_of_le hlt hb.size, fun i p hp => ?_⟩
    rw [hb.cell (p := ⟨b, off + i * 5, none⟩) hlt, hb.cell (p := ⟨b, off + i * 5 + 1, none⟩) hlt, hb.cell (p := ⟨b, off + i * 5 + 2, none⟩) hlt, hb.cell (p := ⟨b, off + i * 5 + 3, none⟩) hlt, hb.cell (p := ⟨b, off + i * 5 + 4, none⟩) hlt]
    exact hc i p hp
theorem DActs.at {w : World} {a : Option Addr} {l : List DAct} (h : DActs w a l) {i : Nat} (hi : i < l.length) :
    ∃ b off p, a = some ⟨b, off, none⟩ ∧ b < w.heap.size ∧ l[i]? = some p ∧ w.cell? ⟨b, off + i * 5, none⟩ = some (.int .i64 p.k) ∧ w.cell? ⟨b, off + i * 5 + 1, none⟩ = some (.int .i64 p.s) ∧ w.cell? ⟨b, off + i * 5 + 2, none⟩ = some (.int .i64 p.a) ∧ w.cell? ⟨b, off + i * 5 + 3, none⟩ = some (.int .i64 p.n) ∧ w.cell? ⟨b, off + i * 5 + 4, none⟩ = some (.slice p.w p.wLen p.wCap) := by
  rcases h with rfl | ⟨b, off, ha, hlt, hc⟩
  · simp at hi
  · have hp := List.getElem?_eq_getElem hi
    exact ⟨b, off, _, ha, hlt, hp, hc i _ hp⟩
end Go.Proofs.Ytcigijhoeghnnaa.drive
